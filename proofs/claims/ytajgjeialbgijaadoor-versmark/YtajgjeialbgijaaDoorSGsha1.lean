import Derived.Laws.BitsAllLaws
import Derived.Laws.Entries
import Derived.WalkKit
import Derived.WalkSpells
import Derived.Lib.Hide
import Derived.Laws.ShiftsVarLaws
import Derived.Below
import Derived.Laws.OwnMore
import Derived.Deep.Draws
import Derived.Laws.Rows
import Derived.Laws.CopyRow
import Derived.Laws.CopyOwn
import Derived.Laws.Tables
import Derived.StillTailTactics
import Derived.Deep.QuietTactic
import Derived.BigQuiet
import Derived.Maps.AppendAt
import Derived.Deep.AppendLies
import Derived.Test.YtajgjeialbgijaaDoorProg
namespace Go.Proofs.YtajgjeialbgijaaDoor
open Go
theorem zpt:(∀ (a:Act) (v:Value),a.put none v=a)/\(∀ (a:Act) (t:Tmp) (v:Value),a.put (some t) v={ a with tmps:=a.tmps.setIfInBounds t v })/\(∀ (l:List Value) (i:Nat) (v:Value),l.toArray.setIfInBounds i v=(l.set i v).toArray)/\(∀ (x v:Value) (l:List Value),(x :: l).set 0 v=v :: l)/\∀ (x v:Value) (l:List Value) (i:Nat),(x :: l).set (i + 1) v=x :: l.set i v :=
 ⟨fun _ _=>rfl,fun _ _ _=>rfl,fun _ _ _=>List.setIfInBounds_toArray ..,fun _ _ _=>rfl,fun _ _ _ _=>rfl⟩
theorem zge:(∀ (l:List Oper) (i:Nat),l.toArray[i]?=l[i]?)/\(∀ (x:Oper) (l:List Oper) (i:Nat),(x :: l)[i + 1]?=l[i]?)/\∀ (x:Oper) (l:List Oper),(x :: l)[0]?=some x :=
 ⟨fun _ _=>List.getElem?_toArray ..,fun _ _ _=>rfl,fun _ _=>rfl⟩
end Go.Proofs.YtajgjeialbgijaaDoor
namespace Go.Proofs.YtajgjeialbgijaaDoor.Sha
set_option linter.unusedVariables false
set_option linter.unusedSimpArgs false
set_option maxRecDepth 100000
def forceN {α:Type} (n:Nat) (f:Nat->α):α:=Nat.rec (f 0) (fun k _=>f (k + 1)) n
def force {α:Type} (x:Int) (f:Int->α):α :=
 match x with
 | .ofNat n=>forceN n fun k=>f (.ofNat k)
 | .negSucc n=>forceN n fun k=>f (.negSucc k)
theorem forceN_eq {α:Type} (n:Nat) (f:Nat->α):forceN n f=f n:=by cases n <;> rfl
theorem force_eq {α:Type} (x:Int) (f:Int->α):force x f=f x:=by cases x <;> simp [force,forceN_eq]
def add (a b:Int):Int:=IntKind.u32.wrap (a + b)
def xr (a b:Int):Int:=bits .xor .u32 a b
def an (a b:Int):Int:=bits .and .u32 a b
def no (a:Int):Int:=bits .xor .u32 IntKind.u32.max a
def rot (x:Int) (n:Nat):Int:=bits .or .u32 (x / 2 ^ n) (IntKind.u32.wrap (x * 2 ^ (32 - n)))
def big0 (x:Int):Int:=xr (xr (rot x 2) (rot x 13)) (rot x 22)
def big1 (x:Int):Int:=xr (xr (rot x 6) (rot x 11)) (rot x 25)
def sm0 (x:Int):Int:=xr (xr (rot x 7) (rot x 18)) (x / 8)
def sm1 (x:Int):Int:=xr (xr (rot x 17) (rot x 19)) (x / 1024)
def ch (e f g:Int):Int:=xr (an e f) (an (no e) g)
def maj (a b c:Int):Int:=xr (xr (an a b) (an a c)) (an b c)
def nextW (a b c d:Int):Int:=add (add (add a b) c) d
def wordOf (a b c d:UInt8):Int :=
 bits .or .u32 (bits .or .u32 (bits .or .u32 ((a.toNat:Int) * 16777216) ((b.toNat:Int) * 65536)) ((c.toNat:Int) * 256)) (d.toNat:Int)
def firsts:List UInt8->List Int
 | a :: b :: c :: d :: r=>force (wordOf a b c d) fun x=>x :: firsts r
 | _=>[]
def nx (l:List Int):Int:=nextW (l.getD (l.length - 16) 0) (l.getD (l.length - 7) 0) (sm0 (l.getD (l.length - 15) 0)) (sm1 (l.getD (l.length - 2) 0))
def ext:Nat->List Int->List Int
 | 0,l=>l
 | n + 1,l=>force (nx l) fun x=>ext n (l ++ [x])
def sched (b:List UInt8):List Int:=ext 48 (firsts b)
def K:List Int:=[
 0x428a2f98,0x71374491,0xb5c0fbcf,0xe9b5dba5,0x3956c25b,0x59f111f1,0x923f82a4,0xab1c5ed5,
 0xd807aa98,0x12835b01,0x243185be,0x550c7dc3,0x72be5d74,0x80deb1fe,0x9bdc06a7,0xc19bf174,
 0xe49b69c1,0xefbe4786,0x0fc19dc6,0x240ca1cc,0x2de92c6f,0x4a7484aa,0x5cb0a9dc,0x76f988da,
 0x983e5152,0xa831c66d,0xb00327c8,0xbf597fc7,0xc6e00bf3,0xd5a79147,0x06ca6351,0x14292967,
 0x27b70a85,0x2e1b2138,0x4d2c6dfc,0x53380d13,0x650a7354,0x766a0abb,0x81c2c92e,0x92722c85,
 0xa2bfe8a1,0xa81a664b,0xc24b8b70,0xc76c51a3,0xd192e819,0xd6990624,0xf40e3585,0x106aa070,
 0x19a4c116,0x1e376c08,0x2748774c,0x34b0bcb5,0x391c0cb3,0x4ed8aa4a,0x5b9cca4f,0x682e6ff3,
 0x748f82ee,0x78a5636f,0x84c87814,0x8cc70208,0x90befffa,0xa4506ceb,0xbef9a3f7,0xc67178f2]
def H0:List Int:=[0x6a09e667,0xbb67ae85,0x3c6ef372,0xa54ff53a,0x510e527f,0x9b05688c,0x1f83d9ab,0x5be0cd19]
def one (e f g h k w:Int):Int:=add (add (add (add h k) w) (big1 e)) (ch e f g)
def two (a b c:Int):Int:=add (big0 a) (maj a b c)
def run:List Int->List Int->Int->Int->Int->Int->Int->Int->Int->Int->List Int
 | k :: ks,w :: ws,a,b,c,d,e,f,g,h=>force (one e f g h k w) fun x=>force (add d x) fun e'=>force (add x (two a b c)) fun a'=>run ks ws a' a b c e' e f g
 | _,_,a,b,c,d,e,f,g,h=>[a,b,c,d,e,f,g,h]
def adds:List Int->List Int->List Int
 | a :: l,b :: r=>force (add a b) fun x=>x :: adds l r
 | _,_=>[]
def comp (s:List Int) (b:List UInt8):List Int:=adds s (run K (sched b) (s.getD 0 0) (s.getD 1 0) (s.getD 2 0) (s.getD 3 0) (s.getD 4 0) (s.getD 5 0) (s.getD 6 0) (s.getD 7 0))
def blocks:Nat->List Int->List UInt8->List Int
 | 0,s,_=>s
 | n + 1,s,m=>blocks n (comp s (m.take 64)) (m.drop 64)
def absorb (m:List UInt8):List Int:=blocks (m.length / 64) H0 m
def by8 (x:Int):UInt8:=UInt8.ofNat (x % 256).toNat
def bytesOf (x:Int):List UInt8:=[by8 (x / 16777216),by8 (x / 65536),by8 (x / 256),by8 x]
def flat:List Int->List UInt8
 | []=>[]
 | x :: l=>by8 (x / 16777216) :: by8 (x / 65536) :: by8 (x / 256) :: by8 x :: flat l
def size8 (n:Nat):List UInt8:=(List.range 8).map fun i=>UInt8.ofNat (n / 2 ^ (8 * (7 - i)))
def tail (n:Nat):List UInt8:=128 :: List.replicate (63 - (n + 8) % 64) 0 ++ size8 (n * 8)
def sum (m:List UInt8):List UInt8:=flat (absorb (m ++ tail m.length))
def key0 (k:List UInt8):List UInt8:=if 64 < k.length then sum k else k
def keyBlock (k:List UInt8):List UInt8:=key0 k ++ List.replicate (64 - (key0 k).length) 0
def mask (x:UInt8) (b:List UInt8):List UInt8:=b.map (· ^^^ x)
def hmac (k m:List UInt8):List UInt8:=sum (mask 0x5c (keyBlock k) ++ sum (mask 0x36 (keyBlock k) ++ m))
def sums (k info:List UInt8):Nat->Nat->List UInt8->List UInt8
 | 0,_,_=>[]
 | n + 1,i,last=>hmac k (last ++ info ++ [UInt8.ofNat (i + 1)]) ++ sums k info n (i + 1) (hmac k (last ++ info ++ [UInt8.ofNat (i + 1)]))
def expand (k info:List UInt8) (n:Nat):List UInt8:=(sums k info ((n + 31) / 32) 0 []).take n
theorem firsts_cons (a b c d:UInt8) (r:List UInt8):firsts (a :: b :: c :: d :: r)=wordOf a b c d :: firsts r:=by rw [firsts,force_eq]
theorem ext_succ (n:Nat) (l:List Int):ext (n + 1) l=ext n (l ++ [nx l]):=by rw [ext,force_eq]
theorem length_ext:∀ (n:Nat) (l:List Int),(ext n l).length=l.length + n
 | 0,l=>rfl
 | n + 1,l=>by rw [ext_succ,length_ext n]; simp; omega
theorem firsts_length:∀ (n:Nat) (b:List UInt8),b.length=4 * n->(firsts b).length=n
 | 0,b,h=>by
  obtain rfl:b=[]:=List.eq_nil_of_length_eq_zero (by omega)
  rfl
 | n + 1,a :: b :: c :: d :: r,h=>by
  rw [firsts_cons]
  simp only [List.length_cons] at h ⊢
  rw [firsts_length n r (by omega)]
 | n + 1,[],h=>by simp at h
 | n + 1,[_],h=>by simp at h; omega
 | n + 1,[_,_],h=>by simp at h; omega
 | n + 1,[_,_,_],h=>by simp at h; omega
theorem sched_length (b:List UInt8) (h:b.length=64):(sched b).length=64:=by unfold sched; rw [length_ext,firsts_length 16 b (by omega)]
theorem run_cons (k:Int) (ks:List Int) (w:Int) (ws:List Int) (a b c d e f g h:Int) :
  run (k :: ks) (w :: ws) a b c d e f g h=run ks ws (add (one e f g h k w) (two a b c)) a b c (add d (one e f g h k w)) e f g:=by rw [run,force_eq,force_eq,force_eq]
theorem run_nil (ws:List Int) (a b c d e f g h:Int):run [] ws a b c d e f g h=[a,b,c,d,e,f,g,h]:=by simp [run]
theorem K_length:K.length=64:=rfl
theorem run_length:∀ (ks ws:List Int) (a b c d e f g h:Int),(run ks ws a b c d e f g h).length=8
 | [],_,_,_,_,_,_,_,_,_=>by simp [run]
 | _ :: _,[],_,_,_,_,_,_,_,_=>by simp [run]
 | k :: ks,w :: ws,a,b,c,d,e,f,g,h=>by rw [run_cons]; exact run_length ks ws _ _ _ _ _ _ _ _
theorem adds_cons (a:Int) (l:List Int) (b:Int) (r:List Int):adds (a :: l) (b :: r)=add a b :: adds l r:=by rw [adds,force_eq]
theorem adds_length:∀ (l r:List Int),l.length=r.length->(adds l r).length=l.length
 | [],[],_=>rfl
 | a :: l,b :: r,h=>by rw [adds_cons]; simp only [List.length_cons] at h ⊢; rw [adds_length l r (by omega)]
 | [],_ :: _,h=>by simp at h
 | _ :: _,[],h=>by simp at h
theorem comp_length (s:List Int) (b:List UInt8) (h:s.length=8):(comp s b).length=8:=by
 unfold comp
 rw [adds_length _ _ (by rw [run_length,h]),h]
theorem blocks_length:∀ (n:Nat) (s:List Int) (m:List UInt8),s.length=8->(blocks n s m).length=8
 | 0,_,_,h=>h
 | n + 1,s,m,h=>blocks_length n _ _ (comp_length _ _ h)
theorem blocks_add:∀ (n k:Nat) (s:List Int) (m:List UInt8),blocks (n + k) s m=blocks k (blocks n s m) (m.drop (64 * n))
 | 0,k,s,m=>by simp [blocks]
 | n + 1,k,s,m=>by
  have e:n + 1 + k=(n + k) + 1:=by omega
  rw [e,blocks,blocks_add n k,blocks,List.drop_drop]
  congr 2
  omega
theorem blocks_append:∀ (n:Nat) (s:List Int) (m r:List UInt8),64 * n<=m.length->blocks n s (m ++ r)=blocks n s m
 | 0,_,_,_,_=>rfl
 | n + 1,s,m,r,h=>by
  rw [blocks,blocks,List.take_append_of_le_length (by omega),List.drop_append_of_le_length (by omega),blocks_append n]
  simp
  omega
theorem absorb_length (m:List UInt8):(absorb m).length=8:=blocks_length _ _ _ rfl
theorem absorb_block (m b:List UInt8) (hm:m.length % 64 + b.length=64):absorb (m ++ b)=comp (absorb m) (m.drop (64 * (m.length / 64)) ++ b):=by
 have e:(m ++ b).length / 64=m.length / 64 + 1:=by rw [List.length_append]; omega
 unfold absorb
 rw [e,blocks_add,blocks_append _ _ _ _ (by omega),List.drop_append_of_le_length (by omega)]
 show comp _ (List.take 64 _)=_
 rw [List.take_of_length_le]
 simp
 omega
theorem absorb_less (m b:List UInt8) (hm:m.length % 64 + b.length < 64):absorb (m ++ b)=absorb m:=by
 have e:(m ++ b).length / 64=m.length / 64:=by rw [List.length_append]; omega
 unfold absorb
 rw [e,blocks_append _ _ _ _ (by omega)]
theorem flat_length:∀ l:List Int,(flat l).length=4 * l.length
 | []=>rfl
 | x :: l=>by simp only [flat,List.length_cons,flat_length l]; omega
theorem sum_length (m:List UInt8):(sum m).length=32:=by unfold sum; rw [flat_length,absorb_length]
theorem size8_length (n:Nat):(size8 n).length=8:=rfl
theorem tail_length (n:Nat):(tail n).length=72 - (n + 8) % 64:=by simp [tail,size8_length]; omega
theorem key0_length (k:List UInt8):(key0 k).length<=64:=by
 unfold key0
 split
 ·rw [sum_length]; omega
 ·omega
theorem keyBlock_length (k:List UInt8):(keyBlock k).length=64:=by have:=key0_length k; simp [keyBlock]; omega
theorem mask_length (x:UInt8) (b:List UInt8):(mask x b).length=b.length:=by simp [mask]
theorem hmac_length (k m:List UInt8):(hmac k m).length=32:=sum_length _
theorem sums_length (k info:List UInt8):∀ (n i:Nat) (last:List UInt8),(sums k info n i last).length=32 * n
 | 0,_,_=>rfl
 | n + 1,i,last=>by rw [sums,List.length_append,hmac_length,sums_length]; omega
theorem expand_length (k info:List UInt8) (n:Nat):(expand k info n).length=n:=by unfold expand; rw [List.length_take,sums_length]; omega
end Go.Proofs.YtajgjeialbgijaaDoor.Sha
namespace Go.Proofs.YtajgjeialbgijaaDoor
set_option linter.unusedVariables false
set_option linter.unusedSimpArgs false
set_option maxRecDepth 100000
open Go.RowKit
theorem ret_int {k:IntKind} {a b:Int} (h:a=b):Ending.returned (.int k a) = .returned (.int k b):=by rw [h]
theorem and31:∀ n:Nat,n < 32->1<=n->bits .and .u64 (IntKind.u64.wrap (-(n:Int))) 31=32 - (n:Int):=by decide +kernel
theorem or_comm32 (a b:Int):bits .or .u32 a b=bits .or .u32 b a:=by
 show IntKind.u32.wrap ((BitVec.ofInt 32 a ||| BitVec.ofInt 32 b).toNat:Int)=IntKind.u32.wrap ((BitVec.ofInt 32 b ||| BitVec.ofInt 32 a).toNat:Int)
 rw [BitVec.or_comm]
set_option maxHeartbeats 400000 in
theorem rotl_any (x:Int) (n:Nat) (w:World) (h1:1<=n) (h2:n < 32) :
  Calls Tryd.prog 91 #[.int .u32 x,.int .i64 (-(n:Int))] w fun e w'=>e = .returned (.int .u32 (Sha.rot x n))/\w=w':=by
 have h31:=and31 n h2 h1
 go_enter Tryd.func91,Tryd.ntmps91
 go_wp2
 go_ret
 exact ⟨ret_int (by unfold Sha.rot; rw [or_comm32,IntKind.wrap_u32',show 32 - (32 - n)=n by omega]),rfl⟩
set_option maxHeartbeats 400000 in
theorem turn_any (x:Int) (n:Nat) (w:World) (h1:1<=n) (h2:n < 32) :
  Calls Tryd.prog 86 #[.int .u32 x,.int .i64 (n:Int)] w fun e w'=>e = .returned (.int .u32 (Sha.rot x n))/\w=w':=by
 go_enter Tryd.func86,Tryd.ntmps86
 go_wp2_with (go_at_call 91; refine (rotl_any _ _ _ h1 h2).mono ?_; rintro e w' ⟨rfl,rfl⟩)
 go_ret
 exact ⟨rfl,rfl⟩
set_option maxHeartbeats 400000 in
theorem right_any (x:Int) (n:Nat) (w:World) (h1:1<=n) (h2:n < 32) :
  Calls Tryd.prog 74 #[.int .u32 x,.int .u64 (n:Int)] w fun e w'=>e = .returned (.int .u32 (Sha.rot x n))/\w=w':=by
 go_enter Tryd.func74,Tryd.ntmps74
 go_wp2
 go_ret
 exact ⟨ret_int (by unfold Sha.rot; rw [IntKind.wrap_u32']),rfl⟩
end Go.Proofs.YtajgjeialbgijaaDoor
namespace Go.Proofs.YtajgjeialbgijaaDoor
set_option linter.unusedVariables false
set_option linter.unusedSimpArgs false
set_option maxRecDepth 100000
open Go.RowKit
def cellOf (b:UInt8):Value:=.int .u8 (b.toNat:Int)
def wd (x:Int):Value:=.int .u32 x
def Blk (w:World) (g:Nat) (t:TypeId) (cs:List Value):Prop:=w.heap[g]?=some (.cells cs.toArray t (0,0))
section
variable {w w':World} {g:Nat} {t:TypeId} {cs:List Value}
theorem Blk.lt (h:Blk w g t cs):g < w.heap.size:=by
 rcases Nat.lt_or_ge g w.heap.size with hlt | hge
 ·exact hlt
 ·unfold Blk at h; rw [Array.getElem?_eq_none hge] at h; cases h
theorem Blk.cell (h:Blk w g t cs) (i:Nat):w.cell? ⟨g,i,none⟩=cs[i]?:=by
 rw [cell_of_row w g i cs.toArray t (0,0) h]; simp
theorem Blk.frozen (h:Blk w g t cs) (i:Nat):w.frozen? ⟨g,i,none⟩=false:=frozen_of_row w g i cs.toArray t h
theorem Blk.new (w:World) (t:TypeId) (cs:List Value):Blk (w.alloc (.cells cs.toArray t)) w.heap.size t cs:=heap_alloc_new w _
theorem Blk.at_new (w:World) (g:Nat) (t:TypeId) (cs:List Value) (a:Array Value) (ha:a=cs.toArray) (hg:g=w.heap.size):Blk (w.alloc (.cells a t)) g t cs:=by subst hg; subst ha; exact Blk.new w t cs
theorem Blk.drew (h:Blk w g t cs):Blk w.drew g t cs:=h
theorem Blk.alloc (h:Blk w g t cs) (o:Obj):Blk (w.alloc o) g t cs:=(Below.heap_alloc w o g h.lt).trans h
theorem Blk.set_ (h:Blk w g t cs) (i:Nat) (u:Value):Blk (w.setCell ⟨g,i,none⟩ u) g t (cs.set i u):=by
 unfold Blk at h ⊢
 simp [World.setCell,Array.getElem?_modify,h]
theorem Blk.far (h:Blk w g t cs) {p:Addr} (hp:g ≠ p.block) (u:Value):Blk (w.setCell p u) g t cs:=(Below.heap_setCell w p u g hp).trans h
theorem Blk.below {B:Nat} (h:Blk w g t cs) (hb:Below B w w') (hg:g < B):Blk w' g t cs:=(hb.block g hg).trans h
theorem Blk.row {cs':List Value} (h:Blk w g t cs):Blk (w.setRow g cs'.toArray) g t cs':=setRow_heap w g _ _ t _ h
theorem Blk.rowFar (h:Blk w g t cs) {k:Nat} (hk:g ≠ k) (c:Array Value):Blk (w.setRow k c) g t cs:=(setRow_other w k g c hk).trans h
end
theorem add_plain (b off j:Nat):(⟨b,off,none⟩:Addr).add j=⟨b,off + j,none⟩:=by unfold Addr.add; split <;> simp_all
theorem run_loadVar_list {P:Program} (w:World) (ty:TypeId) (b off:Nat) (l:List Value) (d:TypeDesc) (hu:P.underlying ty=some d) (hd:(match d with | .struct _ | .array _ _=>true | _=>false)=true)
  (hi:(P.info? ty).map (·.size)=some l.length) (h:∀ j v,l[j]?=some v->w.cell? ⟨b,off + j,none⟩=some v):(loadVar ty ⟨b,off,none⟩).run P w = .ok (.agg l.toArray) w:=by
 have hl:(loadCells ⟨b,off,none⟩ l.length).run P w = .ok l.toArray w :=
  run_loadCells_list (P:=P) w ⟨b,off,none⟩ l (fun j v hv=>by rw [add_plain]; exact h j v hv)
 cases hq:P.info? ty with
 | none=>simp [hq] at hi
 | some i =>
  have hs:i.size=l.length:=by simpa [hq] using hi
  have ha:(isAgg ty).run P w = .ok true w:=by
   cases d <;> simp at hd <;> simp [isAgg,run_underlying hu]
  simp [loadVar,ha,sizeOf,typeInfo,hq,hs,hl]
theorem run_storeVar_part {P:Program} (w:World) (ty:TypeId) (g off:Nat) (t:TypeId) (cs vs:List Value) (hb:Blk w g t cs) (hi:(P.info? ty).map (·.size)=some vs.length) (hfit:off + vs.length<=cs.length) (h1:∀ v ∈ vs,v.oneCell'=true) :
  (storeVar ty ⟨g,off,none⟩ (.agg vs.toArray)).run P w = .ok () (w.setRow g (cs.take off ++ vs ++ cs.drop (off + vs.length)).toArray):=by
 have hst:=run_storeCells_at P g off t vs 0 cs.toArray w hb (by simpa using hfit) h1
 cases hq:P.info? ty with
 | none=>simp [hq] at hi
 | some i =>
  have hs:i.size=vs.length:=by simpa [hq] using hi
  simpa [storeVar,sizeOf,typeInfo,hq,Value.cells,hs] using hst
theorem Blk.cells {w:World} {g:Nat} {t:TypeId} {cs:List Value} (h:Blk w g t cs):∀ j v,cs[j]?=some v->w.cell? ⟨g,0 + j,none⟩=some v:=fun j v hv=>by rw [Nat.zero_add,h.cell,hv]
theorem load_law {P:Program} {ops:Array Oper} {rest:List Oper} {o:Oper} {a:Act} {w:World} {Q:Exit->Act->World->Prop} (hgd:o.guard=none) (ty:TypeId) (x:Operand) (ho:o.op = .load ty x)
  (b off:Nat) (hx:a.eval x = .pointer (some ⟨b,off,none⟩)) (l:List Value) (d:TypeDesc) (hu:P.underlying ty=some d) (hd:(match d with | .struct _ | .array _ _=>true | _=>false)=true)
  (hi:(P.info? ty).map (·.size)=some l.length) (h:∀ j v,l[j]?=some v->w.cell? ⟨b,off + j,none⟩=some v)
  (hk:wpList P ops Q rest (a.put o.dst (.agg l.toArray)) w):wpList P ops Q (o :: rest) a w:=by
 refine wpList_plain hgd fun _ hK=>?_
 unfold Oper.wp execOp
 simp only [ho,hx,Instr.loadAt,Instr.sureAddr,Sem.run_bind,Sem.run_pure,Result.andThen_ok,run_loadVar_list w ty b off l d hu hd hi h]
 exact hK _ _ hk
theorem store_law {P:Program} {ops:Array Oper} {rest:List Oper} {o:Oper} {a:Act} {w:World} {Q:Exit->Act->World->Prop} (hgd:o.guard=none) (ty:TypeId) (x y:Operand) (ho:o.op = .store ty x y)
  (g off:Nat) (hx:a.eval x = .pointer (some ⟨g,off,none⟩)) (vs:List Value) (hy:a.eval y = .agg vs.toArray) (t:TypeId) (cs:List Value) (hb:Blk w g t cs) (hi:(P.info? ty).map (·.size)=some vs.length)
  (hfit:off + vs.length<=cs.length) (h1:∀ v ∈ vs,v.oneCell'=true)
  (hk:wpList P ops Q rest (a.put o.dst undef) (w.setRow g (cs.take off ++ vs ++ cs.drop (off + vs.length)).toArray)):wpList P ops Q (o :: rest) a w:=by
 refine wpList_plain hgd fun _ hK=>?_
 unfold Oper.wp execOp
 simp only [ho,hx,hy,Instr.storeAt,Instr.sureAddr,Sem.run_bind,Sem.run_pure,Result.andThen_ok,run_storeVar_part w ty g off t cs vs hb hi hfit h1]
 exact hK _ _ hk
theorem splice_all {cs vs:List Value} (h:cs.length=vs.length):cs.take 0 ++ vs ++ cs.drop (0 + vs.length)=vs:=by
 rw [List.take_zero,List.nil_append,List.drop_of_length_le (by omega),List.append_nil]
theorem storeAll_law {P:Program} {ops:Array Oper} {rest:List Oper} {o:Oper} {a:Act} {w:World} {Q:Exit->Act->World->Prop} (hgd:o.guard=none) (ty:TypeId) (x y:Operand) (ho:o.op = .store ty x y)
  (g:Nat) (hx:a.eval x = .pointer (some ⟨g,0,none⟩)) (vs:List Value) (hy:a.eval y = .agg vs.toArray) (t:TypeId) (cs:List Value) (hb:Blk w g t cs) (hi:(P.info? ty).map (·.size)=some vs.length)
  (hfit:cs.length=vs.length) (h1:∀ v ∈ vs,v.oneCell'=true)
  (hk:wpList P ops Q rest (a.put o.dst undef) (w.setRow g vs.toArray)):wpList P ops Q (o :: rest) a w :=
 store_law hgd ty x y ho g 0 hx vs hy t cs hb hi (by omega) h1 (by rw [splice_all hfit]; exact hk)
theorem run_index_one {P:Program} (w:World) (ty e:TypeId) (n:Nat) (d:TypeDesc) (hu:P.underlying ty=some (.array n e)) (he:P.underlying e=some d) (hd:(match d with | .struct _ | .array _ _=>true | _=>false)=false)
  (hz:(P.info? e).map (·.size)=some 1) (l:List Value) (k:Nat) (hk:k < n) (v:Value) (hv:l[k]?=some v):(Instr.index ty (.agg l.toArray) (.int .i64 (k:Int))).run P w = .ok v w:=by
 have ha:(isAgg e).run P w = .ok false w:=by
  cases d <;> simp at hd <;> simp [isAgg,run_underlying he]
 cases hq:P.info? e with
 | none=>simp [hq] at hz
 | some i =>
  have hs:i.size=1:=by simpa [hq] using hz
  simp [Instr.index,run_underlying hu,asIntOf,part,ha,sizeOf,typeInfo,hq,hs,hk,hv]
structure Gl (w:World):Prop where
 first:∀ j v,(Sha.H0.map wd)[j]?=some v->w.cell? ⟨0,0 + j,none⟩=some v
 rounds:∀ j v,(Sha.K.map wd)[j]?=some v->w.cell? ⟨1,0 + j,none⟩=some v
 size:2<=w.heap.size
theorem Gl.below {B:Nat} {w w':World} (h:Gl w) (hb:Below B w w') (hB:2<=B):Gl w' :=
 ⟨fun j v hv=>(hb.cell (p:=⟨0,0 + j,none⟩) (by show 0 < B; omega)).trans (h.first j v hv),fun j v hv=>(hb.cell (p:=⟨1,0 + j,none⟩) (by show 1 < B; omega)).trans (h.rounds j v hv),Nat.le_trans h.size hb.size⟩
theorem cells_u8 (l:List UInt8):∀ u ∈ l.map cellOf,u.oneCell'=true:=by
 intro u hu
 obtain ⟨b,_,rfl⟩:=List.mem_map.1 hu
 rfl
theorem cells_wd (l:List Int):∀ u ∈ l.map wd,u.oneCell'=true:=by
 intro u hu
 obtain ⟨b,_,rfl⟩:=List.mem_map.1 hu
 rfl
end Go.Proofs.YtajgjeialbgijaaDoor
namespace Go.Proofs.YtajgjeialbgijaaDoor
set_option linter.unusedVariables false
set_option linter.unusedSimpArgs false
set_option maxRecDepth 100000
open Go.RowKit
def fill (l:List Int):List Value:=l.map wd ++ List.replicate (64 - l.length) (wd 0)
theorem fill_length (l:List Int) (h:l.length<=64):(fill l).length=64:=by simp [fill]; omega
theorem fill_get (l:List Int) (j:Nat) (h:j < l.length):(fill l)[j]?=some (wd (l.getD j 0)):=by
 unfold fill
 rw [List.getElem?_append_left (by simpa using h)]
 simp [List.getD_eq_getElem?_getD,List.getElem?_eq_getElem h]
theorem fill_at (l:List Int) (h:l.length < 64):(fill l)[l.length]?=some (wd 0):=by
 unfold fill
 rw [List.getElem?_append_right (by simp),List.length_map,Nat.sub_self]
 exact List.getElem?_replicate_of_lt (by omega)
theorem fill_set (l:List Int) (x:Int) (h:l.length < 64):(fill l).set l.length (wd x)=fill (l ++ [x]):=by
 unfold fill
 obtain ⟨k,hk⟩:∃ k,64 - l.length=k + 1:=⟨63 - l.length,by omega⟩
 have hk':64 - (l ++ [x]).length=k:=by simp; omega
 rw [hk,hk',List.set_append_right _ _ (by simp)]
 simp [List.replicate_succ]
theorem firsts_drop (b:List UInt8) (k:Nat) (h:4 * k + 3 < b.length) :
  Sha.firsts (b.drop (4 * k))=Sha.wordOf (b.getD (4 * k) 0) (b.getD (4 * k + 1) 0) (b.getD (4 * k + 2) 0) (b.getD (4 * k + 3) 0) :: Sha.firsts (b.drop (4 * (k + 1))):=by
 have e:b.drop (4 * k)=b.getD (4 * k) 0 :: b.getD (4 * k + 1) 0 :: b.getD (4 * k + 2) 0 :: b.getD (4 * k + 3) 0 :: b.drop (4 * (k + 1)):=by
  rw [List.drop_eq_getElem_cons (show 4 * k < b.length by omega),List.drop_eq_getElem_cons (show 4 * k + 1 < b.length by omega),List.drop_eq_getElem_cons (show 4 * k + 1 + 1 < b.length by omega),List.drop_eq_getElem_cons (show 4 * k + 1 + 1 + 1 < b.length by omega)]
  simp only [List.getD_eq_getElem?_getD]
  rw [List.getElem?_eq_getElem (show 4 * k < b.length by omega),List.getElem?_eq_getElem (show 4 * k + 1 < b.length by omega),List.getElem?_eq_getElem (show 4 * k + 2 < b.length by omega),List.getElem?_eq_getElem (show 4 * k + 3 < b.length by omega)]
  rfl
 rw [e,Sha.firsts_cons]
theorem word_form (x0 x1 x2 x3:UInt8) :
  bits BinOp.or IntKind.u32 (bits BinOp.or IntKind.u32 (bits BinOp.or IntKind.u32 ((x0.toNat:Int) % 4294967296 * 16777216 % 4294967296) ((x1.toNat:Int) % 4294967296 * 65536 % 4294967296)) ((x2.toNat:Int) % 4294967296 * 256 % 4294967296)) ((x3.toNat:Int) % 4294967296)=Sha.wordOf x0 x1 x2 x3:=by
 have h0:=x0.toNat_lt
 have h1:=x1.toNat_lt
 have h2:=x2.toNat_lt
 have h3:=x3.toNat_lt
 have e0:(x0.toNat:Int) % 4294967296 * 16777216 % 4294967296=(x0.toNat:Int) * 16777216:=by omega
 have e1:(x1.toNat:Int) % 4294967296 * 65536 % 4294967296=(x1.toNat:Int) * 65536:=by omega
 have e2:(x2.toNat:Int) % 4294967296 * 256 % 4294967296=(x2.toNat:Int) * 256:=by omega
 have e3:(x3.toNat:Int) % 4294967296=(x3.toNat:Int):=by omega
 rw [e0,e1,e2,e3]
 rfl
theorem turn_still (x:Int) (n:Nat) (w:World) (h1:1<=n) (h2:n < 32) :
  Calls Tryd.prog 86 #[.int .u32 x,.int .i64 (n:Int)] w fun e w'=>e = .returned (.int .u32 (Sha.rot x n))/\w'=w:=(turn_any x n w h1 h2).mono fun _ _ h=>⟨h.1,h.2.symm⟩
theorem turn_lit (x n:Int) (w:World) (h1:1<=n) (h2:n < 32) :
  Calls Tryd.prog 86 #[.int .u32 x,.int .i64 n] w fun e w'=>e = .returned (.int .u32 (Sha.rot x n.toNat))/\w'=w:=by
 obtain ⟨m,rfl⟩:=Int.eq_ofNat_of_zero_le (show 0<=n by omega)
 exact turn_still x m w (by omega) (by omega)
theorem next_form (a b x y:Int):(a + b + bits BinOp.xor IntKind.u32 (bits BinOp.xor IntKind.u32 (Sha.rot x 7) (Sha.rot x 18)) (x / 8) + bits BinOp.xor IntKind.u32 (bits BinOp.xor IntKind.u32 (Sha.rot y 17) (Sha.rot y 19)) (y / 1024)) % 4294967296=Sha.nextW a b (Sha.sm0 x) (Sha.sm1 y):=by
 show (a + b + Sha.sm0 x + Sha.sm1 y) % 4294967296=_
 unfold Sha.nextW Sha.add
 simp only [IntKind.wrap_u32']
 omega
theorem bytes_at (b:List UInt8) (j:Nat) (h:j < b.length):(b.map cellOf)[j]?=some (.int .u8 ((b.getD j 0).toNat:Int)):=by
 simp [cellOf,List.getD_eq_getElem?_getD,List.getElem?_eq_getElem h]
set_option maxRecDepth 100000 in
set_option maxHeartbeats 4000000 in
theorem words_any (b:List UInt8) (w:World) (hb:b.length=64) :
  Calls Tryd.prog 65 #[.agg (b.map cellOf).toArray] w fun e w'=>e = .returned (.agg ((Sha.sched b).map wd).toArray)/\Below w.heap.size w w':=by
 obtain ⟨cs,hcs⟩:∃ cs,cs=b.map cellOf:=⟨_,rfl⟩
 rw [<- hcs]
 have HC:=Lib.hid hcs
 have HL:=Lib.hid hb
 clear hcs hb
 go_enter Tryd.func65,Tryd.ntmps65
 go_wp2
 go_loopw [8] (fun i wr=>∃ (k:Nat) (l:List Int),k<=16/\i = .int .i64 k/\Hid (l.length=k)/\Hid (l ++ Sha.firsts (b.drop (4 * k))=Sha.firsts b)/\Hid (Blk wr w.heap.size 111 cs)/\Hid (Blk wr (w.heap.size + 1) 115 (fill []))/\Hid (Blk wr (w.heap.size + 1 + 1) 115 (fill l))/\Hid (Below w.heap.size w wr)) (fun i _=>16 - (intOf i).toNat)
 case atStart =>
  refine ⟨0,[],by omega,rfl,rfl,rfl,?_,?_,?_,?_⟩
  ·exact ((Blk.new w 111 cs).alloc _).alloc _
  ·exact (Blk.at_new _ _ 115 _ _ (by rfl) (by simp)).alloc _
  ·exact Blk.at_new _ _ 115 _ _ (by rfl) (by simp)
  ·exact (((Below.refl _ _).alloc (Nat.le_refl _) _).alloc (by simp) _).alloc (by simp; omega) _
 case round =>
  obtain ⟨k,l,hk,rfl,HK,HE,HB0,HB1,HB2,HW⟩:=hrel
  by_cases hlt:k < 16
  ·have hcell:∀ j,j < 64->wr.cell? ⟨w.heap.size,j,none⟩=some (.int .u8 ((b.getD j 0).toNat:Int)):=fun j hj=>by
    rw [HB0.out.cell,HC.out]; exact bytes_at b j (by rw [HL.out]; exact hj)
   have c0:=hcell (4 * k) (by omega)
   have c1:=hcell (4 * k + 1) (by omega)
   have c2:=hcell (4 * k + 2) (by omega)
   have c3:=hcell (4 * k + 3) (by omega)
   have HF:=Lib.hid (firsts_drop b k (by rw [HL.out]; omega))
   clear hcell
   generalize b.getD (4 * k) 0=x0 at c0 HF
   generalize b.getD (4 * k + 1) 0=x1 at c1 HF
   generalize b.getD (4 * k + 2) 0=x2 at c2 HF
   generalize b.getD (4 * k + 3) 0=x3 at c3 HF
   have f2:wr.drew.frozen? ⟨w.heap.size + 1 + 1,k,none⟩=false:=HB2.out.frozen k
   have c4:wr.drew.cell? ⟨w.heap.size + 1 + 1,k,none⟩=some (.int .u32 0):=by
    rw [HB2.out.drew.cell,<- HK.out]; exact fill_at l (by rw [HK.out]; omega)
   replace c0:wr.drew.cell? ⟨w.heap.size,4 * k,none⟩=some (.int .u8 (x0.toNat:Int)):=c0
   replace c1:wr.drew.cell? ⟨w.heap.size,4 * k + 1,none⟩=some (.int .u8 (x1.toNat:Int)):=c1
   replace c2:wr.drew.cell? ⟨w.heap.size,4 * k + 2,none⟩=some (.int .u8 (x2.toNat:Int)):=c2
   replace c3:wr.drew.cell? ⟨w.heap.size,4 * k + 3,none⟩=some (.int .u8 (x3.toNat:Int)):=c3
   have B0:=Lib.hid HB0.out.drew
   have B1:=Lib.hid HB1.out.drew
   have B2:=Lib.hid HB2.out.drew
   have BW:=Lib.hid HW.out.drew
   clear HB0 HB1 HB2 HW
   obtain ⟨j0,hj0⟩:∃ j,j=4 * k:=⟨_,rfl⟩
   obtain ⟨j1,hj1⟩:∃ j,j=j0 + 1:=⟨_,rfl⟩
   obtain ⟨j2,hj2⟩:∃ j,j=j0 + 2:=⟨_,rfl⟩
   obtain ⟨j3,hj3⟩:∃ j,j=j0 + 3:=⟨_,rfl⟩
   rw [<- hj0] at c0 c1 c2 c3
   rw [<- hj1] at c1
   rw [<- hj2] at c2
   rw [<- hj3] at c3
   have e0:IntKind.i64.wrap (4 * (k:Int))=(j0:Int):=by rw [IntKind.wrap_i64]; omega
   have e1:IntKind.i64.wrap ((j0:Int) + 1)=(j1:Int):=by rw [IntKind.wrap_i64]; omega
   have e2:IntKind.i64.wrap ((j0:Int) + 2)=(j2:Int):=by rw [IntKind.wrap_i64]; omega
   have e3:IntKind.i64.wrap ((j0:Int) + 3)=(j3:Int):=by rw [IntKind.wrap_i64]; omega
   have b0:(j0:Int) < 64:=by omega
   have b1:(j1:Int) < 64:=by omega
   have b2:(j2:Int) < 64:=by omega
   have b3:(j3:Int) < 64:=by omega
   have bk:(k:Int) < 64:=by omega
   clear hj0 hj1 hj2 hj3
   go_wp2_with fail
   refine wp_region_still_tail 31 (by kernel_rfl) (by kernel_rfl) ?_
   simp only [List.take_succ_cons,List.take_zero,List.drop_succ_cons,List.drop_zero]
   change wpStill Tryd.prog _ wr.drew (fun a'=>wpList Tryd.prog _ _ _ a' wr.drew) _ _
   generalize wr.drew=w2 at *
   repeat still_step
   refine wpStill_nil ?_
   go_wp2
   go_roundw
   case rel=>exact ⟨k + 1,l ++ [Sha.wordOf x0 x1 x2 x3],by omega,by go_num,by unfold Hid; simp [HK.out],by unfold Hid; rw [List.append_assoc,<- HE.out,HF.out]; rfl,B0.out.far (by show w.heap.size ≠ w.heap.size + 1 + 1; omega) _,B1.out.far (by show w.heap.size + 1 ≠ w.heap.size + 1 + 1; omega) _,by
    have:=B2.out.set_ k (wd (Sha.wordOf x0 x1 x2 x3))
    rw [show k=l.length from HK.out.symm,fill_set l _ (by rw [HK.out]; omega)] at this
    rw [word_form]
    rw [HK.out] at this
    exact this,BW.out.setCell (by show w.heap.size<=w.heap.size + 1 + 1; omega) _⟩
   case measure=>simp [intOf]; omega
  ·obtain rfl:k=16:=by omega
   have HE2:Hid (Sha.ext (64 - 16) l=Sha.sched b):=by
    unfold Hid Sha.sched
    rw [<- HE.out,List.drop_of_length_le (by rw [HL.out]; omega)]
    simp [Sha.firsts]
   clear HE HL hk hlt HC
   obtain ⟨S,hS⟩:∃ S,S=Sha.sched b:=⟨_,rfl⟩
   rw [<- hS] at HE2
   have HSb:=Lib.hid hS
   clear hS
   go_wp2_with fail
   have e16:((16:Nat):Int)=16:=rfl
   rw [e16]
   clear e16
   go_loopw [5] (fun i wr=>∃ (k:Nat) (l:List Int),16<=k/\k<=64/\i = .int .i64 k/\Hid (l.length=k)/\Hid (Sha.ext (64 - k) l=S)/\Hid (Blk wr (w.heap.size + 1) 115 (fill []))/\Hid (Blk wr (w.heap.size + 1 + 1) 115 (fill l))/\Hid (Below w.heap.size w wr)) (fun i _=>64 - (intOf i).toNat)
   case atStart=>exact ⟨16,l,by omega,by omega,rfl,HK,HE2,HB1,HB2,HW⟩
   case round =>
    clear HE2 HB1 HB2 HW HK HB0 l
    obtain ⟨k,l,hk0,hk,rfl,HK,HE,HB1,HB2,HW⟩:=hrel
    by_cases hlt:k < 64
    ·have hcell:∀ j,j < k->wr.drew.cell? ⟨w.heap.size + 1 + 1,j,none⟩=some (.int .u32 (l.getD j 0)):=fun j hj=>by
      rw [HB2.out.drew.cell]; exact fill_get l j (by rw [HK.out]; exact hj)
     have c15:=hcell (k - 15) (by omega)
     have c2:=hcell (k - 2) (by omega)
     have c16:=hcell (k - 16) (by omega)
     have c7:=hcell (k - 7) (by omega)
     have f2:wr.drew.frozen? ⟨w.heap.size + 1 + 1,k,none⟩=false:=HB2.out.frozen k
     have c4:wr.drew.cell? ⟨w.heap.size + 1 + 1,k,none⟩=some (.int .u32 0):=by
      rw [HB2.out.drew.cell,<- HK.out]; exact fill_at l (by rw [HK.out]; omega)
     have HN:Hid (Sha.nx l=Sha.nextW (l.getD (k - 16) 0) (l.getD (k - 7) 0) (Sha.sm0 (l.getD (k - 15) 0)) (Sha.sm1 (l.getD (k - 2) 0))):=by
      unfold Hid Sha.nx; rw [HK.out]
     have HX:Hid (Sha.ext (64 - (k + 1)) (l ++ [Sha.nx l])=S):=by
      unfold Hid; rw [<- HE.out,show 64 - k=(64 - (k + 1)) + 1 by omega,Sha.ext_succ]
     clear hcell HE
     generalize l.getD (k - 16) 0=y16 at c16 HN
     generalize l.getD (k - 7) 0=y7 at c7 HN
     generalize l.getD (k - 15) 0=y15 at c15 HN
     generalize l.getD (k - 2) 0=y2 at c2 HN
     have B1:=Lib.hid HB1.out.drew
     have B2:=Lib.hid HB2.out.drew
     have BW:=Lib.hid HW.out.drew
     clear HB1 HB2 HW
     obtain ⟨j16,hj16⟩:∃ j,j=k - 16:=⟨_,rfl⟩
     obtain ⟨j15,hj15⟩:∃ j,j=k - 15:=⟨_,rfl⟩
     obtain ⟨j7,hj7⟩:∃ j,j=k - 7:=⟨_,rfl⟩
     obtain ⟨j2,hj2⟩:∃ j,j=k - 2:=⟨_,rfl⟩
     rw [<- hj16] at c16
     rw [<- hj15] at c15
     rw [<- hj7] at c7
     rw [<- hj2] at c2
     have e16:IntKind.i64.wrap ((k:Int) - 16)=(j16:Int):=by rw [IntKind.wrap_i64]; omega
     have e15:IntKind.i64.wrap ((k:Int) - 15)=(j15:Int):=by rw [IntKind.wrap_i64]; omega
     have e7:IntKind.i64.wrap ((k:Int) - 7)=(j7:Int):=by rw [IntKind.wrap_i64]; omega
     have e2:IntKind.i64.wrap ((k:Int) - 2)=(j2:Int):=by rw [IntKind.wrap_i64]; omega
     have b16:(j16:Int) < 64:=by omega
     have b15:(j15:Int) < 64:=by omega
     have b7:(j7:Int) < 64:=by omega
     have b2:(j2:Int) < 64:=by omega
     have bk:(k:Int) < 64:=by omega
     clear hj16 hj15 hj7 hj2
     go_wp2_with fail
     refine wp_region_still_lit (by kernel_rfl) (by kernel_rfl) ?_
     have hD:({ wr with drawn:=wr.drawn + 1 }:World)=wr.drew:=rfl
     rw [hD]
     clear hD
     generalize wr.drew=w2 at *
     repeat still_step
     refine wpStill_nil ?_
     go_wp2_with fail
     refine wp_region_still_tail 29 (by kernel_rfl) (by kernel_rfl) ?_
     simp only [List.take_succ_cons,List.take_zero,List.drop_succ_cons,List.drop_zero]
     replace c16:w2.drew.cell? ⟨w.heap.size + 1 + 1,j16,none⟩=some (.int .u32 y16):=c16
     replace c7:w2.drew.cell? ⟨w.heap.size + 1 + 1,j7,none⟩=some (.int .u32 y7):=c7
     replace c4:w2.drew.cell? ⟨w.heap.size + 1 + 1,k,none⟩=some (.int .u32 0):=c4
     replace f2:w2.drew.frozen? ⟨w.heap.size + 1 + 1,k,none⟩=false:=f2
     replace B1:=Lib.hid B1.out.drew
     replace B2:=Lib.hid B2.out.drew
     replace BW:=Lib.hid BW.out.drew
     clear c15 c2
     have hD:({ w2 with drawn:=w2.drawn + 1 }:World)=w2.drew:=rfl
     rw [hD]
     clear hD
     generalize w2.drew=w3 at *
     repeat (first | still_step | still_call (turn_lit _ _ _ (by omega) (by omega)))
     refine wpStill_nil ?_
     go_wp2
     go_roundw
     case rel=>exact ⟨k + 1,l ++ [Sha.nx l],by omega,by omega,by go_num,by unfold Hid; simp [HK.out],HX,B1.out.far (by show w.heap.size + 1 ≠ w.heap.size + 1 + 1; omega) _,by
      rw [next_form,<- HN.out]
      have:=B2.out.set_ k (wd (Sha.nx l))
      rw [show k=l.length from HK.out.symm,fill_set l _ (by rw [HK.out]; omega)] at this
      rw [HK.out] at this
      exact this,BW.out.setCell (by show w.heap.size<=w.heap.size + 1 + 1; omega) _⟩
     case measure=>simp [intOf]; omega
    ·obtain rfl:k=64:=by omega
     have HZ:Hid (l=S):=HE.out
     clear HE
     obtain ⟨C,hC⟩:∃ C,C=l.map wd:=⟨_,rfl⟩
     have hCl:C.length=64:=by rw [hC,List.length_map,HK.out]
     have hfl:fill l=C:=by unfold fill; rw [HK.out,hC]; simp
     have HB3:=HB2.out
     rw [hfl] at HB3
     have HN:=Lib.hid (HB1.out.row (cs':=C))
     have HB4:=Lib.hid (below_setRow HW.out (show w.heap.size<=w.heap.size + 1 by omega) C.toArray)
     have HV:Hid (C=S.map wd):=by unfold Hid; rw [hC,HZ.out]
     have H1:Hid (∀ v ∈ C,v.oneCell'=true):=by unfold Hid; rw [hC]; exact cells_wd l
     have HC:=Lib.hid hCl
     have HD:=Lib.hid HB3
     have HF0:Hid ((fill []).length=C.length):=(fill_length [] (by decide)).trans hCl.symm
     have HI:Hid ((Tryd.prog.info? 115).map (·.size)=some C.length):=by unfold Hid; rw [hCl]; kernel_rfl
     clear hfl HB3 hC HB2 HK HZ hCl
     go_wp2_with (first
      | (with_reducible refine load_law rfl 115 (.tmp 3) rfl (w.heap.size + 1 + 1) 0 rfl C _ Tryd.underlying115 rfl HI.out HD.out.cells ?_)
      | (with_reducible refine storeAll_law rfl 115 (.tmp 2) (.tmp 84) rfl (w.heap.size + 1) rfl C rfl 115 (fill []) HB1.out HI.out HF0.out H1.out ?_))
     refine bodyPost_ret (results_cell_row rfl _ _ (w.heap.size + 1) 115 C.toArray (0,0) _ rfl HN.out Tryd.underlying115 rfl (by rw [HI.out]; simp)) rfl ⟨?_,HB4.out⟩
     rw [HV.out,HSb.out]
end Go.Proofs.YtajgjeialbgijaaDoor
namespace Go.Proofs.YtajgjeialbgijaaDoor
set_option linter.unusedVariables false
set_option linter.unusedSimpArgs false
set_option maxRecDepth 100000
open Go.RowKit
theorem wd_at (l:List Int) (j:Nat) (h:j < l.length):(l.map wd)[j]?=some (.int .u32 (l.getD j 0)):=by
 simp [wd,List.getD_eq_getElem?_getD,List.getElem?_eq_getElem h]
theorem drop_cons (l:List Int) (k:Nat) (h:k < l.length):l.drop k=l.getD k 0 :: l.drop (k + 1):=by
 rw [List.drop_eq_getElem_cons h]
 simp [List.getD_eq_getElem?_getD,List.getElem?_eq_getElem h]
theorem half_at (l s:List Int) (k:Nat) (hl:l.length=k) (h:k < s.length):(l.map wd ++ (s.drop k).map wd)[k]?=some (.int .u32 (s.getD k 0)):=by
 rw [List.getElem?_append_right (by simp; omega),drop_cons s k h]
 simp [hl,wd]
theorem half_set (l s:List Int) (k:Nat) (x:Int) (hl:l.length=k) (h:k < s.length):(l.map wd ++ (s.drop k).map wd).set k (wd x)=(l ++ [x]).map wd ++ (s.drop (k + 1)).map wd:=by
 rw [List.set_append_right _ _ (by simp; omega),drop_cons s k h]
 simp [hl]
set_option maxRecDepth 100000 in
set_option maxHeartbeats 4000000 in
theorem mix_any (s ws:List Int) (w:World) (hg:Gl w) (hs:s.length=8) (hw:ws.length=64) :
  Calls Tryd.prog 64 #[.agg (s.map wd).toArray,.agg (ws.map wd).toArray] w fun e w'=>e = .returned (.agg ((Sha.adds s (Sha.run Sha.K ws (s.getD 0 0) (s.getD 1 0) (s.getD 2 0) (s.getD 3 0) (s.getD 4 0) (s.getD 5 0) (s.getD 6 0) (s.getD 7 0))).map wd).toArray)/\Below w.heap.size w w':=by
 obtain ⟨cs,hcs⟩:∃ cs,cs=s.map wd:=⟨_,rfl⟩
 obtain ⟨cw,hcw⟩:∃ cw,cw=ws.map wd:=⟨_,rfl⟩
 rw [<- hcs,<- hcw]
 have HG:=Lib.hid hg
 have HS:=Lib.hid hs
 have HW:=Lib.hid hw
 have HCS:=Lib.hid hcs
 have HCW:=Lib.hid hcw
 clear hg hs hw hcs hcw
 go_enter Tryd.func64,Tryd.ntmps64
 go_wp2_with fail
 obtain ⟨w1,hw1⟩:∃ w1,w1=((w.alloc (Obj.cells cs.toArray 110)).alloc (Obj.cells cw.toArray 115)).alloc (Obj.cells #[Value.int IntKind.u32 0,Value.int IntKind.u32 0,Value.int IntKind.u32 0,Value.int IntKind.u32 0,Value.int IntKind.u32 0,Value.int IntKind.u32 0,Value.int IntKind.u32 0,Value.int IntKind.u32 0] 110):=⟨_,rfl⟩
 have B0:Hid (Blk w1 w.heap.size 110 cs):=by unfold Hid; rw [hw1]; exact ((Blk.new w 110 cs).alloc _).alloc _
 have B1:Hid (Blk w1 (w.heap.size + 1) 115 cw):=by unfold Hid; rw [hw1]; exact (Blk.at_new _ _ 115 _ _ rfl (by simp)).alloc _
 have B2:Hid (Blk w1 (w.heap.size + 1 + 1) 110 (List.replicate 8 (wd 0))):=by unfold Hid; rw [hw1]; exact Blk.at_new _ _ 110 _ _ (by rfl) (by simp)
 have BW:Hid (Below w.heap.size w w1):=by unfold Hid; rw [hw1]; exact (((Below.refl _ _).alloc (Nat.le_refl _) _).alloc (by simp) _).alloc (by simp; omega) _
 have BG:Hid (Gl w1):=HG.out.below BW.out HG.out.size
 rw [<- hw1]
 clear hw1
 have hcell:∀ j,j < 8->w1.drew.cell? ⟨w.heap.size,j,none⟩=some (.int .u32 (s.getD j 0)):=fun j hj=>by
  rw [B0.out.drew.cell,HCS.out]; exact wd_at s j (by rw [HS.out]; exact hj)
 have c0:=hcell 0 (by omega)
 have c1:=hcell 1 (by omega)
 have c2:=hcell 2 (by omega)
 have c3:=hcell 3 (by omega)
 have c4:=hcell 4 (by omega)
 have c5:=hcell 5 (by omega)
 have c6:=hcell 6 (by omega)
 have c7:=hcell 7 (by omega)
 clear hcell
 obtain ⟨R,hR⟩:∃ R,R=Sha.run Sha.K ws (s.getD 0 0) (s.getD 1 0) (s.getD 2 0) (s.getD 3 0) (s.getD 4 0) (s.getD 5 0) (s.getD 6 0) (s.getD 7 0):=⟨_,rfl⟩
 have HR:=Lib.hid hR
 have HR2:=Lib.hid hR
 clear hR
 generalize s.getD 0 0=s0 at c0 HR
 generalize s.getD 1 0=s1 at c1 HR
 generalize s.getD 2 0=s2 at c2 HR
 generalize s.getD 3 0=s3 at c3 HR
 generalize s.getD 4 0=s4 at c4 HR
 generalize s.getD 5 0=s5 at c5 HR
 generalize s.getD 6 0=s6 at c6 HR
 generalize s.getD 7 0=s7 at c7 HR
 refine wp_region_still_lit (by kernel_rfl) (by kernel_rfl) ?_
 have hD:({ w1 with drawn:=w1.drawn + 1 }:World)=w1.drew:=rfl
 rw [hD]
 clear hD
 replace B0:=Lib.hid B0.out.drew
 replace B1:=Lib.hid B1.out.drew
 replace B2:=Lib.hid B2.out.drew
 replace BW:=Lib.hid BW.out.drew
 replace BG:=Lib.hid (HG.out.below BW.out HG.out.size)
 generalize w1.drew=w2 at *
 repeat still_step
 refine wpStill_nil ?_
 go_wp2_with fail
 refine wp_region_still_lit (by kernel_rfl) (by kernel_rfl) ?_
 have hD:({ w2 with drawn:=w2.drawn + 1 }:World)=w2.drew:=rfl
 rw [hD]
 clear hD
 replace B0:=Lib.hid B0.out.drew
 replace B1:=Lib.hid B1.out.drew
 replace B2:=Lib.hid B2.out.drew
 replace BW:=Lib.hid BW.out.drew
 replace BG:=Lib.hid (HG.out.below BW.out HG.out.size)
 replace c4:w2.drew.cell? ⟨w.heap.size,4,none⟩=some (.int .u32 s4):=c4
 replace c5:w2.drew.cell? ⟨w.heap.size,5,none⟩=some (.int .u32 s5):=c5
 replace c6:w2.drew.cell? ⟨w.heap.size,6,none⟩=some (.int .u32 s6):=c6
 replace c7:w2.drew.cell? ⟨w.heap.size,7,none⟩=some (.int .u32 s7):=c7
 clear c0 c1 c2 c3
 generalize w2.drew=w3 at *
 repeat still_step
 refine wpStill_nil ?_
 clear c4 c5 c6 c7
 obtain ⟨kc,hkc⟩:∃ kc,kc=Sha.K.map wd:=⟨_,rfl⟩
 have HKC:=Lib.hid hkc
 have HKL:Hid ((Tryd.prog.info? 115).map (·.size)=some kc.length):=by unfold Hid; rw [hkc]; kernel_rfl
 have HKR:Hid (∀ j v,kc[j]?=some v->w3.cell? ⟨1,0 + j,none⟩=some v):=by unfold Hid; rw [hkc]; exact BG.out.rounds
 clear hkc
 go_wp2_with (with_reducible refine load_law rfl 115 (.global 1) rfl 1 0 rfl kc _ Tryd.underlying115 rfl HKL.out HKR.out ?_)
 go_loopw [5,6,7,8,9,10,11,12,36] (fun va vb vc vd ve vf vg vh vi wr=>∃ (k:Nat) (a b c d e f g h:Int),k<=64/\vi = .int .i64 k/\va = .int .u32 a/\vb = .int .u32 b/\vc = .int .u32 c/\vd = .int .u32 d/\ve = .int .u32 e/\vf = .int .u32 f/\vg = .int .u32 g/\vh = .int .u32 h/\Hid (Sha.run (Sha.K.drop k) (ws.drop k) a b c d e f g h=R)/\Hid (Blk wr w.heap.size 110 cs)/\Hid (Blk wr (w.heap.size + 1) 115 cw)/\Hid (Blk wr (w.heap.size + 1 + 1) 110 (List.replicate 8 (wd 0)))/\Hid (Below w.heap.size w wr)) (fun _ _ _ _ _ _ _ _ i _=>64 - (intOf i).toNat)
 case atStart=>exact ⟨0,s0,s1,s2,s3,s4,s5,s6,s7,by omega,rfl,rfl,rfl,rfl,rfl,rfl,rfl,rfl,rfl,HR.out.symm,B0,B1,B2,BW⟩
 case round =>
  clear B0 B1 B2 BW BG HKR HR
  obtain ⟨k,a,b,c,d,e,f,g,h,hk,rfl,rfl,rfl,rfl,rfl,rfl,rfl,rfl,rfl,HE,B0,B1,B2,BW⟩:=hrel
  by_cases hlt:k < 64
  ·obtain ⟨kk,hkk⟩:∃ x,x=Sha.K.getD k 0:=⟨_,rfl⟩
   obtain ⟨wk,hwk⟩:∃ x,x=ws.getD k 0:=⟨_,rfl⟩
   have hkg:kc[k]?=some (.int .u32 kk):=by rw [HKC.out,hkk]; exact wd_at _ k (by rw [Sha.K_length]; exact hlt)
   have hkl:kc.length=64:=by rw [HKC.out,List.length_map,Sha.K_length]
   have c1:wr.drew.cell? ⟨w.heap.size + 1,k,none⟩=some (.int .u32 wk):=by
    rw [B1.out.drew.cell,HCW.out,hwk]; exact wd_at ws k (by rw [HW.out]; exact hlt)
   have HE2:Hid (Sha.run (Sha.K.drop (k + 1)) (ws.drop (k + 1)) (Sha.add (Sha.one e f g h kk wk) (Sha.two a b c)) a b c (Sha.add d (Sha.one e f g h kk wk)) e f g=R):=by
    unfold Hid
    rw [<- HE.out,List.drop_eq_getElem_cons (show k < Sha.K.length by rw [Sha.K_length]; exact hlt),List.drop_eq_getElem_cons (show k < ws.length by rw [HW.out]; exact hlt),Sha.run_cons]
    have e1:Sha.K[k]'(by rw [Sha.K_length]; exact hlt)=kk:=by rw [hkk,List.getD_eq_getElem?_getD,List.getElem?_eq_getElem (by rw [Sha.K_length]; exact hlt)]; rfl
    have e2:ws[k]'(by rw [HW.out]; exact hlt)=wk:=by rw [hwk,List.getD_eq_getElem?_getD,List.getElem?_eq_getElem (by rw [HW.out]; exact hlt)]; rfl
    rw [e1,e2]
   have bk:(k:Int) < 64:=by omega
   clear hkk hwk HE
   replace B0:=Lib.hid B0.out.drew
   replace B1:=Lib.hid B1.out.drew
   replace B2:=Lib.hid B2.out.drew
   replace BW:=Lib.hid BW.out.drew
   have hix:=run_index_one (P:=Tryd.prog) wr 115 102 64 _ Tryd.underlying115 Tryd.underlying102 rfl (by kernel_rfl) kc k hlt _ hkg
   clear hkg hkl
   go_wp2_with fail
   clear hix
   refine wp_region_still_lit (by kernel_rfl) (by kernel_rfl) ?_
   have hD:({ wr with drawn:=wr.drawn + 1 }:World)=wr.drew:=rfl
   rw [hD]
   clear hD
   generalize wr.drew=w4 at *
   repeat (first | still_step | still_call (turn_lit _ _ _ (by omega) (by omega)))
   refine wpStill_nil ?_
   go_wp2_with (go_at_call 86; refine (turn_lit _ _ _ (by omega) (by omega)).mono ?_; rintro e w' ⟨rfl,rfl⟩)
   go_roundw
   case rel=>exact ⟨k + 1,_,_,_,_,_,_,_,_,by omega,by go_num,rfl,rfl,rfl,rfl,rfl,rfl,rfl,rfl,HE2,B0,B1,B2,BW⟩
   case measure=>simp [intOf]; omega
  ·obtain rfl:k=64:=by omega
   have HZ:Hid ([a,b,c,d,e,f,g,h]=R):=by
    unfold Hid
    rw [<- HE.out,List.drop_of_length_le (by rw [Sha.K_length]; omega),Sha.run_nil]
   clear HE
   go_wp2_with fail
   obtain ⟨rc,hrc⟩:∃ rc:List Value,rc.toArray=#[Value.int IntKind.u32 a,Value.int IntKind.u32 b,Value.int IntKind.u32 c,Value.int IntKind.u32 d,Value.int IntKind.u32 e,Value.int IntKind.u32 f,Value.int IntKind.u32 g,Value.int IntKind.u32 h]:=⟨[Value.int IntKind.u32 a,Value.int IntKind.u32 b,Value.int IntKind.u32 c,Value.int IntKind.u32 d,Value.int IntKind.u32 e,Value.int IntKind.u32 f,Value.int IntKind.u32 g,Value.int IntKind.u32 h],rfl⟩
   rw [<- hrc]
   have HRC:Hid (rc=R.map wd):=by
    unfold Hid
    rw [<- HZ.out]
    simpa [wd] using congrArg Array.toList hrc
   have HRL:Hid (R.length=8):=by unfold Hid; rw [<- HZ.out]; rfl
   clear hrc HZ
   have e64:((64:Nat):Int)=64:=rfl
   rw [e64]
   clear e64 hk hlt
   obtain ⟨T,hT⟩:∃ T,T=Sha.adds s R:=⟨_,rfl⟩
   have HT:=Lib.hid hT
   clear hT
   go_loopw [107] (fun i wr=>∃ (k:Nat) (l:List Int),k<=8/\i = .int .i64 k/\Hid (l.length=k)/\Hid (l ++ Sha.adds (s.drop k) (R.drop k)=T)/\Hid (Blk wr w.heap.size 110 (l.map wd ++ (s.drop k).map wd))/\Hid (Blk wr (w.heap.size + 1 + 1) 110 (List.replicate 8 (wd 0)))/\Hid (Below w.heap.size w wr)) (fun i _=>8 - (intOf i).toNat)
   case atStart=>exact ⟨0,[],by omega,rfl,rfl,HT.out.symm,by unfold Hid; have:=B0.out; rw [HCS.out] at this; exact this,B2,BW⟩
   case round =>
    clear B0 B1 B2 BW
    obtain ⟨k,l,hk,rfl,HK,HE,B0,B2,BW⟩:=hrel
    by_cases hlt:k < 8
    ·obtain ⟨sk,hsk⟩:∃ x,x=s.getD k 0:=⟨_,rfl⟩
     obtain ⟨rk,hrk⟩:∃ x,x=R.getD k 0:=⟨_,rfl⟩
     have hix:=run_index_one (P:=Tryd.prog) wr 110 102 8 _ Tryd.underlying110 Tryd.underlying102 rfl (by kernel_rfl) rc k hlt (.int .u32 rk) (by rw [HRC.out,hrk]; exact wd_at R k (by rw [HRL.out]; exact hlt))
     have c0:wr.cell? ⟨w.heap.size,k,none⟩=some (.int .u32 sk):=by rw [B0.out.cell,hsk]; exact half_at l s k HK.out (by rw [HS.out]; exact hlt)
     have f0:wr.frozen? ⟨w.heap.size,k,none⟩=false:=B0.out.frozen k
     have HE2:Hid (l ++ [Sha.add sk rk] ++ Sha.adds (s.drop (k + 1)) (R.drop (k + 1))=T):=by
      unfold Hid
      rw [<- HE.out,drop_cons s k (by rw [HS.out]; exact hlt),drop_cons R k (by rw [HRL.out]; exact hlt),Sha.adds_cons,<- hsk,<- hrk]
      simp
     have HB:Hid (Blk (wr.setCell ⟨w.heap.size,k,none⟩ (wd (Sha.add sk rk))) w.heap.size 110 ((l ++ [Sha.add sk rk]).map wd ++ (s.drop (k + 1)).map wd)):=by
      have:=B0.out.set_ k (wd (Sha.add sk rk))
      rw [half_set l s k _ HK.out (by rw [HS.out]; exact hlt)] at this
      exact this
     clear hsk hrk HE
     go_wp2
     go_roundw
     case rel=>exact ⟨k + 1,_,by omega,by go_num,by unfold Hid; simp [HK.out],HE2,HB,B2.out.far (by show w.heap.size + 1 + 1 ≠ w.heap.size; omega) _,BW.out.setCell (Nat.le_refl _) _⟩
     case measure=>simp [intOf]; omega
    ·obtain rfl:k=8:=by omega
     have hl:l=T:=by
      have:=HE.out
      rw [List.drop_of_length_le (show s.length<=8 by rw [HS.out]; omega)] at this
      simpa [Sha.adds] using this
     obtain ⟨C,hC⟩:∃ C,C=l.map wd:=⟨_,rfl⟩
     have B3:=B0.out
     rw [List.drop_of_length_le (show s.length<=8 by rw [HS.out]; omega),List.map_nil,List.append_nil,<- hC] at B3
     have HV:Hid (C=T.map wd):=by unfold Hid; rw [hC,hl]
     have hCl:C.length=8:=by rw [hC,List.length_map,HK.out]
     have HI:Hid ((Tryd.prog.info? 110).map (·.size)=some C.length):=by unfold Hid; rw [hCl]; kernel_rfl
     have HF0:Hid ((List.replicate 8 (wd 0)).length=C.length):=by unfold Hid; rw [hCl]; rfl
     have H1:Hid (∀ v ∈ C,v.oneCell'=true):=by unfold Hid; rw [hC]; exact cells_wd l
     have HD:=Lib.hid B3
     have HN:=Lib.hid (B2.out.row (cs':=C))
     have HB4:=Lib.hid (below_setRow BW.out (show w.heap.size<=w.heap.size + 1 + 1 by omega) C.toArray)
     clear hCl hC hl HE B3 HK
     go_wp2_with (first
      | (with_reducible refine load_law rfl 110 (.tmp 2) rfl w.heap.size 0 rfl C _ Tryd.underlying110 rfl HI.out HD.out.cells ?_)
      | (with_reducible refine storeAll_law rfl 110 (.tmp 4) (.tmp 118) rfl (w.heap.size + 1 + 1) rfl C rfl 110 (List.replicate 8 (wd 0)) B2.out HI.out HF0.out H1.out ?_))
     refine bodyPost_ret (results_cell_row rfl _ _ (w.heap.size + 1 + 1) 110 C.toArray (0,0) _ rfl HN.out Tryd.underlying110 rfl (by rw [HI.out]; simp)) rfl ⟨?_,HB4.out⟩
     rw [HV.out,HT.out,HR2.out]
end Go.Proofs.YtajgjeialbgijaaDoor
namespace Go.Proofs.YtajgjeialbgijaaDoor
set_option linter.unusedVariables false
set_option linter.unusedSimpArgs false
set_option maxRecDepth 100000
open Go.RowKit
theorem info5:(Tryd.prog.info? 5).map (fun i=>(i.zero,i.size,i.bytes))=some (some (.int .u8 0),1,1):=by kernel_rfl
theorem size5:(Tryd.prog.info? 5).map (·.size)=some 1:=by kernel_rfl
structure Rd (w:World) (A:Option Addr) (n c:Nat) (l:List UInt8):Prop where
 len:l.length=n
 cap:n<=c
 max:c<=maxLen
 at_:0 < n->∃ b off,A=some ⟨b,off,none⟩/\b < w.heap.size/\∀ j,j < n->w.cell? ⟨b,off + j,none⟩=some (cellOf (l.getD j 0))
theorem Rd.keep {w w':World} {A:Option Addr} {n c:Nat} {l:List UInt8} (h:Rd w A n c l) (hs:w.heap.size<=w'.heap.size) (hk:∀ b off,A=some ⟨b,off,none⟩->0 < n->b < w.heap.size->w'.heap[b]?=w.heap[b]?):Rd w' A n c l :=
 ⟨h.len,h.cap,h.max,fun h0=>by
  obtain ⟨b,off,rfl,hlt,hc⟩:=h.at_ h0
  exact ⟨b,off,rfl,Nat.lt_of_lt_of_le hlt hs,fun j hj=>(World.cell?_of_block (a:=⟨b,off + j,none⟩) (hk b off rfl h0 hlt)).trans (hc j hj)⟩⟩
theorem Rd.below {w w':World} {A:Option Addr} {n c:Nat} {l:List UInt8} (h:Rd w A n c l) (hb:Below w.heap.size w w'):Rd w' A n c l :=
 h.keep hb.size fun b _ _ _ hb'=>hb.block b hb'
theorem Rd.grown {w w':World} {A:Option Addr} {n c:Nat} {l:List UInt8} {g:Nat} (h:Rd w A n c l) (hb:w.grownBy w' (some g)) (hne:0 < n->∀ ad,A=some ad->ad.block ≠ g):Rd w' A n c l :=
 h.keep hb.size fun b off e h0 hb'=>hb.block b hb' (by have:=hne h0 _ e; simpa using this)
theorem Rd.nil (w:World) (A:Option Addr) (c:Nat) (hc:c<=maxLen):Rd w A 0 c []:=⟨rfl,Nat.zero_le _,hc,fun h=>absurd h (by omega)⟩
theorem Rd.drew {w:World} {A:Option Addr} {n c:Nat} {l:List UInt8} (h:Rd w A n c l):Rd w.drew A n c l:=⟨h.len,h.cap,h.max,h.at_⟩
def cutA (A:Option Addr) (c k:Nat):Option Addr:=if c=k then A else A.map (·.add k)
theorem slice_lh (A:Option Addr) (n c k e:Nat) (h1:k<=e) (h2:e<=c) (W:World) :
  (Instr.slice 41 (.slice A n c) (some (.int .i64 (k:Int))) (some (.int .i64 (e:Int))) none).run Tryd.prog W = .ok (.slice (cutA A c k) (e - k) (c - k)) W:=by
 obtain ⟨i0,hi,hz0,hz1,hz2⟩:=info_parts info5
 have hel:Tryd.prog.elem 41=5:=by kernel_rfl
 have:=run_slice_lh (P:=Tryd.prog) W 41 A n c (by rw [hel]; exact Tryd.underlying41) .i64 .i64 (k:Int) (e:Int) (by omega) (by omega) (by omega)
 rw [this,hel]
 simp [sizeOf,typeInfo,hi,hz1,sliced,cutA]
theorem slice_l (A:Option Addr) (n c k:Nat) (h1:k<=n) (W:World) :
  (Instr.slice 41 (.slice A n c) (some (.int .i64 (k:Int))) none none).run Tryd.prog W = .ok (.slice (cutA A c k) (n - k) (c - k)) W:=by
 obtain ⟨i0,hi,hz0,hz1,hz2⟩:=info_parts info5
 have hel:Tryd.prog.elem 41=5:=by kernel_rfl
 have:=run_slice_l (P:=Tryd.prog) W 41 A n c (by rw [hel]; exact Tryd.underlying41) .i64 (k:Int) (by omega) (by omega)
 rw [this,hel]
 simp [sizeOf,typeInfo,hi,hz1,sliced,cutA]
theorem slice_h (A:Option Addr) (n c e:Nat) (h2:e<=c) (W:World) :
  (Instr.slice 41 (.slice A n c) none (some (.int .i64 (e:Int))) none).run Tryd.prog W = .ok (.slice (cutA A c 0) e c) W:=by
 obtain ⟨i0,hi,hz0,hz1,hz2⟩:=info_parts info5
 have hel:Tryd.prog.elem 41=5:=by kernel_rfl
 have:=run_slice_h (P:=Tryd.prog) W 41 A n c (by rw [hel]; exact Tryd.underlying41) .i64 (e:Int) (by omega) (by omega)
 rw [this,hel]
 simp [sizeOf,typeInfo,hi,hz1,sliced,cutA]
theorem cut_block {A:Option Addr} {c k:Nat} {ad:Addr} (h:cutA A c k=some ad):∃ a0,A=some a0/\a0.block=ad.block:=by
 unfold cutA at h
 split at h
 ·exact ⟨ad,h,rfl⟩
 ·cases A with
  | none=>simp at h
  | some a0 =>
   simp only [Option.map_some,Option.some.injEq] at h
   subst h
   refine ⟨a0,rfl,?_⟩
   unfold Addr.add; split <;> rfl
theorem Rd.cut {w:World} {A:Option Addr} {n c k e:Nat} {l:List UInt8} (h:Rd w A n c l) (h1:k<=e) (h2:e<=n):Rd w (cutA A c k) (e - k) (c - k) ((l.drop k).take (e - k)):=by
 have hl:=h.len
 have hc:=h.cap
 have hm:=h.max
 refine ⟨by simp; omega,by omega,by omega,fun h0=>?_⟩
 obtain ⟨b,off,rfl,hlt,hcell⟩:=h.at_ (by omega)
 refine ⟨b,off + k,?_,hlt,fun j hj=>?_⟩
 ·unfold cutA
  rw [if_neg (by omega)]
  simp only [Option.map_some,Addr.add]
  split
  ·simp_all
  ·rfl
 ·rw [Nat.add_assoc,hcell (k + j) (by omega)]
  congr 2
  simp only [List.getD_eq_getElem?_getD,List.getElem?_take,List.getElem?_drop]
  rw [if_pos hj]
theorem Rd.cells {w:World} {b off n c:Nat} {l:List UInt8} (h:Rd w (some ⟨b,off,none⟩) n c l):∀ j v,(l.map cellOf)[j]?=some v->w.cell? ⟨b,off + j,none⟩=some v:=fun j v hv=>by
 have hj:j < l.length:=by simpa using (List.getElem?_eq_some_iff.1 hv).1
 obtain ⟨b',off',e,_,hc⟩:=h.at_ (by have:=h.len; omega)
 simp only [Option.some.injEq,Addr.mk.injEq,and_true] at e
 obtain ⟨rfl,rfl⟩:=e
 rw [hc j (by have:=h.len; omega),<- hv]
 simp [List.getD_eq_getElem?_getD,List.getElem?_eq_getElem hj]
theorem Rd.of_block {w:World} {g off n c:Nat} {t:TypeId} {l:List UInt8} {cs:List Value} (hb:Blk w g t cs) (hl:l.length=n) (hn:n<=c) (hc:c<=maxLen) (h:∀ j,j < n->cs[off + j]?=some (cellOf (l.getD j 0))):Rd w (some ⟨g,off,none⟩) n c l :=
 ⟨hl,hn,hc,fun _=>⟨g,off,rfl,hb.lt,fun j hj=>by rw [hb.cell]; exact h j hj⟩⟩
structure RdP (w:World) (A:Option Addr) (n:Nat) (ps:List (List UInt8)):Prop where
 len:ps.length=n
 at_:∀ j,j < n->∃ b off A' n' c',A=some ⟨b,off,none⟩/\b < w.heap.size/\w.cell? ⟨b,off + j,none⟩=some (.slice A' n' c')/\Rd w A' n' c' (ps.getD j [])
theorem RdP.below {w w':World} {A:Option Addr} {n:Nat} {ps:List (List UInt8)} (h:RdP w A n ps) (hb:Below w.heap.size w w'):RdP w' A n ps :=
 ⟨h.len,fun j hj=>by
  obtain ⟨b,off,A',n',c',e,hlt,hc,hr⟩:=h.at_ j hj
  exact ⟨b,off,A',n',c',e,Nat.lt_of_lt_of_le hlt hb.size,(hb.cell (p:=⟨b,off + j,none⟩) hlt).trans hc,hr.below hb⟩⟩
theorem Rd.apart {w:World} {A:Option Addr} {n c g:Nat} {l:List UInt8} (h:Rd w A n c l) (hg:w.heap.size<=g):0 < n->∀ ad,A=some ad->ad.block ≠ g:=fun h0 ad had=>by
 obtain ⟨b,off,e,hlt,_⟩:=h.at_ h0
 rw [had] at e
 injection e with e
 subst e
 show b ≠ g
 omega
end Go.Proofs.YtajgjeialbgijaaDoor
namespace Go.Proofs.YtajgjeialbgijaaDoor
set_option linter.unusedVariables false
set_option linter.unusedSimpArgs false
set_option maxRecDepth 100000
open Go.RowKit
def stC (hs:List Int) (bl:List UInt8) (n:Nat):List Value:=hs.map wd ++ (bl.map cellOf ++ [.int .u64 (n:Int)])
theorem stC_length (hs:List Int) (bl:List UInt8) (n:Nat) (h:hs.length=8) (hb:bl.length=64):(stC hs bl n).length=73:=by simp [stC,h,hb]
theorem stC_sums (hs:List Int) (bl:List UInt8) (n:Nat) (h:hs.length=8):∀ j v,(hs.map wd)[j]?=some v->(stC hs bl n)[0 + j]?=some v:=fun j v hv=>by
 have hj:j < 8:=by have:=(List.getElem?_eq_some_iff.1 hv).1; simp at this; omega
 unfold stC
 rw [Nat.zero_add,List.getElem?_append_left (by simp; omega)]
 exact hv
theorem stC_block (hs:List Int) (bl:List UInt8) (n:Nat) (h:hs.length=8) (hb:bl.length=64):∀ j v,(bl.map cellOf)[j]?=some v->(stC hs bl n)[8 + j]?=some v:=fun j v hv=>by
 have hj:j < 64:=by have:=(List.getElem?_eq_some_iff.1 hv).1; simp at this; omega
 unfold stC
 rw [List.getElem?_append_right (by simp; omega),List.getElem?_append_left (by simp; omega),<- hv]
 simp [h]
theorem stC_len (hs:List Int) (bl:List UInt8) (n:Nat) (h:hs.length=8) (hb:bl.length=64):(stC hs bl n)[72]?=some (.int .u64 (n:Int)):=by
 unfold stC
 rw [List.getElem?_append_right (by simp; omega),List.getElem?_append_right (by simp; omega)]
 simp [h,hb]
theorem stC_newSums (hs hs':List Int) (bl:List UInt8) (n:Nat) (h:hs.length=8) (h':hs'.length=8):(stC hs bl n).take 0 ++ hs'.map wd ++ (stC hs bl n).drop (0 + (hs'.map wd).length)=stC hs' bl n:=by
 unfold stC
 rw [List.take_zero,List.nil_append,List.length_map,h',List.drop_append_of_le_length (by simp; omega),List.drop_of_length_le (by simp; omega),List.nil_append]
theorem stC_newBytes (hs:List Int) (bl x:List UInt8) (n a:Nat) (h:hs.length=8) (hb:bl.length=64) (hx:a + x.length<=64) :
  (stC hs bl n).take (8 + a) ++ x.map cellOf ++ (stC hs bl n).drop (8 + a + (x.map cellOf).length)=stC hs (bl.take a ++ x ++ bl.drop (a + x.length)) n:=by
 unfold stC
 rw [List.take_append,List.take_of_length_le (by simp; omega),List.take_append_of_le_length (by simp; omega),List.drop_append,List.drop_of_length_le (by simp; omega),List.drop_append_of_le_length (by simp; omega)]
 simp only [List.length_map,h,List.map_append,List.map_take,List.map_drop,List.nil_append,List.append_assoc]
 rw [show 8 + a - 8=a by omega,show 8 + a + x.length - 8=a + x.length by omega]
theorem stC_newLen (hs:List Int) (bl:List UInt8) (n n':Nat) (h:hs.length=8) (hb:bl.length=64):(stC hs bl n).set 72 (.int .u64 (n':Int))=stC hs bl n':=by
 unfold stC
 rw [List.set_append_right _ _ (by simp; omega),List.set_append_right _ _ (by simp; omega)]
 simp [h,hb]
def Ready (w:World) (g:Nat) (m:List UInt8):Prop:=∃ bl:List UInt8,Blk w g 113 (stC (Sha.absorb m) bl m.length)/\bl.length=64/\bl.take (m.length % 64)=m.drop (64 * (m.length / 64))
def Holds (w:World) (g:Nat) (m:List UInt8):Prop:=∃ (hs:List Int) (bl:List UInt8),Blk w g 113 (stC hs bl m.length)/\hs.length=8/\bl.length=64/\bl.take (m.length % 64)=m.drop (64 * (m.length / 64))/\(m ≠ []->hs=Sha.absorb m)
theorem Ready.holds {w:World} {g:Nat} {m:List UInt8} (h:Ready w g m):Holds w g m:=by
 obtain ⟨bl,h1,h2,h3⟩:=h
 exact ⟨_,bl,h1,Sha.absorb_length m,h2,h3,fun _=>rfl⟩
theorem Holds.keep {w w':World} {g:Nat} {m:List UInt8} (h:Holds w g m) (hk:w'.heap[g]?=w.heap[g]?):Holds w' g m:=by
 obtain ⟨hs,bl,h1,h2⟩:=h
 exact ⟨hs,bl,hk.trans h1,h2⟩
theorem Holds.lt {w:World} {g:Nat} {m:List UInt8} (h:Holds w g m):g < w.heap.size:=by
 obtain ⟨hs,bl,h1,h2⟩:=h
 exact h1.lt
theorem ready_less {w:World} {g:Nat} {m x:List UInt8} {bl:List UInt8} (hb:Blk w g 113 (stC (Sha.absorb m) (bl.take (m.length % 64) ++ x ++ bl.drop (m.length % 64 + x.length)) (m ++ x).length)) (hl:bl.length=64) (ht:bl.take (m.length % 64)=m.drop (64 * (m.length / 64)))
  (hx:m.length % 64 + x.length < 64):Ready w g (m ++ x):=by
 refine ⟨_,by rw [Sha.absorb_less m x hx]; exact hb,by simp; omega,?_⟩
 have e1:(m ++ x).length % 64=m.length % 64 + x.length:=by rw [List.length_append]; omega
 have e2:(m ++ x).length / 64=m.length / 64:=by rw [List.length_append]; omega
 rw [e1,e2,List.drop_append_of_le_length (by omega),<- ht,List.take_append_of_le_length (by simp; omega),List.take_of_length_le (by simp; omega)]
theorem full_block {m x:List UInt8} {bl:List UInt8} (hl:bl.length=64) (ht:bl.take (m.length % 64)=m.drop (64 * (m.length / 64))) (hx:m.length % 64 + x.length=64) :
  bl.take (m.length % 64) ++ x ++ bl.drop (m.length % 64 + x.length)=m.drop (64 * (m.length / 64)) ++ x:=by
 rw [ht,show bl.drop (m.length % 64 + x.length)=[] from List.drop_of_length_le (by omega),List.append_nil]
theorem ready_full {w:World} {g:Nat} {m x:List UInt8} (hb:Blk w g 113 (stC (Sha.comp (Sha.absorb m) (m.drop (64 * (m.length / 64)) ++ x)) (m.drop (64 * (m.length / 64)) ++ x) (m ++ x).length)) (hx:m.length % 64 + x.length=64):Ready w g (m ++ x):=by
 refine ⟨_,by rw [Sha.absorb_block m x hx]; exact hb,by simp; omega,?_⟩
 have e1:(m ++ x).length % 64=0:=by rw [List.length_append]; omega
 rw [e1,List.take_zero,List.drop_of_length_le (by rw [List.length_append]; omega)]
def slen:Value->Nat
 | .slice _ n _=>n
 | _=>0
theorem only_drew {a w:World} {row:Option Nat} (h:a.grownBy w row):a.grownBy w.drew row:=⟨h.os,h.tape,h.output,h.size,h.block⟩
theorem only_alloc {a w:World} {row:Option Nat} (h:a.grownBy w row) (o:Obj):a.grownBy (w.alloc o) row :=
 ⟨h.os,h.tape,h.output,Nat.le_trans h.size (by simp),fun i hi hne=>(Below.heap_alloc w o i (Nat.lt_of_lt_of_le hi h.size)).trans (h.block i hi hne)⟩
theorem only_setCell {a w:World} {g:Nat} (h:a.grownBy w (some g)) {p:Addr} (hp:p.block=g ∨ a.heap.size<=p.block) (u:Value):a.grownBy (w.setCell p u) (some g) :=
 ⟨h.os,h.tape,h.output,by simpa [World.setCell] using h.size,fun i hi hne=>(Below.heap_setCell w p u i (by
  rintro rfl
  rcases hp with hp | hp
  ·exact hne (by rw [hp])
  ·omega)).trans (h.block i hi hne)⟩
theorem only_setRow {a w:World} {g k:Nat} (h:a.grownBy w (some g)) (hp:k=g ∨ a.heap.size<=k) (c:Array Value):a.grownBy (w.setRow k c) (some g) :=
 ⟨h.os,h.tape,h.output,by simpa using h.size,fun i hi hne=>(setRow_other w k i c (by
  rintro rfl
  rcases hp with hp | hp
  ·exact hne (by rw [hp])
  ·omega)).trans (h.block i hi hne)⟩
theorem only_of_below {a w:World} (h:Below a.heap.size a w) (row:Option Nat):a.grownBy w row:=⟨h.os,h.tape,h.output,h.size,fun i hi _=>h.block i hi⟩
theorem only_refl (a:World) (row:Option Nat):a.grownBy a row:=⟨rfl,rfl,rfl,Nat.le_refl _,fun _ _ _=>rfl⟩
theorem only_trans {a b c:World} {row:Option Nat} (h:a.grownBy b row) (k:b.grownBy c row):a.grownBy c row :=
 ⟨k.os.trans h.os,k.tape.trans h.tape,k.output.trans h.output,Nat.le_trans h.size k.size,fun i hi hne=>(k.block i (Nat.lt_of_lt_of_le hi h.size) hne).trans (h.block i hi hne)⟩
theorem below_of_only {a w w':World} {g B:Nat} (h:Below B a w) (k:w.grownBy w' (some g)) (hB:B<=g) (hs:B<=w.heap.size):Below B a w' :=
 ⟨k.os.trans h.os,k.tape.trans h.tape,k.output.trans h.output,Nat.le_trans h.size k.size,fun i hi=>(k.block i (by omega) (by simp; omega)).trans (h.block i hi)⟩
theorem Gl.only {w w':World} {g:Nat} (h:Gl w) (hb:w.grownBy w' (some g)) (hg:2<=g):Gl w' :=
 ⟨fun j v hv=>(World.cell?_of_block (a:=⟨0,0 + j,none⟩) (hb.block 0 (by have:=h.size; omega) (by simp; omega))).trans (h.first j v hv),
  fun j v hv=>(World.cell?_of_block (a:=⟨1,0 + j,none⟩) (hb.block 1 (by have:=h.size; omega) (by simp; omega))).trans (h.rounds j v hv),Nat.le_trans h.size hb.size⟩
end Go.Proofs.YtajgjeialbgijaaDoor
namespace Go.Proofs.YtajgjeialbgijaaDoor
set_option linter.unusedVariables false
set_option linter.unusedSimpArgs false
set_option maxRecDepth 100000
open Go.RowKit
theorem sliceAt_l (t:TypeId) (n:Nat) (ht:Tryd.prog.underlying t=some (.array n 5)) (g off a:Nat) (ha:a < n) (W:World) :
  (Instr.sliceAt t (.pointer (some ⟨g,off,none⟩)) (some (.int .i64 (a:Int))) none none).run Tryd.prog W = .ok (.slice (some ⟨g,off + a,none⟩) (n - a) (n - a)) W:=by
 obtain ⟨i0,hi,hz0,hz1,hz2⟩:=info_parts info5
 have h1:¬ n=a:=by omega
 have h2:(a:Int)<=(n:Int):=by omega
 simp [Instr.sliceAt,run_underlying ht,Instr.sureAddr,Instr.sliceBounds,sizeOf,typeInfo,hi,hz1,asIntOf,add_plain,h1,h2,go_sem]
theorem sliceAt_h (t:TypeId) (n:Nat) (ht:Tryd.prog.underlying t=some (.array n 5)) (g off e:Nat) (he:e<=n) (W:World) :
  (Instr.sliceAt t (.pointer (some ⟨g,off,none⟩)) none (some (.int .i64 (e:Int))) none).run Tryd.prog W = .ok (.slice (some ⟨g,off,none⟩) e n) W:=by
 obtain ⟨i0,hi,hz0,hz1,hz2⟩:=info_parts info5
 have h2:(e:Int)<=(n:Int):=by omega
 simp [Instr.sliceAt,run_underlying ht,Instr.sureAddr,Instr.sliceBounds,sizeOf,typeInfo,hi,hz1,asIntOf,add_plain,h2,go_sem]
theorem sliceAt_all (t:TypeId) (n:Nat) (ht:Tryd.prog.underlying t=some (.array n 5)) (g off:Nat) (W:World) :
  (Instr.sliceAt t (.pointer (some ⟨g,off,none⟩)) none none none).run Tryd.prog W = .ok (.slice (some ⟨g,off,none⟩) n n) W:=by
 obtain ⟨i0,hi,hz0,hz1,hz2⟩:=info_parts info5
 simp [Instr.sliceAt,run_underlying ht,Instr.sureAddr,Instr.sliceBounds,sizeOf,typeInfo,hi,hz1,asIntOf,add_plain,go_sem]
end Go.Proofs.YtajgjeialbgijaaDoor
