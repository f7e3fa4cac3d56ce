import Derived.StillTailTactics
import Derived.Deep.CutRange
import Derived.Deep.QuietTactic
import Derived.BigQuiet
import Derived.Deep.DeepCutAuto
import Derived.Test.YtajgjeialbgijaaDoorSPhase
import Derived.Test.YtajgjeialbgijaaDoorSGrow
import Derived.Test.YtajgjeialbgijaaDoorSGsha1
import Derived.Test.YtajgjeialbgijaaDoorSGsha2
import Derived.Test.YtajgjeialbgijaaDoorSGsha3
namespace Go.Proofs.YtajgjeialbgijaaDoor.Cha
set_option linter.unusedVariables false
set_option linter.unusedSimpArgs false
set_option maxRecDepth 100000
def rol (x:Int) (n:Nat):Int:=bits .or .u32 (IntKind.u32.wrap (x * 2 ^ n)) (x / 2 ^ (32 - n))
def q0 (a b c d:Int):Int × Int × Int × Int:=(Sha.add a b,b,c,rol (Sha.xr d (Sha.add a b)) 16)
def q1 (a b c d:Int):Int × Int × Int × Int:=(a,rol (Sha.xr b (Sha.add c d)) 12,Sha.add c d,d)
def q2 (a b c d:Int):Int × Int × Int × Int:=(Sha.add a b,b,c,rol (Sha.xr d (Sha.add a b)) 8)
def q3 (a b c d:Int):Int × Int × Int × Int:=(a,rol (Sha.xr b (Sha.add c d)) 7,Sha.add c d,d)
def on {α:Type} (f:Int->Int->Int->Int->α) (p:Int × Int × Int × Int):α:=f p.1 p.2.1 p.2.2.1 p.2.2.2
def qr (a b c d:Int):Int × Int × Int × Int:=on q3 (on q2 (on q1 (q0 a b c d)))
def pb (i e:Nat):Nat:=4 + (i + e) % 4
def pc (i e:Nat):Nat:=8 + (i + 2 * e) % 4
def pd (i e:Nat):Nat:=12 + (i + 3 * e) % 4
def put4 (w:List Int) (i e:Nat) (p:Int × Int × Int × Int):List Int:=(((w.set i p.1).set (pb i e) p.2.1).set (pc i e) p.2.2.1).set (pd i e) p.2.2.2
def q4 (w:List Int) (i e:Nat):List Int:=put4 w i e (qr (w.getD i 0) (w.getD (pb i e) 0) (w.getD (pc i e) 0) (w.getD (pd i e) 0))
def qs (e:Nat):Nat->List Int->List Int
 | 0,w=>w
 | k + 1,w=>q4 (qs e k w) k e
def rnd (e:Nat) (w:List Int):List Int:=qs e 4 w
def rounds:Nat->List Int->List Int
 | 0,w=>w
 | k + 1,w=>rnd 1 (rnd 0 (rounds k w))
def low (a b c d:UInt8):Int :=
 bits .or .u32 (bits .or .u32 (bits .or .u32 (a.toNat:Int) ((b.toNat:Int) * 256)) ((c.toNat:Int) * 65536)) ((d.toNat:Int) * 16777216)
def word (b:List UInt8) (i:Nat):Int:=low (b.getD (4 * i) 0) (b.getD (4 * i + 1) 0) (b.getD (4 * i + 2) 0) (b.getD (4 * i + 3) 0)
def consts:List Int:=[0x61707865,0x3320646e,0x79622d32,0x6b206574]
def first (key:List UInt8) (ctr:Int) (nonce:List UInt8):List Int:=consts ++ (List.range 8).map (word key) ++ [ctr] ++ (List.range 3).map (word nonce)
def bytesL (x:Int):List UInt8:=[Sha.by8 x,Sha.by8 (x / 256),Sha.by8 (x / 65536),Sha.by8 (x / 16777216)]
def flatL:List Int->List UInt8
 | []=>[]
 | x :: l=>bytesL x ++ flatL l
def sums (w f:List Int):List Int:=Sha.adds w f
def block (key:List UInt8) (ctr:Int) (nonce:List UInt8):List UInt8:=flatL (Sha.adds (rounds 10 (first key ctr nonce)) (first key ctr nonce))
def ctrAt (ctr:Int) (j:Nat):Int:=IntKind.u32.wrap (ctr + (j:Int))
def stream (key:List UInt8) (ctr:Int) (nonce:List UInt8) (i:Nat):UInt8:=(block key (ctrAt ctr (i / 64)) nonce).getD (i % 64) 0
def xorTo (key:List UInt8) (ctr:Int) (nonce b:List UInt8) (k:Nat):List UInt8:=(List.range k).map fun i=>b.getD i 0 ^^^ stream key ctr nonce i
def xor (key:List UInt8) (ctr:Int) (nonce b:List UInt8):List UInt8:=xorTo key ctr nonce b b.length
theorem put4_length (w:List Int) (i e:Nat) (p:Int × Int × Int × Int):(put4 w i e p).length=w.length:=by simp [put4]
theorem q4_length (w:List Int) (i e:Nat):(q4 w i e).length=w.length:=put4_length _ _ _ _
theorem qs_length (e:Nat):∀ (k:Nat) (w:List Int),(qs e k w).length=w.length
 | 0,_=>rfl
 | k + 1,w=>by rw [qs,q4_length,qs_length e k w]
theorem rnd_length (e:Nat) (w:List Int):(rnd e w).length=w.length:=qs_length e 4 w
theorem rounds_length:∀ (k:Nat) (w:List Int),(rounds k w).length=w.length
 | 0,_=>rfl
 | k + 1,w=>by rw [rounds,rnd_length,rnd_length,rounds_length k w]
theorem first_length (key:List UInt8) (ctr:Int) (nonce:List UInt8):(first key ctr nonce).length=16:=by simp [first,consts]
theorem flatL_length:∀ l:List Int,(flatL l).length=4 * l.length
 | []=>rfl
 | x :: l=>by rw [flatL,List.length_append,flatL_length l]; simp [bytesL]; omega
theorem block_length (key:List UInt8) (ctr:Int) (nonce:List UInt8):(block key ctr nonce).length=64:=by
 unfold block
 rw [flatL_length,Sha.adds_length _ _ (by rw [rounds_length]),rounds_length,first_length]
theorem flatL_append:∀ (l r:List Int),flatL (l ++ r)=flatL l ++ flatL r
 | [],r=>rfl
 | x :: l,r=>by rw [List.cons_append,flatL,flatL,flatL_append l r,List.append_assoc]
theorem flatL_snoc (l:List Int) (x:Int):flatL (l ++ [x])=flatL l ++ bytesL x:=by rw [flatL_append]; simp [flatL]
theorem xorTo_length (key:List UInt8) (ctr:Int) (nonce b:List UInt8) (k:Nat):(xorTo key ctr nonce b k).length=k:=by simp [xorTo]
theorem xorTo_succ (key:List UInt8) (ctr:Int) (nonce b:List UInt8) (k:Nat):xorTo key ctr nonce b (k + 1)=xorTo key ctr nonce b k ++ [b.getD k 0 ^^^ stream key ctr nonce k]:=by
 unfold xorTo
 rw [List.range_succ,List.map_append]
 rfl
theorem places (i e:Nat) (h:i < 4):i < 16/\pb i e < 16/\pc i e < 16/\pd i e < 16:=by unfold pb pc pd; omega
theorem adds_get:∀ (l r:List Int) (j:Nat),j < l.length->j < r.length->(Sha.adds l r).getD j 0=Sha.add (l.getD j 0) (r.getD j 0)
 | a :: l,b :: r,0,_,_=>by rw [Sha.adds_cons]; rfl
 | a :: l,b :: r,j + 1,h1,h2=>by
  rw [Sha.adds_cons]
  have:=adds_get l r j (by simpa using h1) (by simpa using h2)
  simpa using this
 | [],_,_,h,_=>by simp at h
 | _ :: _,[],_,_,h=>by simp at h
end Go.Proofs.YtajgjeialbgijaaDoor.Cha
namespace Go.Proofs.YtajgjeialbgijaaDoor
set_option linter.unusedVariables false
set_option linter.unusedSimpArgs false
set_option maxRecDepth 100000
open Go.RowKit
theorem and31p:∀ n:Nat,n < 32->bits .and .u64 (n:Int) 31=(n:Int):=by decide +kernel
set_option maxHeartbeats 400000 in
theorem rol_any (x:Int) (n:Nat) (w:World) (h1:1<=n) (h2:n < 32) :
  Calls Tryd.prog 91 #[.int .u32 x,.int .i64 (n:Int)] w fun e w'=>e = .returned (.int .u32 (Cha.rol x n))/\w'=w:=by
 have h31:=and31p n h2
 go_enter Tryd.func91,Tryd.ntmps91
 go_wp2
 go_ret
 exact ⟨ret_int (by unfold Cha.rol; rw [IntKind.wrap_u32']),rfl⟩
theorem rol_lit (x n:Int) (w:World) (h1:1<=n) (h2:n < 32) :
  Calls Tryd.prog 91 #[.int .u32 x,.int .i64 n] w fun e w'=>e = .returned (.int .u32 (Cha.rol x n.toNat))/\w'=w:=by
 obtain ⟨m,rfl⟩:=Int.eq_ofNat_of_zero_le (show 0<=n by omega)
 exact rol_any x m w (by omega) (by omega)
def four (p:Int × Int × Int × Int):Value:=.tuple #[.int .u32 p.1,.int .u32 p.2.1,.int .u32 p.2.2.1,.int .u32 p.2.2.2]
theorem results_tmp4 {fn:Func} {t u v x:Tmp} (h:fn.results=#[.tmp t,.tmp u,.tmp v,.tmp x]) (tmps:Array Value) (P:Program) (w:World) :
  (results fn tmps).run P w = .ok (.tuple #[tmps.getD t undef,tmps.getD u undef,tmps.getD v undef,tmps.getD x undef]) w:=by
 simp [results,h]
theorem add_form (a b:Int):(a + b) % 4294967296=Sha.add a b:=by unfold Sha.add; rw [IntKind.wrap_u32']
theorem add_more (a b c:Int):Sha.add (a + b) c=Sha.add (Sha.add a b) c:=by unfold Sha.add; simp only [IntKind.wrap_u32']; omega
set_option maxRecDepth 100000 in
set_option maxHeartbeats 1000000 in
theorem quarter_any (a b c d:Int) (w:World) :
  Calls Tryd.prog 79 #[.int .u32 a,.int .u32 b,.int .u32 c,.int .u32 d] w fun e w'=>e = .returned (four (Cha.qr a b c d))/\w'=w:=by
 go_enter Tryd.func79,Tryd.ntmps79
 go_wp2_with (go_at_call 91; refine (rol_lit _ _ _ (by omega) (by omega)).mono ?_; rintro e w' ⟨rfl,rfl⟩)
 refine bodyPost_ret (results_tmp4 rfl _ _ _) rfl ?_
 refine ⟨?_,rfl⟩
 simp only [add_form,add_more]
 rfl
end Go.Proofs.YtajgjeialbgijaaDoor
namespace Go.Proofs.YtajgjeialbgijaaDoor
set_option linter.unusedVariables false
set_option linter.unusedSimpArgs false
set_option maxRecDepth 100000
open Go.RowKit
theorem low_form (x0 x1 x2 x3:UInt8) :
  bits BinOp.or IntKind.u32 (bits BinOp.or IntKind.u32 (bits BinOp.or IntKind.u32 ((x0.toNat:Int) % 4294967296) ((x1.toNat:Int) % 4294967296 * 256 % 4294967296)) ((x2.toNat:Int) % 4294967296 * 65536 % 4294967296)) ((x3.toNat:Int) % 4294967296 * 16777216 % 4294967296)=Cha.low x0 x1 x2 x3:=by
 have h0:=x0.toNat_lt
 have h1:=x1.toNat_lt
 have h2:=x2.toNat_lt
 have h3:=x3.toNat_lt
 have e0:(x0.toNat:Int) % 4294967296=(x0.toNat:Int):=by omega
 have e1:(x1.toNat:Int) % 4294967296 * 256 % 4294967296=(x1.toNat:Int) * 256:=by omega
 have e2:(x2.toNat:Int) % 4294967296 * 65536 % 4294967296=(x2.toNat:Int) * 65536:=by omega
 have e3:(x3.toNat:Int) % 4294967296 * 16777216 % 4294967296=(x3.toNat:Int) * 16777216:=by omega
 rw [e0,e1,e2,e3]
 rfl
def fillN (n:Nat) (l:List Int):List Value:=l.map wd ++ List.replicate (n - l.length) (wd 0)
theorem fillN_at (n k:Nat) (l:List Int) (hk:l.length=k) (h:k < n):(fillN n l)[k]?=some (.int .u32 0):=by
 unfold fillN
 rw [List.getElem?_append_right (by simp <;> omega),List.length_map,hk,Nat.sub_self]
 exact List.getElem?_replicate_of_lt (by omega)
theorem fillN_set (n k:Nat) (l:List Int) (x:Int) (hk:l.length=k) (h:k < n):(fillN n l).set k (wd x)=fillN n (l ++ [x]):=by
 unfold fillN
 obtain ⟨j,hj⟩:∃ j,n - k=j + 1:=⟨n - k - 1,by omega⟩
 have hj':n - (l ++ [x]).length=j:=by simp; omega
 rw [hj',hk,hj,List.set_append_right _ _ (by simp <;> omega)]
 simp [List.replicate_succ,hk]
theorem fillN_full (n:Nat) (l:List Int) (h:l.length=n):fillN n l=l.map wd:=by unfold fillN; rw [h]; simp
theorem Blk.same {w w':World} {g:Nat} {t:TypeId} {cs:List Value} (h:Blk w g t cs) (hH:w'.heap=w.heap):Blk w' g t cs:=by unfold Blk at *; rw [hH]; exact h
theorem getD_drop (l:List UInt8) (a j:Nat):(l.drop a).getD j 0=l.getD (a + j) 0:=by simp [List.getD_eq_getElem?_getD,List.getElem?_drop]
theorem word_drop (b:List UInt8) (k:Nat):Cha.low ((b.drop (4 * k)).getD 0 0) ((b.drop (4 * k)).getD 1 0) ((b.drop (4 * k)).getD 2 0) ((b.drop (4 * k)).getD 3 0)=Cha.word b k:=by
 rw [getD_drop,getD_drop,getD_drop,getD_drop]
 rfl
theorem block_drop {w:World} {g n:Nat} {t:TypeId} {b:List UInt8} {cs:List Value} (hB:Blk w g t cs) (hc:cs=b.map cellOf) (hl:b.length=n) {k:Nat} (hk:k<=n) (hm:n<=1000):Rd w (some ⟨g,k,none⟩) (n - k) (n - k) (b.drop k) :=
 Rd.of_block hB (by rw [List.length_drop,hl]) (Nat.le_refl _) (by unfold maxLen; omega) (fun j hj=>by
  rw [hc,getD_drop]
  simp [List.getD_eq_getElem?_getD,List.getElem?_eq_getElem (show k + j < b.length by omega)])
set_option maxRecDepth 100000 in
set_option maxHeartbeats 1000000 in
theorem cword_any {w:World} {b off n c:Nat} {l:List UInt8} (h:Rd w (some ⟨b,off,none⟩) n c l) (h4:4<=n) :
  Calls Tryd.prog 103 #[.slice (some ⟨b,off,none⟩) n c] w fun e w'=>e = .returned (.int .u32 (Cha.low (l.getD 0 0) (l.getD 1 0) (l.getD 2 0) (l.getD 3 0)))/\Below w.heap.size w w'/\w'.heap=w.heap:=by
 have hcell:∀ j,j < n->w.drew.cell? ⟨b,off + j,none⟩=some (.int .u8 ((l.getD j 0).toNat:Int)):=fun j hj=>by
  obtain ⟨b',off',e,_,hc⟩:=h.at_ (by omega)
  simp only [Option.some.injEq,Addr.mk.injEq,and_true] at e
  obtain ⟨rfl,rfl⟩:=e
  exact hc j hj
 have c0:=hcell 0 (by omega)
 have c1:=hcell 1 (by omega)
 have c2:=hcell 2 (by omega)
 have c3:=hcell 3 (by omega)
 have hcap:=h.cap
 have hmax:=h.max
 unfold maxLen at hmax
 clear hcell h
 rw [Nat.add_zero] at c0
 generalize l.getD 0 0=x0 at *
 generalize l.getD 1 0=x1 at *
 generalize l.getD 2 0=x2 at *
 generalize l.getD 3 0=x3 at *
 have b0:(0:Int) < (n:Int):=by omega
 have b1:(1:Int) < (n:Int):=by omega
 have b2:(2:Int) < (n:Int):=by omega
 have b3:(3:Int) < (n:Int):=by omega
 have b0':0 < n:=by omega
 have b1':1 < n:=by omega
 have b2':2 < n:=by omega
 have b3':3 < n:=by omega
 have HB:=Lib.hid (Below.refl w.heap.size w).drew
 go_enter Tryd.func103,Tryd.ntmps103
 go_wp2_with fail
 refine wp_region_still_lit (by kernel_rfl) (by kernel_rfl) ?_
 have hD:({ w with drawn:=w.drawn + 1 }:World)=w.drew:=rfl
 rw [hD]
 clear hD
 have hH:w.drew.heap=w.heap:=rfl
 have HH:=Lib.hid hH
 clear hH
 generalize w.drew=w2 at *
 repeat still_step
 refine wpStill_nil ?_
 go_wp2_with fail
 go_ret
 refine ⟨ret_int ?_,HB.out,HH.out⟩
 exact low_form x0 x1 x2 x3
set_option maxRecDepth 100000 in
set_option maxHeartbeats 2000000 in
theorem cbegin_any (key nonce:List UInt8) (ctr:Int) (w:World) (hk:key.length=32) (hn:nonce.length=12) :
  Calls Tryd.prog 100 #[.agg (key.map cellOf).toArray,.int .u32 ctr,.agg (nonce.map cellOf).toArray] w fun e w'=>e = .returned (.agg ((Cha.first key ctr nonce).map wd).toArray)/\Below w.heap.size w w':=by
 obtain ⟨kc,hkc⟩:∃ c,c=key.map cellOf:=⟨_,rfl⟩
 obtain ⟨nc,hnc⟩:∃ c,c=nonce.map cellOf:=⟨_,rfl⟩
 rw [<- hkc,<- hnc]
 have HK:=Lib.hid hkc
 have HN:=Lib.hid hnc
 have LK:=Lib.hid hk
 have LN:=Lib.hid hn
 clear hkc hnc hk hn
 go_enter Tryd.func100,Tryd.ntmps100
 go_upto_region 2 with (fail)
 obtain ⟨w0,hw0⟩:∃ w0,w0=(((w.alloc (Obj.cells kc.toArray 26)).alloc (Obj.cells nc.toArray 106)).alloc (Obj.cells (fillN 16 []).toArray 148)).alloc (Obj.cells (fillN 16 Cha.consts).toArray 148):=⟨_,rfl⟩
 have B0:Hid (Blk w0 w.heap.size 26 kc):=by unfold Hid; rw [hw0]; exact (((Blk.new w 26 kc).alloc _).alloc _).alloc _
 have B1:Hid (Blk w0 (w.heap.size + 1) 106 nc):=by unfold Hid; rw [hw0]; exact ((Blk.at_new _ _ 106 _ _ rfl (by simp)).alloc _).alloc _
 have B2:Hid (Blk w0 (w.heap.size + 1 + 1) 148 (fillN 16 [])):=by unfold Hid; rw [hw0]; exact (Blk.at_new _ _ 148 _ _ rfl (by simp)).alloc _
 have B3:Hid (Blk w0 (w.heap.size + 1 + 1 + 1) 148 (fillN 16 Cha.consts)):=by unfold Hid; rw [hw0]; exact Blk.at_new _ _ 148 _ _ rfl (by simp)
 have W0:Hid (Below w.heap.size w w0):=by unfold Hid; rw [hw0]; exact ((((Below.refl _ _).alloc (Nat.le_refl _) _).alloc (by simp) _).alloc (by simp <;> omega) _).alloc (by simp <;> omega) _
 change Code.wp _ _ _ _ ((((w.alloc (Obj.cells kc.toArray 26)).alloc (Obj.cells nc.toArray 106)).alloc (Obj.cells (fillN 16 []).toArray 148)).alloc (Obj.cells (fillN 16 Cha.consts).toArray 148))
 rw [<- hw0]
 clear hw0
 go_wp2_with fail
 go_loopw [11] (fun i wr=>∃ (k:Nat) (l:List Int),k<=8/\i = .int .i64 k/\Hid (l.length=4 + k)/\Hid (l=Cha.consts ++ (List.range k).map (Cha.word key))/\Hid (Blk wr w.heap.size 26 kc)/\Hid (Blk wr (w.heap.size + 1) 106 nc)/\Hid (Blk wr (w.heap.size + 1 + 1) 148 (fillN 16 []))/\Hid (Blk wr (w.heap.size + 1 + 1 + 1) 148 (fillN 16 l))/\Hid (Below w.heap.size w wr)) (fun i _=>8 - (intOf i).toNat)
 case atStart=>exact ⟨0,Cha.consts,by omega,rfl,rfl,rfl,B0,B1,B2,B3,W0⟩
 case round =>
  clear B0 B1 B2 B3 W0
  obtain ⟨k,l,hk,rfl,LL,HE,B0,B1,B2,B3,BW⟩:=hrel
  by_cases hlt:k < 8
  ·have hlb:decide ((k:Int) < 8)=true:=by simp; omega
   have hsl:∀ W,(Instr.sliceAt 26 (.pointer (some ⟨w.heap.size,0,none⟩)) (some (.int .i64 (4 * (k:Int)))) none none).run Tryd.prog W = .ok (.slice (some ⟨w.heap.size,4 * k,none⟩) (32 - 4 * k) (32 - 4 * k)) W:=fun W=>by
    have:=sliceAt_l 26 32 Tryd.underlying26 w.heap.size 0 (4 * k) (by omega) W
    rw [show ((4 * k:Nat):Int)=4 * (k:Int) by omega,Nat.zero_add] at this
    exact this
   have HR:Hid (Rd wr (some ⟨w.heap.size,4 * k,none⟩) (32 - 4 * k) (32 - 4 * k) (key.drop (4 * k))):=block_drop B0.out HK.out LK.out (by omega) (by omega)
   obtain ⟨x,hx⟩:∃ x,x=Cha.word key k:=⟨_,rfl⟩
   have HX:=Lib.hid hx
   have hcall:=Lib.hid (cword_any HR.out (by omega))
   rw [word_drop,<- hx] at hcall
   clear hx
   go_wp2_with fail
   refine hcall.out.mono ?_
   rintro e w2 ⟨rfl,hX,hH⟩
   have C0:=Lib.hid (B0.out.same hH)
   have C1:=Lib.hid (B1.out.same hH)
   have C2:=Lib.hid (B2.out.same hH)
   have C3:=Lib.hid (B3.out.same hH)
   have CW:=Lib.hid (BW.out.trans (hX.mono BW.out.size))
   have c0:w2.cell? ⟨w.heap.size + 1 + 1 + 1,4 + k,none⟩=some (.int .u32 0):=by rw [C3.out.cell]; exact fillN_at 16 (4 + k) l LL.out (by omega)
   have f0:w2.frozen? ⟨w.heap.size + 1 + 1 + 1,4 + k,none⟩=false:=C3.out.frozen _
   have bk:(4:Int) + (k:Int) < 16:=by omega
   clear hX hH hcall hsl HR B0 B1 B2 B3 BW
   go_wp2_with fail
   go_roundw
   case rel =>
    refine ⟨k + 1,l ++ [x],by omega,by go_num,?_,?_,C0.out.far (by simp <;> omega) _,C1.out.far (by simp <;> omega) _,C2.out.far (by simp) _,?_,CW.out.setCell (by simp <;> omega) _⟩
    ·unfold Hid; rw [List.length_append,LL.out]; simp <;> omega
    ·unfold Hid; rw [List.range_succ,List.map_append,<- List.append_assoc,<- HE.out,HX.out]; rfl
    ·unfold Hid
     have:=C3.out.set_ (4 + k) (wd x)
     rw [fillN_set 16 (4 + k) l x LL.out (by omega)] at this
     exact this
   case measure=>simp [intOf]; omega
  ·obtain rfl:k=8:=by omega
   rw [show ((8:Nat):Int)=8 from rfl]
   have c0:wr.cell? ⟨w.heap.size + 1 + 1 + 1,12,none⟩=some (.int .u32 0):=by rw [B3.out.cell]; exact fillN_at 16 12 l LL.out (by omega)
   have f0:wr.frozen? ⟨w.heap.size + 1 + 1 + 1,12,none⟩=false:=B3.out.frozen _
   go_upto_region 8 with (fail)
   have C0:=Lib.hid (B0.out.far (p:=⟨w.heap.size + 1 + 1 + 1,12,none⟩) (by simp <;> omega) (wd ctr))
   have C1:=Lib.hid (B1.out.far (p:=⟨w.heap.size + 1 + 1 + 1,12,none⟩) (by simp <;> omega) (wd ctr))
   have C2:=Lib.hid (B2.out.far (p:=⟨w.heap.size + 1 + 1 + 1,12,none⟩) (by simp) (wd ctr))
   have C3:Hid (Blk (wr.setCell ⟨w.heap.size + 1 + 1 + 1,12,none⟩ (wd ctr)) (w.heap.size + 1 + 1 + 1) 148 (fillN 16 (l ++ [ctr]))):=by
    have:=B3.out.set_ 12 (wd ctr)
    rw [fillN_set 16 12 l ctr LL.out (by omega)] at this
    exact this
   have CW:=Lib.hid (BW.out.setCell (p:=⟨w.heap.size + 1 + 1 + 1,12,none⟩) (by simp <;> omega) (wd ctr))
   change Code.wp _ _ _ _ (wr.setCell ⟨w.heap.size + 1 + 1 + 1,12,none⟩ (wd ctr))
   generalize wr.setCell ⟨w.heap.size + 1 + 1 + 1,12,none⟩ (wd ctr)=w3 at *
   obtain ⟨l0,hl0⟩:∃ l0,l0=l ++ [ctr]:=⟨_,rfl⟩
   rw [<- hl0] at C3
   have L0:Hid (l0.length=13):=by unfold Hid; rw [hl0,List.length_append,LL.out]; rfl
   have E0:Hid (l0=Cha.consts ++ (List.range 8).map (Cha.word key) ++ [ctr]):=by unfold Hid; rw [hl0,HE.out]
   clear hl0 c0 f0 B0 B1 B2 B3 BW LL HE
   go_wp2_with fail
   go_loopw [24] (fun i wr=>∃ (k:Nat) (l:List Int),k<=3/\i = .int .i64 k/\Hid (l.length=13 + k)/\Hid (l=l0 ++ (List.range k).map (Cha.word nonce))/\Hid (Blk wr w.heap.size 26 kc)/\Hid (Blk wr (w.heap.size + 1) 106 nc)/\Hid (Blk wr (w.heap.size + 1 + 1) 148 (fillN 16 []))/\Hid (Blk wr (w.heap.size + 1 + 1 + 1) 148 (fillN 16 l))/\Hid (Below w.heap.size w wr)) (fun i _=>3 - (intOf i).toNat)
   case atStart=>exact ⟨0,l0,by omega,rfl,L0.out,by unfold Hid; simp,C0,C1,C2,C3,CW⟩
   case round =>
    clear C0 C1 C2 C3 CW
    obtain ⟨k,l,hk,rfl,LL,HE,B0,B1,B2,B3,BW⟩:=hrel
    by_cases hlt:k < 3
    ·have hlb:decide ((k:Int) < 3)=true:=by simp; omega
     have hsl:∀ W,(Instr.sliceAt 106 (.pointer (some ⟨w.heap.size + 1,0,none⟩)) (some (.int .i64 (4 * (k:Int)))) none none).run Tryd.prog W = .ok (.slice (some ⟨w.heap.size + 1,4 * k,none⟩) (12 - 4 * k) (12 - 4 * k)) W:=fun W=>by
      have:=sliceAt_l 106 12 Tryd.underlying106 (w.heap.size + 1) 0 (4 * k) (by omega) W
      rw [show ((4 * k:Nat):Int)=4 * (k:Int) by omega,Nat.zero_add] at this
      exact this
     have HR:Hid (Rd wr (some ⟨w.heap.size + 1,4 * k,none⟩) (12 - 4 * k) (12 - 4 * k) (nonce.drop (4 * k))):=block_drop B1.out HN.out LN.out (by omega) (by omega)
     obtain ⟨x,hx⟩:∃ x,x=Cha.word nonce k:=⟨_,rfl⟩
     have HX:=Lib.hid hx
     have hcall:=Lib.hid (cword_any HR.out (by omega))
     rw [word_drop,<- hx] at hcall
     clear hx
     go_wp2_with fail
     refine hcall.out.mono ?_
     rintro e w2 ⟨rfl,hX,hH⟩
     have C0:=Lib.hid (B0.out.same hH)
     have C1:=Lib.hid (B1.out.same hH)
     have C2:=Lib.hid (B2.out.same hH)
     have C3:=Lib.hid (B3.out.same hH)
     have CW:=Lib.hid (BW.out.trans (hX.mono BW.out.size))
     have c0:w2.cell? ⟨w.heap.size + 1 + 1 + 1,13 + k,none⟩=some (.int .u32 0):=by rw [C3.out.cell]; exact fillN_at 16 (13 + k) l LL.out (by omega)
     have f0:w2.frozen? ⟨w.heap.size + 1 + 1 + 1,13 + k,none⟩=false:=C3.out.frozen _
     have bk:(13:Int) + (k:Int) < 16:=by omega
     clear hX hH hcall hsl HR B0 B1 B2 B3 BW
     go_wp2_with fail
     go_roundw
     case rel =>
      refine ⟨k + 1,l ++ [x],by omega,by go_num,?_,?_,C0.out.far (by simp <;> omega) _,C1.out.far (by simp <;> omega) _,C2.out.far (by simp) _,?_,CW.out.setCell (by simp <;> omega) _⟩
      ·unfold Hid; rw [List.length_append,LL.out]; simp <;> omega
      ·unfold Hid; rw [List.range_succ,List.map_append,<- List.append_assoc,<- HE.out,HX.out]; rfl
      ·unfold Hid
       have:=C3.out.set_ (13 + k) (wd x)
       rw [fillN_set 16 (13 + k) l x LL.out (by omega)] at this
       exact this
     case measure=>simp [intOf]; omega
    ·obtain rfl:k=3:=by omega
     have hF:l=Cha.first key ctr nonce:=by rw [HE.out,E0.out]; rfl
     rw [hF] at B3
     rw [fillN_full 16 _ (Cha.first_length key ctr nonce)] at B3
     obtain ⟨D,hD⟩:∃ D,D=(Cha.first key ctr nonce).map wd:=⟨_,rfl⟩
     rw [<- hD] at B3
     have hDl:D.length=16:=by rw [hD,List.length_map,Cha.first_length]
     have HD:=Lib.hid hD
     have HI:Hid ((Tryd.prog.info? 148).map (·.size)=some D.length):=by unfold Hid; rw [hDl]; kernel_rfl
     have HLN:Hid ((fillN 16 []).length=D.length):=by unfold Hid; rw [hDl]; rfl
     have H1:Hid (∀ v ∈ D,v.oneCell'=true):=by unfold Hid; rw [hD]; exact cells_wd _
     clear hF hD hDl HE LL B0 B1
     go_wp2_with (first
      | ((with_reducible refine load_law rfl 148 (.tmp 7) rfl (w.heap.size + 1 + 1 + 1) 0 rfl D _ Tryd.underlying148 rfl HI.out B3.out.cells ?_))
      | ((with_reducible refine storeGen_law rfl 148 (.tmp 6) (.tmp 35) rfl (w.heap.size + 1 + 1) rfl D rfl 148 (fillN 16 []) HI.out HLN.out H1.out w.heap.size w B2.out BW.out (by omega) ?_); intro w6 B6 W6))
     exact bodyPost_ret (results_cell_row rfl _ _ (w.heap.size + 1 + 1) 148 D.toArray (0,0) _ rfl B6.out Tryd.underlying148 rfl (by rw [HI.out]; simp)) rfl ⟨by rw [HD.out],W6.out⟩
end Go.Proofs.YtajgjeialbgijaaDoor
namespace Go.Proofs.YtajgjeialbgijaaDoor
set_option linter.unusedVariables false
set_option linter.unusedSimpArgs false
set_option maxRecDepth 100000
open Go.RowKit
theorem cell_of {w:World} {g j:Nat} {t:TypeId} {m:List Int} (hB:Blk w g t (m.map wd)) (hm:m.length=16) (hj:j < 16):w.cell? ⟨g,j,none⟩=some (.int .u32 (m.getD j 0)):=by
 rw [hB.cell]
 simp [wd,List.getD_eq_getElem?_getD,List.getElem?_eq_getElem (show j < m.length by omega)]
set_option maxRecDepth 100000 in
set_option maxHeartbeats 2000000 in
theorem cround_any (l:List Int) (e:Nat) (w:World) (hl:l.length=16) (he:e<=1) :
  Calls Tryd.prog 101 #[.agg (l.map wd).toArray,.int .i64 (e:Int)] w fun r w'=>r = .returned (.agg ((Cha.rnd e l).map wd).toArray)/\Below w.heap.size w w':=by
 obtain ⟨cs,hcs⟩:∃ c,c=l.map wd:=⟨_,rfl⟩
 rw [<- hcs]
 have HC:=Lib.hid hcs
 have HL:=Lib.hid hl
 clear hcs hl
 go_enter Tryd.func101,Tryd.ntmps101
 go_upto_region 1 with (fail)
 obtain ⟨w0,hw0⟩:∃ w0,w0=(w.alloc (Obj.cells cs.toArray 148)).alloc (Obj.cells (fillN 16 []).toArray 148):=⟨_,rfl⟩
 have B0:Hid (Blk w0 w.heap.size 148 ((Cha.qs e 0 l).map wd)):=by unfold Hid; rw [hw0,HC.out]; exact (Blk.new w 148 _).alloc _
 have B1:Hid (Blk w0 (w.heap.size + 1) 148 (fillN 16 [])):=by unfold Hid; rw [hw0]; exact Blk.at_new _ _ 148 _ _ rfl (by simp)
 have W0:Hid (Below w.heap.size w w0):=by unfold Hid; rw [hw0]; exact ((Below.refl _ _).alloc (Nat.le_refl _) _).alloc (by simp) _
 change Code.wp _ _ _ _ ((w.alloc (Obj.cells cs.toArray 148)).alloc (Obj.cells (fillN 16 []).toArray 148))
 rw [<- hw0]
 clear hw0
 go_wp2_with fail
 go_loopw [10] (fun i wr=>∃ k:Nat,k<=4/\i = .int .i64 k/\Hid (Blk wr w.heap.size 148 ((Cha.qs e k l).map wd))/\Hid (Blk wr (w.heap.size + 1) 148 (fillN 16 []))/\Hid (Below w.heap.size w wr)) (fun i _=>4 - (intOf i).toNat)
 case atStart=>exact ⟨0,by omega,rfl,B0,B1,W0⟩
 case round =>
  clear B0 B1 W0
  obtain ⟨k,hk,rfl,B0,B1,BW⟩:=hrel
  by_cases hlt:k < 4
  ·have hlb:decide ((k:Int) < 4)=true:=by simp; omega
   obtain ⟨jb,hjb⟩:∃ j,j=Cha.pb k e:=⟨_,rfl⟩
   obtain ⟨jc,hjc⟩:∃ j,j=Cha.pc k e:=⟨_,rfl⟩
   obtain ⟨jd,hjd⟩:∃ j,j=Cha.pd k e:=⟨_,rfl⟩
   have eb:(4:Int) + ((k:Int) + (e:Int)) % 4=(jb:Int):=by rw [hjb]; unfold Cha.pb; omega
   have ec:(8:Int) + ((k:Int) + 2 * (e:Int)) % 4=(jc:Int):=by rw [hjc]; unfold Cha.pc; omega
   have ed:(12:Int) + ((k:Int) + 3 * (e:Int)) % 4=(jd:Int):=by rw [hjd]; unfold Cha.pd; omega
   have HJB:=Lib.hid hjb
   have HJC:=Lib.hid hjc
   have HJD:=Lib.hid hjd
   have pl:=Cha.places k e hlt
   rw [<- hjb,<- hjc,<- hjd] at pl
   have d1:k ≠ jb:=by rw [hjb]; unfold Cha.pb; omega
   have d2:k ≠ jc:=by rw [hjc]; unfold Cha.pc; omega
   have d3:k ≠ jd:=by rw [hjd]; unfold Cha.pd; omega
   have d4:jb ≠ jc:=by rw [hjb,hjc]; unfold Cha.pb Cha.pc; omega
   have d5:jb ≠ jd:=by rw [hjb,hjd]; unfold Cha.pb Cha.pd; omega
   have d6:jc ≠ jd:=by rw [hjc,hjd]; unfold Cha.pc Cha.pd; omega
   obtain ⟨p0,p1,p2,p3⟩:=pl
   clear hjb hjc hjd
   go_upto_region 5 with (fail)
   clear eb ec ed
   obtain ⟨m,hm⟩:∃ m,m=Cha.qs e k l:=⟨_,rfl⟩
   rw [<- hm] at B0
   have LM:Hid (m.length=16):=by unfold Hid; rw [hm,Cha.qs_length,HL.out]
   have HM:=Lib.hid hm
   clear hm
   have cell:∀ j,j < 16->wr.drew.cell? ⟨w.heap.size,j,none⟩=some (.int .u32 (m.getD j 0)):=fun j hj=>by
    rw [B0.out.drew.cell]
    simp [wd,List.getD_eq_getElem?_getD,List.getElem?_eq_getElem (show j < m.length by rw [LM.out]; exact hj)]
   have ca:=cell k p0
   have cb:=cell jb p1
   have cc:=cell jc p2
   have cd:=cell jd p3
   clear cell
   obtain ⟨xa,hxa⟩:∃ x,x=m.getD k 0:=⟨_,rfl⟩
   obtain ⟨xb,hxb⟩:∃ x,x=m.getD jb 0:=⟨_,rfl⟩
   obtain ⟨xc,hxc⟩:∃ x,x=m.getD jc 0:=⟨_,rfl⟩
   obtain ⟨xd,hxd⟩:∃ x,x=m.getD jd 0:=⟨_,rfl⟩
   rw [<- hxa] at ca
   rw [<- hxb] at cb
   rw [<- hxc] at cc
   rw [<- hxd] at cd
   have HQ:Hid (Cha.qs e (k + 1) l=Cha.put4 m k e (Cha.qr xa xb xc xd)):=by unfold Hid; rw [hxa,hxb,hxc,hxd,Cha.qs,<- HM.out,Cha.q4,HJB.out,HJC.out,HJD.out]
   clear hxa hxb hxc hxd
   have D0:Hid (Blk wr.drew w.heap.size 148 (m.map wd)):=B0.out.drew
   have D1:Hid (Blk wr.drew (w.heap.size + 1) 148 (fillN 16 [])):=B1.out.drew
   have DW:Hid (Below w.heap.size w wr.drew):=BW.out.drew
   have ba:(k:Int) < 16:=by omega
   have bb:(jb:Int) < 16:=by omega
   have bc:(jc:Int) < 16:=by omega
   have bd:(jd:Int) < 16:=by omega
   clear B0 B1 BW
   refine wp_region_any (by kernel_rfl) ?_
   change wpAny _ _ _ _ _ _ _ (World.drew _)
   obtain ⟨m3,hm3⟩:∃ m3,m3=m:=⟨_,rfl⟩
   have B3:Hid (Blk wr.drew w.heap.size 148 (m3.map wd)):=by rw [hm3]; exact D0
   have Z3:=D1
   have W3:=DW
   have L3:Hid (m3.length=16):=by rw [hm3]; exact LM
   have H3:=Lib.hid hm3
   clear hm3 D0 D1 DW
   generalize wr.drew=w3 at *
   refine wpAny_take (i:=0) (oi:=?oi1) (v:=.int .i64 (k:Int)) ?hi1 (by kernel_rfl) (by kernel_rfl) (by kernel_rfl) ?hQ1 ?hy1 ?rest1
   case hi1=>simp only [zge]; rfl
   case hQ1=>exact fun _ _ _ h=>h
   case hy1=>exact Or.inl ⟨by rfl,by intro w; go_simp⟩
   try simp only [zpt]
   refine wpAny_take (i:=1) (oi:=?oi2) (v:=.int .i64 (jb:Int)) ?hi2 (by kernel_rfl) (by kernel_rfl) (by kernel_rfl) ?hQ2 ?hy2 ?rest2
   case hi2=>simp only [zge]; rfl
   case hQ2=>exact fun _ _ _ h=>h
   case hy2=>exact Or.inl ⟨by rfl,by intro w; go_simp⟩
   try simp only [zpt]
   refine wpAny_take (i:=2) (oi:=?oi3) (v:=.int .i64 (jc:Int)) ?hi3 (by kernel_rfl) (by kernel_rfl) (by kernel_rfl) ?hQ3 ?hy3 ?rest3
   case hi3=>simp only [zge]; rfl
   case hQ3=>exact fun _ _ _ h=>h
   case hy3=>exact Or.inl ⟨by rfl,by intro w; go_simp⟩
   try simp only [zpt]
   refine wpAny_take (i:=3) (oi:=?oi4) (v:=.int .i64 (jd:Int)) ?hi4 (by kernel_rfl) (by kernel_rfl) (by kernel_rfl) ?hQ4 ?hy4 ?rest4
   case hi4=>simp only [zge]; rfl
   case hQ4=>exact fun _ _ _ h=>h
   case hy4=>exact Or.inl ⟨by rfl,by intro w; go_simp⟩
   try simp only [zpt]
   refine wpAny_take (i:=4) (oi:=?oi5) (v:=.int .i64 (k:Int)) ?hi5 (by kernel_rfl) (by kernel_rfl) (by kernel_rfl) ?hQ5 ?hy5 ?rest5
   case hi5=>simp only [zge]; rfl
   case hQ5=>exact fun _ _ _ h=>h
   case hy5=>exact Or.inl ⟨by rfl,by intro w; go_simp⟩
   try simp only [zpt]
   refine wpAny_take (i:=5) (oi:=?oi6) (v:=.pointer (some ⟨w.heap.size,k,none⟩)) ?hi6 (by kernel_rfl) (by kernel_rfl) (by kernel_rfl) ?hQ6 ?hy6 ?rest6
   case hi6=>simp only [zge]; rfl
   case hQ6=>exact fun _ _ _ h=>h
   case hy6=>exact Or.inl ⟨by rfl,by intro w; go_simp⟩
   try simp only [zpt]
   refine wpAny_take (i:=7) (oi:=?oi7) (v:=.int .i64 (jb:Int)) ?hi7 (by kernel_rfl) (by kernel_rfl) (by kernel_rfl) ?hQ7 ?hy7 ?rest7
   case hi7=>simp only [zge]; rfl
   case hQ7=>exact fun _ _ _ h=>h
   case hy7=>exact Or.inl ⟨by rfl,by intro w; go_simp⟩
   try simp only [zpt]
   refine wpAny_take (i:=8) (oi:=?oi8) (v:=.pointer (some ⟨w.heap.size,jb,none⟩)) ?hi8 (by kernel_rfl) (by kernel_rfl) (by kernel_rfl) ?hQ8 ?hy8 ?rest8
   case hi8=>simp only [zge]; rfl
   case hQ8=>exact fun _ _ _ h=>h
   case hy8=>exact Or.inl ⟨by rfl,by intro w; go_simp⟩
   try simp only [zpt]
   refine wpAny_take (i:=10) (oi:=?oi9) (v:=.int .i64 (jc:Int)) ?hi9 (by kernel_rfl) (by kernel_rfl) (by kernel_rfl) ?hQ9 ?hy9 ?rest9
   case hi9=>simp only [zge]; rfl
   case hQ9=>exact fun _ _ _ h=>h
   case hy9=>exact Or.inl ⟨by rfl,by intro w; go_simp⟩
   try simp only [zpt]
   refine wpAny_take (i:=11) (oi:=?oi10) (v:=.pointer (some ⟨w.heap.size,jc,none⟩)) ?hi10 (by kernel_rfl) (by kernel_rfl) (by kernel_rfl) ?hQ10 ?hy10 ?rest10
   case hi10=>simp only [zge]; rfl
   case hQ10=>exact fun _ _ _ h=>h
   case hy10=>exact Or.inl ⟨by rfl,by intro w; go_simp⟩
   try simp only [zpt]
   refine wpAny_take (i:=13) (oi:=?oi11) (v:=.int .i64 (jd:Int)) ?hi11 (by kernel_rfl) (by kernel_rfl) (by kernel_rfl) ?hQ11 ?hy11 ?rest11
   case hi11=>simp only [zge]; rfl
   case hQ11=>exact fun _ _ _ h=>h
   case hy11=>exact Or.inl ⟨by rfl,by intro w; go_simp⟩
   try simp only [zpt]
   refine wpAny_take (i:=14) (oi:=?oi12) (v:=.pointer (some ⟨w.heap.size,jd,none⟩)) ?hi12 (by kernel_rfl) (by kernel_rfl) (by kernel_rfl) ?hQ12 ?hy12 ?rest12
   case hi12=>simp only [zge]; rfl
   case hQ12=>exact fun _ _ _ h=>h
   case hy12=>exact Or.inl ⟨by rfl,by intro w; go_simp⟩
   try simp only [zpt]
   refine reads4 (i1:=6) (i2:=9) (i3:=12) (i4:=15) (o1:=?p13) (o2:=?q13) (o3:=?r13) (o4:=?s13) (v1:=.int .u32 xa) (v2:=.int .u32 xb) (v3:=.int .u32 xc) (v4:=.int .u32 xd) ?a13 ?b13 ?c13 ?d13 (by kernel_rfl) (by kernel_rfl) (by kernel_rfl) (by decide) ?e13 ?f13 ?g13 ?h13 ?rest13
   case a13=>simp only [zge]; rfl
   case b13=>simp only [zge]; rfl
   case c13=>simp only [zge]; rfl
   case d13=>simp only [zge]; rfl
   case e13=>exact ⟨by rfl,by go_simp⟩
   case f13=>exact ⟨by rfl,by go_simp⟩
   case g13=>exact ⟨by rfl,by go_simp⟩
   case h13=>exact ⟨by rfl,by go_simp⟩
   try simp only [zpt]
   clear ca cb cc cd
   refine wpAny_ready (rs:=[16]) (by kernel_rfl) (by simp) ?_
   refine AllReady.cons (o:=?o14) ?ho14 (fun K hK=>?_) AllReady.nil
   case ho14=>simp only [zge]; rfl
   go_simp
   refine (quarter_any xa xb xc xd w3).mono ?_
   rintro r w' ⟨rfl,rfl⟩
   obtain ⟨w3,rfl⟩:∃ w3,w3=w':=⟨_,rfl⟩
   refine hK _ _ ?_
   clear hK K
   obtain ⟨⟨qa,qb,qc,qd⟩,hq⟩:∃ q,q=Cha.qr xa xb xc xd:=⟨_,rfl⟩
   rw [<- hq] at HQ
   rw [<- hq]
   clear hq
   change wpAny _ _ _ _ _ _ _ _
   unfold four
   dsimp only
   try simp only [zpt]
   refine wpAny_take (i:=17) (oi:=?oi15) (v:=.tuple #[.int .u32 qa,.int .u32 qb,.int .u32 qc,.int .u32 qd]) ?hi15 (by kernel_rfl) (by kernel_rfl) (by kernel_rfl) ?hQ15 ?hy15 ?rest15
   case hi15=>simp only [zge]; rfl
   case hQ15=>exact fun _ _ _ h=>h
   case hy15=>exact Or.inl ⟨by rfl,by intro w; go_simp⟩
   try simp only [zpt]
   refine wpAny_take (i:=18) (oi:=?oi16) (v:=.int .u32 qa) ?hi16 (by kernel_rfl) (by kernel_rfl) (by kernel_rfl) ?hQ16 ?hy16 ?rest16
   case hi16=>simp only [zge]; rfl
   case hQ16=>exact fun _ _ _ h=>h
   case hy16=>exact Or.inl ⟨by rfl,by intro w; go_simp⟩
   try simp only [zpt]
   refine wpAny_take (i:=19) (oi:=?oi17) (v:=.int .u32 qb) ?hi17 (by kernel_rfl) (by kernel_rfl) (by kernel_rfl) ?hQ17 ?hy17 ?rest17
   case hi17=>simp only [zge]; rfl
   case hQ17=>exact fun _ _ _ h=>h
   case hy17=>exact Or.inl ⟨by rfl,by intro w; go_simp⟩
   try simp only [zpt]
   refine wpAny_take (i:=20) (oi:=?oi18) (v:=.int .u32 qc) ?hi18 (by kernel_rfl) (by kernel_rfl) (by kernel_rfl) ?hQ18 ?hy18 ?rest18
   case hi18=>simp only [zge]; rfl
   case hQ18=>exact fun _ _ _ h=>h
   case hy18=>exact Or.inl ⟨by rfl,by intro w; go_simp⟩
   try simp only [zpt]
   refine wpAny_take (i:=21) (oi:=?oi19) (v:=.int .u32 qd) ?hi19 (by kernel_rfl) (by kernel_rfl) (by kernel_rfl) ?hQ19 ?hy19 ?rest19
   case hi19=>simp only [zge]; rfl
   case hQ19=>exact fun _ _ _ h=>h
   case hy19=>exact Or.inl ⟨by rfl,by intro w; go_simp⟩
   try simp only [zpt]
   refine wpAny_take (i:=22) (oi:=?oi20) (v:=.pointer (some ⟨w.heap.size,k,none⟩)) ?hi20 (by kernel_rfl) (by kernel_rfl) (by kernel_rfl) ?hQ20 ?hy20 ?rest20
   case hi20=>simp only [zge]; rfl
   case hQ20=>exact fun _ _ _ h=>h
   case hy20=>exact Or.inl ⟨by rfl,by intro w; go_simp⟩
   try simp only [zpt]
   refine wpAny_ready (rs:=[23]) (by kernel_rfl) (by simp) ?_
   refine AllReady.cons (o:=?o21) ?ho21 (fun K hK=>?_) AllReady.nil
   case ho21=>simp only [zge]; rfl
   have c0:w3.cell? ⟨w.heap.size,k,none⟩=some (.int .u32 (m3.getD k 0)):=cell_of B3.out L3.out (by omega)
   have f0:w3.frozen? ⟨w.heap.size,k,none⟩=false:=B3.out.frozen _
   go_simp
   refine hK _ _ ?_
   clear hK K c0 f0
   obtain ⟨m4,hm4⟩:∃ m,m=m3.set k qa:=⟨_,rfl⟩
   have B4:Hid (Blk (w3.setCell ⟨w.heap.size,k,none⟩ (.int .u32 qa)) w.heap.size 148 (m4.map wd)):=by
    have:=B3.out.set_ k (wd qa)
    rw [<- List.map_set,<- hm4] at this
    exact this
   have L4:Hid (m4.length=16):=by unfold Hid; rw [hm4,List.length_set,L3.out]
   have Z4:=Lib.hid (Z3.out.far (p:=⟨w.heap.size,k,none⟩) (by simp) (.int .u32 qa))
   have W4:=Lib.hid (W3.out.setCell (p:=⟨w.heap.size,k,none⟩) (Nat.le_refl _) (.int .u32 qa))
   have H4:=Lib.hid hm4
   generalize w3.setCell ⟨w.heap.size,k,none⟩ (.int .u32 qa)=w4 at *
   clear hm4 B3 Z3 W3
   try simp only [zpt]
   refine wpAny_take (i:=24) (oi:=?oi22) (v:=.pointer (some ⟨w.heap.size,jb,none⟩)) ?hi22 (by kernel_rfl) (by kernel_rfl) (by kernel_rfl) ?hQ22 ?hy22 ?rest22
   case hi22=>simp only [zge]; rfl
   case hQ22=>exact fun _ _ _ h=>h
   case hy22=>exact Or.inl ⟨by rfl,by intro w; go_simp⟩
   try simp only [zpt]
   refine wpAny_ready (rs:=[25]) (by kernel_rfl) (by simp) ?_
   refine AllReady.cons (o:=?o23) ?ho23 (fun K hK=>?_) AllReady.nil
   case ho23=>simp only [zge]; rfl
   have c0:w4.cell? ⟨w.heap.size,jb,none⟩=some (.int .u32 (m4.getD jb 0)):=cell_of B4.out L4.out (by omega)
   have f0:w4.frozen? ⟨w.heap.size,jb,none⟩=false:=B4.out.frozen _
   go_simp
   refine hK _ _ ?_
   clear hK K c0 f0
   obtain ⟨m5,hm5⟩:∃ m,m=m4.set jb qb:=⟨_,rfl⟩
   have B5:Hid (Blk (w4.setCell ⟨w.heap.size,jb,none⟩ (.int .u32 qb)) w.heap.size 148 (m5.map wd)):=by
    have:=B4.out.set_ jb (wd qb)
    rw [<- List.map_set,<- hm5] at this
    exact this
   have L5:Hid (m5.length=16):=by unfold Hid; rw [hm5,List.length_set,L4.out]
   have Z5:=Lib.hid (Z4.out.far (p:=⟨w.heap.size,jb,none⟩) (by simp) (.int .u32 qb))
   have W5:=Lib.hid (W4.out.setCell (p:=⟨w.heap.size,jb,none⟩) (Nat.le_refl _) (.int .u32 qb))
   have H5:=Lib.hid hm5
   generalize w4.setCell ⟨w.heap.size,jb,none⟩ (.int .u32 qb)=w5 at *
   clear hm5 B4 Z4 W4
   try simp only [zpt]
   refine wpAny_take (i:=26) (oi:=?oi24) (v:=.pointer (some ⟨w.heap.size,jc,none⟩)) ?hi24 (by kernel_rfl) (by kernel_rfl) (by kernel_rfl) ?hQ24 ?hy24 ?rest24
   case hi24=>simp only [zge]; rfl
   case hQ24=>exact fun _ _ _ h=>h
   case hy24=>exact Or.inl ⟨by rfl,by intro w; go_simp⟩
   try simp only [zpt]
   refine wpAny_ready (rs:=[27]) (by kernel_rfl) (by simp) ?_
   refine AllReady.cons (o:=?o25) ?ho25 (fun K hK=>?_) AllReady.nil
   case ho25=>simp only [zge]; rfl
   have c0:w5.cell? ⟨w.heap.size,jc,none⟩=some (.int .u32 (m5.getD jc 0)):=cell_of B5.out L5.out (by omega)
   have f0:w5.frozen? ⟨w.heap.size,jc,none⟩=false:=B5.out.frozen _
   go_simp
   refine hK _ _ ?_
   clear hK K c0 f0
   obtain ⟨m6,hm6⟩:∃ m,m=m5.set jc qc:=⟨_,rfl⟩
   have B6:Hid (Blk (w5.setCell ⟨w.heap.size,jc,none⟩ (.int .u32 qc)) w.heap.size 148 (m6.map wd)):=by
    have:=B5.out.set_ jc (wd qc)
    rw [<- List.map_set,<- hm6] at this
    exact this
   have L6:Hid (m6.length=16):=by unfold Hid; rw [hm6,List.length_set,L5.out]
   have Z6:=Lib.hid (Z5.out.far (p:=⟨w.heap.size,jc,none⟩) (by simp) (.int .u32 qc))
   have W6:=Lib.hid (W5.out.setCell (p:=⟨w.heap.size,jc,none⟩) (Nat.le_refl _) (.int .u32 qc))
   have H6:=Lib.hid hm6
   generalize w5.setCell ⟨w.heap.size,jc,none⟩ (.int .u32 qc)=w6 at *
   clear hm6 B5 Z5 W5
   try simp only [zpt]
   refine wpAny_take (i:=28) (oi:=?oi26) (v:=.pointer (some ⟨w.heap.size,jd,none⟩)) ?hi26 (by kernel_rfl) (by kernel_rfl) (by kernel_rfl) ?hQ26 ?hy26 ?rest26
   case hi26=>simp only [zge]; rfl
   case hQ26=>exact fun _ _ _ h=>h
   case hy26=>exact Or.inl ⟨by rfl,by intro w; go_simp⟩
   try simp only [zpt]
   refine wpAny_ready (rs:=[29]) (by kernel_rfl) (by simp) ?_
   refine AllReady.cons (o:=?o27) ?ho27 (fun K hK=>?_) AllReady.nil
   case ho27=>simp only [zge]; rfl
   have c0:w6.cell? ⟨w.heap.size,jd,none⟩=some (.int .u32 (m6.getD jd 0)):=cell_of B6.out L6.out (by omega)
   have f0:w6.frozen? ⟨w.heap.size,jd,none⟩=false:=B6.out.frozen _
   go_simp
   refine hK _ _ ?_
   clear hK K c0 f0
   obtain ⟨m7,hm7⟩:∃ m,m=m6.set jd qd:=⟨_,rfl⟩
   have B7:Hid (Blk (w6.setCell ⟨w.heap.size,jd,none⟩ (.int .u32 qd)) w.heap.size 148 (m7.map wd)):=by
    have:=B6.out.set_ jd (wd qd)
    rw [<- List.map_set,<- hm7] at this
    exact this
   have L7:Hid (m7.length=16):=by unfold Hid; rw [hm7,List.length_set,L6.out]
   have Z7:=Lib.hid (Z6.out.far (p:=⟨w.heap.size,jd,none⟩) (by simp) (.int .u32 qd))
   have W7:=Lib.hid (W6.out.setCell (p:=⟨w.heap.size,jd,none⟩) (Nat.le_refl _) (.int .u32 qd))
   have H7:=Lib.hid hm7
   generalize w6.setCell ⟨w.heap.size,jd,none⟩ (.int .u32 qd)=w7 at *
   clear hm7 B6 Z6 W6
   try simp only [zpt]
   refine wpAny_done (by kernel_rfl) ?_ _
   have HF:Hid (m7=Cha.qs e (k + 1) l):=by
    unfold Hid
    rw [HQ.out,H7.out,H6.out,H5.out,H4.out,H3.out]
    unfold Cha.put4
    rw [<- HJB.out,<- HJC.out,<- HJD.out]
   clear HQ H3 H4 H5 H6 H7 L3 L4 L5 L6
   rw [HF.out] at B7
   go_wp2_with fail
   go_roundw
   case rel=>exact ⟨k + 1,by omega,by go_num,B7,Z7,W7⟩
   case measure=>simp [intOf]; omega
  ·obtain rfl:k=4:=by omega
   obtain ⟨D,hD⟩:∃ D,D=(Cha.rnd e l).map wd:=⟨_,rfl⟩
   have hB:Blk wr w.heap.size 148 D:=by rw [hD]; exact B0.out
   have hDl:D.length=16:=by rw [hD,List.length_map,Cha.rnd_length,HL.out]
   have HD:=Lib.hid hD
   have HB:=Lib.hid hB
   have HI:Hid ((Tryd.prog.info? 148).map (·.size)=some D.length):=by unfold Hid; rw [hDl]; kernel_rfl
   have HLN:Hid ((fillN 16 []).length=D.length):=by unfold Hid; rw [hDl]; rfl
   have H1:Hid (∀ v ∈ D,v.oneCell'=true):=by unfold Hid; rw [hD]; exact cells_wd _
   clear hD hDl hB B0
   go_wp2_with (first
    | ((with_reducible refine load_law rfl 148 (.tmp 2) rfl w.heap.size 0 rfl D _ Tryd.underlying148 rfl HI.out HB.out.cells ?_))
    | ((with_reducible refine storeGen_law rfl 148 (.tmp 4) (.tmp 58) rfl (w.heap.size + 1) rfl D rfl 148 (fillN 16 []) HI.out HLN.out H1.out w.heap.size w B1.out BW.out (by omega) ?_); intro w6 B6 W6))
   exact bodyPost_ret (results_cell_row rfl _ _ (w.heap.size + 1) 148 D.toArray (0,0) _ rfl B6.out Tryd.underlying148 rfl (by rw [HI.out]; simp)) rfl ⟨by rw [HD.out],W6.out⟩
end Go.Proofs.YtajgjeialbgijaaDoor
namespace Go.Proofs.YtajgjeialbgijaaDoor
set_option linter.unusedVariables false
set_option linter.unusedSimpArgs false
set_option maxRecDepth 100000
open Go.RowKit
def blkC (l:List Int):List Value:=(Cha.flatL l).map cellOf ++ List.replicate (64 - 4 * l.length) (.int .u8 0)
theorem blkC_at (l:List Int) (j:Nat) (h1:4 * l.length<=j) (h2:j < 64):(blkC l)[j]?=some (.int .u8 0):=by
 unfold blkC
 rw [List.getElem?_append_right (by simp [Cha.flatL_length]; omega)]
 exact List.getElem?_replicate_of_lt (by simp [Cha.flatL_length]; omega)
theorem byte8 (x:Int):cellOf (Sha.by8 x) = .int .u8 (x % 256):=by
 unfold cellOf Sha.by8
 congr 1
 simp
 omega
theorem blkC_set (l:List Int) (x:Int) (k:Nat) (hk:l.length=k) (h:k < 16) :
  ((((blkC l).set (4 * k) (cellOf (Sha.by8 x))).set (4 * k + 1) (cellOf (Sha.by8 (x / 256)))).set (4 * k + 2) (cellOf (Sha.by8 (x / 65536)))).set (4 * k + 3) (cellOf (Sha.by8 (x / 16777216)))=blkC (l ++ [x]):=by
 unfold blkC
 rw [Cha.flatL_snoc,hk,show 64 - 4 * k=(64 - 4 * (k + 1)) + 4 by omega,List.length_append,hk,List.length_singleton]
 have hl:((Cha.flatL l).map cellOf).length=4 * k:=by simp [Cha.flatL_length,hk]
 rw [List.set_append_right _ _ (by omega),List.set_append_right _ _ (by omega),List.set_append_right _ _ (by omega),List.set_append_right _ _ (by omega)]
 rw [hl,Nat.sub_self,show 4 * k + 1 - 4 * k=1 by omega,show 4 * k + 2 - 4 * k=2 by omega,show 4 * k + 3 - 4 * k=3 by omega]
 simp [List.replicate_succ,Cha.bytesL]
theorem blkC_full (l:List Int) (h:l.length=16):blkC l=(Cha.flatL l).map cellOf:=by unfold blkC; rw [h]; simp
theorem words_at (l:List Int) (j:Nat) (h:j < l.length):(l.map wd)[j]?=some (.int .u32 (l.getD j 0)):=by simp [wd,List.getD_eq_getElem?_getD,List.getElem?_eq_getElem h]
set_option maxRecDepth 100000 in
set_option maxHeartbeats 2000000 in
theorem cblock_any (key nonce:List UInt8) (ctr:Int) (w:World) (hk:key.length=32) (hn:nonce.length=12) :
  Calls Tryd.prog 88 #[.agg (key.map cellOf).toArray,.int .u32 ctr,.agg (nonce.map cellOf).toArray] w fun e w'=>e = .returned (.agg ((Cha.block key ctr nonce).map cellOf).toArray)/\Below w.heap.size w w':=by
 have HBG:=Lib.hid (fun W=>cbegin_any key nonce ctr W hk hn)
 obtain ⟨kc,hkc⟩:∃ c,c=key.map cellOf:=⟨_,rfl⟩
 obtain ⟨nc,hnc⟩:∃ c,c=nonce.map cellOf:=⟨_,rfl⟩
 rw [<- hkc,<- hnc] at HBG
 rw [<- hkc,<- hnc]
 have hkl:kc.length=32:=by rw [hkc,List.length_map,hk]
 have hnl:nc.length=12:=by rw [hnc,List.length_map,hn]
 have IK:Hid ((Tryd.prog.info? 26).map (·.size)=some kc.length):=by unfold Hid; rw [hkl]; kernel_rfl
 have IN:Hid ((Tryd.prog.info? 106).map (·.size)=some nc.length):=by unfold Hid; rw [hnl]; kernel_rfl
 clear hkc hnc hk hn hkl hnl
 go_enter Tryd.func88,Tryd.ntmps88
 go_upto_region 1 with (fail)
 obtain ⟨w0,hw0⟩:∃ w0,w0=((w.alloc (Obj.cells kc.toArray 26)).alloc (Obj.cells nc.toArray 106)).alloc (Obj.cells (List.replicate 64 (.int .u8 0)).toArray 111):=⟨_,rfl⟩
 have B0:Hid (Blk w0 w.heap.size 26 kc):=by unfold Hid; rw [hw0]; exact ((Blk.new w 26 kc).alloc _).alloc _
 have B1:Hid (Blk w0 (w.heap.size + 1) 106 nc):=by unfold Hid; rw [hw0]; exact (Blk.at_new _ _ 106 _ _ rfl (by simp)).alloc _
 have B2:Hid (Blk w0 (w.heap.size + 1 + 1) 111 (List.replicate 64 (.int .u8 0))):=by unfold Hid; rw [hw0]; exact Blk.at_new _ _ 111 _ _ rfl (by simp)
 have W0:Hid (Below w.heap.size w w0):=by unfold Hid; rw [hw0]; exact (((Below.refl _ _).alloc (Nat.le_refl _) _).alloc (by simp) _).alloc (by simp <;> omega) _
 have hs0:w.heap.size + 3<=w0.heap.size:=by rw [hw0]; simp
 change Code.wp _ _ _ _ (((w.alloc (Obj.cells kc.toArray 26)).alloc (Obj.cells nc.toArray 106)).alloc (Obj.cells (List.replicate 64 (.int .u8 0)).toArray 111))
 rw [<- hw0]
 clear hw0
 go_wp2_with (first
  | ((with_reducible refine load_law rfl 26 (.tmp 3) rfl w.heap.size 0 rfl kc _ Tryd.underlying26 rfl IK.out B0.out.cells ?_))
  | ((with_reducible refine load_law rfl 106 (.tmp 5) rfl (w.heap.size + 1) 0 rfl nc _ Tryd.underlying106 rfl IN.out B1.out.cells ?_)))
 refine (HBG.out w0).mono ?_
 rintro e w1 ⟨rfl,hX⟩
 have X1:=Lib.hid hX
 have hs1:=hX.size
 obtain ⟨f,hf⟩:∃ f,f=Cha.first key ctr nonce:=⟨_,rfl⟩
 have HF:Hid (f.length=16):=by unfold Hid; rw [hf]; exact Cha.first_length key ctr nonce
 rw [<- hf]
 have HFE:=Lib.hid hf
 obtain ⟨F,hF⟩:∃ F,F=f.map wd:=⟨_,rfl⟩
 rw [<- hF]
 have hFl:F.length=16:=by rw [hF,List.length_map,HF.out]
 have IW:Hid ((Tryd.prog.info? 148).map (·.size)=some F.length):=by unfold Hid; rw [hFl]; kernel_rfl
 have LZ:Hid ((fillN 16 []).length=F.length):=by unfold Hid; rw [hFl]; rfl
 have OF:Hid (∀ v ∈ F,v.oneCell'=true):=by unfold Hid; rw [hF]; exact cells_wd _
 have HFF:=Lib.hid hF
 have Z1:=Lib.hid (B2.out.below hX (by omega))
 have W1:=Lib.hid (W0.out.trans (hX.mono W0.out.size))
 clear hX hf hF hFl B0 B1 B2 W0 X1
 go_upto_region 2 with (first
  | ((with_reducible refine storeGen_law rfl 148 (.tmp 7) (.tmp 15) rfl w1.heap.size rfl F rfl 148 (fillN 16 []) IW.out LZ.out OF.out w1.heap.size w1 ?_ ?_ (Nat.le_refl _) ?_)
     ·exact Blk.at_new _ _ 148 _ _ (by rfl) rfl
     ·exact (Below.refl _ _).alloc (Nat.le_refl _) _
     intro w2 F2 X2))
 have hs2:=F2.out.lt
 have Z2:=Lib.hid (Z1.out.below X2.out (by omega))
 have W2:=Lib.hid (W1.out.trans (X2.out.mono (by omega)))
 clear X2 Z1 W1
 go_upto_region 3 with (first
  | ((with_reducible refine load_law rfl 148 (.tmp 7) rfl w1.heap.size 0 rfl F _ Tryd.underlying148 rfl IW.out F2.out.cells ?_))
  | ((with_reducible refine storeGen_law rfl 148 (.tmp 8) (.tmp 16) rfl w2.heap.size rfl F rfl 148 (fillN 16 []) IW.out LZ.out OF.out w2.heap.size w2 ?_ ?_ (Nat.le_refl _) ?_)
     ·exact Blk.at_new _ _ 148 _ _ (by rfl) rfl
     ·exact (Below.refl _ _).alloc (Nat.le_refl _) _
     intro w3 R3 X3))
 have hs3:=R3.out.lt
 have Z3:=Lib.hid (Z2.out.below X3.out (by omega))
 have W3:=Lib.hid (W2.out.trans (X3.out.mono (by omega)))
 have F3:=Lib.hid (F2.out.below X3.out (by omega))
 have R3':Hid (Blk w3 w2.heap.size 148 ((Cha.rounds 0 f).map wd)):=by unfold Hid; rw [Cha.rounds,<- HFF.out]; exact R3.out
 clear X3 Z2 W2 F2 R3
 go_wp2_with fail
 go_loopw [17] (fun i wr=>∃ k:Nat,k<=10/\i = .int .i64 k/\Hid (Blk wr w2.heap.size 148 ((Cha.rounds k f).map wd))/\Hid (Blk wr w1.heap.size 148 F)/\Hid (Blk wr (w.heap.size + 1 + 1) 111 (List.replicate 64 (.int .u8 0)))/\Hid (Below w.heap.size w wr)) (fun i _=>10 - (intOf i).toNat)
 case atStart=>exact ⟨0,by omega,rfl,R3',F3,Z3,W3⟩
 case round =>
  clear R3' F3 Z3 W3
  obtain ⟨k,hk,rfl,RR,FF,ZZ,WW⟩:=hrel
  have hsr:=RR.out.lt
  obtain ⟨m,hm⟩:∃ m,m=Cha.rounds k f:=⟨_,rfl⟩
  rw [<- hm] at RR
  have LM:Hid (m.length=16):=by unfold Hid; rw [hm,Cha.rounds_length,HF.out]
  have HM:=Lib.hid hm
  clear hm
  obtain ⟨M,hM⟩:∃ M,M=m.map wd:=⟨_,rfl⟩
  rw [<- hM] at RR
  have hMl:M.length=16:=by rw [hM,List.length_map,LM.out]
  have IM:Hid ((Tryd.prog.info? 148).map (·.size)=some M.length):=by unfold Hid; rw [hMl]; kernel_rfl
  have HMM:=Lib.hid hM
  clear hM hMl
  by_cases hlt:k < 10
  ·have hlb:decide ((k:Int) < 10)=true:=by simp; omega
   have c0:=Lib.hid (cround_any m 0 wr LM.out (by omega))
   rw [<- HMM.out] at c0
   go_wp2_with (first
    | ((with_reducible refine load_law rfl 148 (.tmp 8) rfl w2.heap.size 0 rfl M _ Tryd.underlying148 rfl IM.out RR.out.cells ?_)))
   refine c0.out.mono ?_
   rintro e w4 ⟨rfl,hX⟩
   have R4:=Lib.hid (RR.out.below hX hsr)
   have F4:=Lib.hid (FF.out.below hX (by omega))
   have Z4:=Lib.hid (ZZ.out.below hX (by omega))
   have W4:=Lib.hid (WW.out.trans (hX.mono WW.out.size))
   have hs4:=hX.size
   have c1:=Lib.hid (cround_any (Cha.rnd 0 m) 1 w4 (by rw [Cha.rnd_length,LM.out]) (by omega))
   clear hX c0 RR FF ZZ WW
   go_wp2_with fail
   refine c1.out.mono ?_
   rintro e w5 ⟨rfl,hX⟩
   obtain ⟨N,hN⟩:∃ N,N=(Cha.rnd 1 (Cha.rnd 0 m)).map wd:=⟨_,rfl⟩
   rw [<- hN]
   have hNl:N.length=16:=by rw [hN,List.length_map,Cha.rnd_length,Cha.rnd_length,LM.out]
   have IN':Hid ((Tryd.prog.info? 148).map (·.size)=some N.length):=by unfold Hid; rw [hNl]; kernel_rfl
   have LN':Hid (M.length=N.length):=by unfold Hid; rw [hNl,HMM.out,List.length_map,LM.out]
   have ON:Hid (∀ v ∈ N,v.oneCell'=true):=by unfold Hid; rw [hN]; exact cells_wd _
   have HNN:Hid (N=(Cha.rounds (k + 1) f).map wd):=by unfold Hid; rw [hN,HM.out]; rfl
   have R5:=Lib.hid (R4.out.below hX (by omega))
   have F5:=Lib.hid (F4.out.below hX (by omega))
   have Z5:=Lib.hid (Z4.out.below hX (by omega))
   have W5:=Lib.hid (W4.out.trans (hX.mono W4.out.size))
   clear hX hN hNl c1 R4 F4 Z4 W4
   go_wp2_with (first
    | ((with_reducible refine storeGen_law rfl 148 (.tmp 8) (.tmp 21) rfl w2.heap.size rfl N rfl 148 M IN'.out LN'.out ON.out w2.heap.size w5 R5.out (Below.refl _ _) (Nat.le_refl _) ?_); intro w6 R6 X6))
   rw [HNN.out] at R6
   go_roundw
   case rel=>exact ⟨k + 1,by omega,by go_num,R6,F5.out.below X6.out (by omega),Z5.out.below X6.out (by omega),W5.out.trans (X6.out.mono (by omega))⟩
   case measure=>simp [intOf]; omega
  ·obtain rfl:k=10:=by omega
   rw [show ((10:Nat):Int)=10 from rfl]
   obtain ⟨S,hS⟩:∃ S,S=Sha.adds m f:=⟨_,rfl⟩
   have LS:Hid (S.length=16):=by unfold Hid; rw [hS,Sha.adds_length _ _ (by rw [LM.out,HF.out]),LM.out]
   have HBL:Hid (Cha.block key ctr nonce=Cha.flatL S):=by unfold Hid Cha.block; rw [<- HFE.out,<- HM.out,hS]
   have HGS:Hid (∀ j,j < 16->S.getD j 0=Sha.add (m.getD j 0) (f.getD j 0)):=fun j hj=>by rw [hS]; exact Cha.adds_get m f j (by rw [LM.out]; exact hj) (by rw [HF.out]; exact hj)
   clear hS
   go_wp2_with (first
    | ((with_reducible refine load_law rfl 148 (.tmp 8) rfl w2.heap.size 0 rfl M _ Tryd.underlying148 rfl IM.out ?_ ?_); exact (RR.out.alloc _).cells))
   obtain ⟨wo,rfl⟩:∃ wo,wo=wr:=⟨_,rfl⟩
   go_loopw [24] (fun i wr=>∃ k:Nat,k<=16/\i = .int .i64 k/\Hid (Blk wr wo.heap.size 111 (blkC (S.take k)))/\Hid (Below wo.heap.size wo wr)) (fun i _=>16 - (intOf i).toNat)
   case atStart=>exact ⟨0,by omega,rfl,Blk.at_new _ _ 111 _ _ (by rfl) rfl,(Below.refl _ _).alloc (Nat.le_refl _) _⟩
   case round =>
    obtain ⟨k,hk,rfl,BK,BW⟩:=hrel
    by_cases hlt:k < 16
    ·have hlb:decide ((k:Int) < 16)=true:=by simp; omega
     obtain ⟨x,hx⟩:∃ x,x=m.getD k 0:=⟨_,rfl⟩
     obtain ⟨y,hy⟩:∃ y,y=f.getD k 0:=⟨_,rfl⟩
     have hix:=run_index_one (P:=Tryd.prog) wr 148 102 16 _ Tryd.underlying148 Tryd.underlying102 rfl (by kernel_rfl) M k hlt (.int .u32 x) (by rw [HMM.out,hx]; exact words_at m k (by rw [LM.out]; exact hlt))
     have c7:wr.cell? ⟨w1.heap.size,k,none⟩=some (.int .u32 y):=by
      rw [(FF.out.below BW.out FF.out.lt).cell,HFF.out,hy]
      exact words_at f k (by rw [HF.out]; exact hlt)
     obtain ⟨z,hz⟩:∃ z,z=Sha.add x y:=⟨_,rfl⟩
     have HZ:Hid (S.getD k 0=z):=by unfold Hid; rw [HGS.out k hlt,<- hx,<- hy,hz]
     clear hx hy
     go_upto_region 12 with (fail)
     rw [add_form,<- hz]
     clear hix c7 hz
     have hlk:(S.take k).length=k:=by rw [List.length_take,LS.out]; omega
     have c0:wr.cell? ⟨wo.heap.size,4 * k,none⟩=some (.int .u8 0):=by rw [BK.out.cell]; exact blkC_at _ _ (by omega) (by omega)
     have c1:wr.cell? ⟨wo.heap.size,4 * k + 1,none⟩=some (.int .u8 0):=by rw [BK.out.cell]; exact blkC_at _ _ (by omega) (by omega)
     have c2:wr.cell? ⟨wo.heap.size,4 * k + 2,none⟩=some (.int .u8 0):=by rw [BK.out.cell]; exact blkC_at _ _ (by omega) (by omega)
     have c3:wr.cell? ⟨wo.heap.size,4 * k + 3,none⟩=some (.int .u8 0):=by rw [BK.out.cell]; exact blkC_at _ _ (by omega) (by omega)
     have f0:wr.frozen? ⟨wo.heap.size,4 * k,none⟩=false:=BK.out.frozen _
     have f1:wr.frozen? ⟨wo.heap.size,4 * k + 1,none⟩=false:=BK.out.frozen _
     have f2:wr.frozen? ⟨wo.heap.size,4 * k + 2,none⟩=false:=BK.out.frozen _
     have f3:wr.frozen? ⟨wo.heap.size,4 * k + 3,none⟩=false:=BK.out.frozen _
     have HBN:Hid (Blk ((((wr.setCell ⟨wo.heap.size,4 * k,none⟩ (.int .u8 (z % 256))).setCell ⟨wo.heap.size,4 * k + 1,none⟩ (.int .u8 (z / 256 % 256))).setCell ⟨wo.heap.size,4 * k + 2,none⟩ (.int .u8 (z / 65536 % 256))).setCell ⟨wo.heap.size,4 * k + 3,none⟩ (.int .u8 (z / 16777216 % 256))) wo.heap.size 111 (blkC (S.take (k + 1)))):=by
      have:=(((BK.out.set_ (4 * k) (cellOf (Sha.by8 z))).set_ (4 * k + 1) (cellOf (Sha.by8 (z / 256)))).set_ (4 * k + 2) (cellOf (Sha.by8 (z / 65536)))).set_ (4 * k + 3) (cellOf (Sha.by8 (z / 16777216)))
      rw [blkC_set _ z k hlk hlt] at this
      simp only [byte8] at this
      have e:S.take (k + 1)=S.take k ++ [z]:=by
       rw [List.take_succ_eq_append_getElem (by rw [LS.out]; exact hlt),<- HZ.out]
       simp [List.getD_eq_getElem?_getD,LS.out,hlt]
      rw [e]
      exact this
     clear hlk
     go_wp2_with fail
     go_roundw
     case rel=>exact ⟨k + 1,by omega,by go_num,HBN,(((BW.out.setCell (Nat.le_refl _) _).setCell (Nat.le_refl _) _).setCell (Nat.le_refl _) _).setCell (Nat.le_refl _) _⟩
     case measure=>simp [intOf]; omega
    ·obtain rfl:k=16:=by omega
     obtain ⟨D,hD⟩:∃ D,D=(Cha.block key ctr nonce).map cellOf:=⟨_,rfl⟩
     have hBD:Blk wr wo.heap.size 111 D:=by
      have:=BK.out
      rw [List.take_of_length_le (by rw [LS.out]; omega),blkC_full S LS.out,<- HBL.out,<- hD] at this
      exact this
     have hDl:D.length=64:=by rw [hD,List.length_map,Cha.block_length]
     have ID:Hid ((Tryd.prog.info? 111).map (·.size)=some D.length):=by unfold Hid; rw [hDl]; kernel_rfl
     have LD:Hid ((List.replicate 64 (Value.int .u8 0)).length=D.length):=by unfold Hid; rw [hDl]; rfl
     have OD:Hid (∀ v ∈ D,v.oneCell'=true):=by unfold Hid; rw [hD]; exact cells_u8 _
     have HBD:=Lib.hid hBD
     have HD:=Lib.hid hD
     have ZR:=Lib.hid (ZZ.out.below BW.out (by omega))
     have WR:=Lib.hid (WW.out.trans (BW.out.mono (by omega)))
     clear hBD hDl hD BK
     go_wp2_with (first
      | ((with_reducible refine load_law rfl 111 (.tmp 9) rfl wo.heap.size 0 rfl D _ Tryd.underlying111 rfl ID.out HBD.out.cells ?_))
      | ((with_reducible refine storeGen_law rfl 111 (.tmp 6) (.tmp 60) rfl (w.heap.size + 1 + 1) rfl D rfl 111 (List.replicate 64 (.int .u8 0)) ID.out LD.out OD.out w.heap.size w ZR.out WR.out (by omega) ?_); intro w7 B7 W7))
     exact bodyPost_ret (results_cell_row rfl _ _ (w.heap.size + 1 + 1) 111 D.toArray (0,0) _ rfl B7.out Tryd.underlying111 rfl (by rw [ID.out]; simp)) rfl ⟨by rw [HD.out],W7.out⟩
end Go.Proofs.YtajgjeialbgijaaDoor
namespace Go.Proofs.YtajgjeialbgijaaDoor
set_option linter.unusedVariables false
set_option linter.unusedSimpArgs false
set_option maxRecDepth 100000
open Go.RowKit
theorem ctr_zero (ctr:Int) (h0:0<=ctr) (h1:ctr < 4294967296):Cha.ctrAt ctr 0=ctr:=by unfold Cha.ctrAt; rw [IntKind.wrap_u32']; omega
theorem ctr_succ (ctr:Int) (j:Nat):(Cha.ctrAt ctr j + 1) % 4294967296=Cha.ctrAt ctr (j + 1):=by
 unfold Cha.ctrAt
 simp only [IntKind.wrap_u32']
 have e:((j + 1:Nat):Int)=(j:Int) + 1:=by omega
 rw [e]
 omega
theorem block_at (key nonce:List UInt8) (ctr:Int) (q:Nat) (h:q < 64):((Cha.block key ctr nonce).map cellOf)[q]?=some (.int .u8 (((Cha.block key ctr nonce).getD q 0).toNat:Int)):=by
 have hl:(Cha.block key ctr nonce).length=64:=Cha.block_length key ctr nonce
 generalize Cha.block key ctr nonce=l at *
 exact bytes_at l q (by rw [hl]; exact h)
set_option maxRecDepth 100000 in
set_option maxHeartbeats 2000000 in
theorem cxor_any (key nonce:List UInt8) (ctr:Int) {w:World} {A:Option Addr} {n c:Nat} {b:List UInt8} (hr:Rd w A n c b) (hn:n<=100000) (hk:key.length=32) (hnn:nonce.length=12) (h0:0<=ctr) (h1:ctr < 4294967296) :
  Calls Tryd.prog 77 #[.agg (key.map cellOf).toArray,.int .u32 ctr,.agg (nonce.map cellOf).toArray,.slice A n c] w fun e w'=>∃ g,e = .returned (.slice (some ⟨g,0,none⟩) n n)/\Rd w' (some ⟨g,0,none⟩) n n (Cha.xor key ctr nonce b)/\w.heap.size<=g/\Below w.heap.size w w':=by
 have HBL:=Lib.hid (fun W x=>cblock_any key nonce x W hk hnn)
 have HR:=Lib.hid hr
 have HL:=Lib.hid hr.len
 have HC0:=Lib.hid (ctr_zero ctr h0 h1)
 obtain ⟨kc,hkc⟩:∃ c,c=key.map cellOf:=⟨_,rfl⟩
 obtain ⟨nc,hnc⟩:∃ c,c=nonce.map cellOf:=⟨_,rfl⟩
 rw [<- hkc,<- hnc] at HBL
 rw [<- hkc,<- hnc]
 have hkl:kc.length=32:=by rw [hkc,List.length_map,hk]
 have hnl:nc.length=12:=by rw [hnc,List.length_map,hnn]
 have IK:Hid ((Tryd.prog.info? 26).map (·.size)=some kc.length):=by unfold Hid; rw [hkl]; kernel_rfl
 have IN:Hid ((Tryd.prog.info? 106).map (·.size)=some nc.length):=by unfold Hid; rw [hnl]; kernel_rfl
 have hmk:=fun W=>make_bytes n (by omega) W
 clear hkc hnc hk hnn hkl hnl hr h0 h1
 go_enter Tryd.func77,Tryd.ntmps77
 go_upto_region 3 with (fail)
 clear hmk
 obtain ⟨w0,hw0⟩:∃ w0,w0=(((w.alloc (Obj.cells kc.toArray 26)).alloc (Obj.cells nc.toArray 106)).alloc (Obj.cells (outC [] n).toArray 5)).alloc (Obj.cells (List.replicate 64 (.int .u8 0)).toArray 111):=⟨_,rfl⟩
 have B0:Hid (Blk w0 w.heap.size 26 kc):=by unfold Hid; rw [hw0]; exact (((Blk.new w 26 kc).alloc _).alloc _).alloc _
 have B1:Hid (Blk w0 (w.heap.size + 1) 106 nc):=by unfold Hid; rw [hw0]; exact ((Blk.at_new _ _ 106 _ _ rfl (by simp)).alloc _).alloc _
 have B2:Hid (Blk w0 (w.heap.size + 1 + 1) 5 (outC (Cha.xorTo key ctr nonce b 0) n)):=by unfold Hid; rw [hw0]; exact (Blk.at_new _ _ 5 _ _ rfl (by simp)).alloc _
 have B3:Hid (Blk w0 (w.heap.size + 1 + 1 + 1) 111 (List.replicate 64 (.int .u8 0))):=by unfold Hid; rw [hw0]; exact Blk.at_new _ _ 111 _ _ rfl (by simp)
 have W0:Hid (Below w.heap.size w w0):=by unfold Hid; rw [hw0]; exact ((((Below.refl _ _).alloc (Nat.le_refl _) _).alloc (by simp) _).alloc (by simp <;> omega) _).alloc (by simp <;> omega) _
 change Code.wp _ _ _ _ ((((w.alloc (Obj.cells kc.toArray 26)).alloc (Obj.cells nc.toArray 106)).alloc (Obj.cells (outC [] n).toArray 5)).alloc (Obj.cells (List.replicate 64 (.int .u8 0)).toArray 111))
 rw [<- hw0]
 clear hw0
 go_wp2_with fail
 go_loopw [1,18] (fun cv i wr=>∃ (k:Nat) (D:List Value),k<=n/\i = .int .i64 k/\cv = .int .u32 (Cha.ctrAt ctr ((k + 63) / 64))/\Hid (D.length=64)/\Hid (k % 64 ≠ 0->D=(Cha.block key (Cha.ctrAt ctr (k / 64)) nonce).map cellOf)/\Hid (Blk wr w.heap.size 26 kc)/\Hid (Blk wr (w.heap.size + 1) 106 nc)/\Hid (Blk wr (w.heap.size + 1 + 1) 5 (outC (Cha.xorTo key ctr nonce b k) n))/\Hid (Blk wr (w.heap.size + 1 + 1 + 1) 111 D)/\Hid (Below w.heap.size w wr)) (fun _ i _=>n - (intOf i).toNat)
 case atStart=>exact ⟨0,List.replicate 64 (.int .u8 0),by omega,rfl,by rw [show (0 + 63) / 64=0 from rfl,HC0.out],by unfold Hid; simp,fun h=>absurd rfl h,B0,B1,B2,B3,W0⟩
 case round =>
  clear B0 B1 B2 B3 W0
  obtain ⟨k,D,hk,rfl,rfl,LD,HD,B0,B1,B2,B3,BW⟩:=hrel
  obtain ⟨wi,rfl⟩:∃ wi,wi=wr:=⟨_,rfl⟩
  by_cases hlt:k < n
  ·have hlb:decide ((k:Int) < (n:Int))=true:=by simp; omega
   have hlb':decide (k < n)=true:=by simp; omega
   obtain ⟨bb,off,hA,hbl,hcell⟩:=HR.out.at_ (by omega)
   subst hA
   obtain ⟨x,hx⟩:∃ x,x=b.getD k 0:=⟨_,rfl⟩
   have e0:wi.cell? ⟨bb,off + k,none⟩=some (.int .u8 (x.toNat:Int)):=by rw [hx]; exact (BW.out.cell (p:=⟨bb,off + k,none⟩) hbl).trans (hcell k hlt)
   have HX:=Lib.hid hx
   obtain ⟨q,hq⟩:∃ q,q=k % 64:=⟨_,rfl⟩
   have hqe:(k:Int) % 64=(q:Int):=by omega
   have hq64:q < 64:=by omega
   have HQ:=Lib.hid hq
   clear hx hcell hq
   go_upto_if 25 with (fail)
   clear e0
   go_cut [1,18] from 18 to 41 (fun cv i wx=>Hid (i = .int .i64 (k:Int))/\Hid (cv = .int .u32 (Cha.ctrAt ctr (k / 64 + 1)))/\Hid (Blk wx w.heap.size 26 kc)/\Hid (Blk wx (w.heap.size + 1) 106 nc)/\Hid (Blk wx (w.heap.size + 1 + 1) 5 (outC (Cha.xorTo key ctr nonce b k) n))/\Hid (Blk wx (w.heap.size + 1 + 1 + 1) 111 ((Cha.block key (Cha.ctrAt ctr (k / 64)) nonce).map cellOf))/\Hid (Below w.heap.size w wx))
   case first =>
    by_cases hz:q=0
    ·have hqz:((q:Int) == 0)=true:=by simp; omega
     have ek:(k + 63) / 64=k / 64:=by have:=HQ.out; omega
     rw [ek]
     have hcall:=Lib.hid (HBL.out wi (Cha.ctrAt ctr (k / 64)))
     go_wp2_with (first
      | ((with_reducible refine load_law rfl 26 (.tmp 4) rfl w.heap.size 0 rfl kc _ Tryd.underlying26 rfl IK.out B0.out.cells ?_))
      | ((with_reducible refine load_law rfl 106 (.tmp 6) rfl (w.heap.size + 1) 0 rfl nc _ Tryd.underlying106 rfl IN.out B1.out.cells ?_)))
     refine hcall.out.mono ?_
     rintro e w2 ⟨rfl,hX⟩
     obtain ⟨E,hE⟩:∃ E,E=(Cha.block key (Cha.ctrAt ctr (k / 64)) nonce).map cellOf:=⟨_,rfl⟩
     rw [<- hE]
     have hEl:E.length=64:=by rw [hE,List.length_map,Cha.block_length]
     have IE:Hid ((Tryd.prog.info? 111).map (·.size)=some E.length):=by unfold Hid; rw [hEl]; kernel_rfl
     have LE:Hid (D.length=E.length):=by unfold Hid; rw [hEl,LD.out]
     have OE:Hid (∀ v ∈ E,v.oneCell'=true):=by unfold Hid; rw [hE]; exact cells_u8 _
     have HE:=Lib.hid hE
     have C0:=Lib.hid (B0.out.below hX B0.out.lt)
     have C1:=Lib.hid (B1.out.below hX B1.out.lt)
     have C2:=Lib.hid (B2.out.below hX B2.out.lt)
     have C3:=Lib.hid (B3.out.below hX B3.out.lt)
     have CW:=Lib.hid (BW.out.trans (hX.mono BW.out.size))
     clear hX hE hEl hcall B0 B1 B2 B3 BW
     go_wp2_with (first
      | ((with_reducible refine storeGen_law rfl 111 (.tmp 10) (.tmp 29) rfl (w.heap.size + 1 + 1 + 1) rfl E rfl 111 D IE.out LE.out OE.out (w.heap.size + 1 + 1 + 1) w2 C3.out (Below.refl _ _) (Nat.le_refl _) ?_); intro w3 E3 X3))
     go_meet
     case rel =>
      refine ⟨rfl,by unfold Hid; rw [ctr_succ],C0.out.below X3.out (by omega),C1.out.below X3.out (by omega),C2.out.below X3.out (by omega),?_,CW.out.trans (X3.out.mono (by omega))⟩
      rw [<- HE.out]
      exact E3
    ·have hqz:((q:Int) == 0)=false:=by simp; omega
     have ek:(k + 63) / 64=k / 64 + 1:=by have:=HQ.out; omega
     rw [ek]
     have hD:=HD.out (by rw [<- HQ.out]; exact hz)
     rw [hD] at B3
     clear hD
     go_wp2_with fail
     go_meet
     case rel=>exact ⟨rfl,rfl,B0,B1,B2,B3,BW⟩
   case rest =>
    clear B0 B1 B2 B3 BW LD HD
    obtain ⟨h1,h2,B0,B1,B2,B3,BW⟩:=hcut
    have h1':=h1.out
    have h2':=h2.out
    subst h1'
    subst h2'
    clear h1 h2
    obtain ⟨wi,rfl⟩:∃ wi,wi=wc:=⟨_,rfl⟩
    obtain ⟨z,hz⟩:∃ z,z=(Cha.block key (Cha.ctrAt ctr (k / 64)) nonce).getD q 0:=⟨_,rfl⟩
    have cz:wi.cell? ⟨w.heap.size + 1 + 1 + 1,q,none⟩=some (.int .u8 (z.toNat:Int)):=by rw [B3.out.cell,hz]; exact block_at key nonce _ q hq64
    have HZ:Hid (Cha.xorTo key ctr nonce b (k + 1)=Cha.xorTo key ctr nonce b k ++ [x ^^^ z]):=by unfold Hid; rw [Cha.xorTo_succ,hz,HX.out,HQ.out]; rfl
    have hxz:=xor_cell x z
    have c0:wi.cell? ⟨w.heap.size + 1 + 1,k,none⟩=some (.int .u8 0):=by rw [B2.out.cell]; exact outC_at _ n k (Cha.xorTo_length _ _ _ _ _) hlt
    have f0:wi.frozen? ⟨w.heap.size + 1 + 1,k,none⟩=false:=B2.out.frozen _
    have bq:(q:Int) < 64:=by omega
    have B4:Hid (Blk (wi.setCell ⟨w.heap.size + 1 + 1,k,none⟩ (.int .u8 ((x ^^^ z).toNat:Int))) (w.heap.size + 1 + 1) 5 (outC (Cha.xorTo key ctr nonce b (k + 1)) n)):=by
     have:=B2.out.set_ k (cellOf (x ^^^ z))
     rw [outC_set _ n k _ (Cha.xorTo_length _ _ _ _ _) hlt,<- HZ.out] at this
     exact this
    have ek:(k + 1 + 63) / 64=k / 64 + 1:=by omega
    have HEK:=Lib.hid ek
    clear hz ek
    go_wp2_with fail
    clear hxz c0 f0 cz
    go_roundw
    case rel =>
     refine ⟨k + 1,(Cha.block key (Cha.ctrAt ctr (k / 64)) nonce).map cellOf,by omega,by go_num,by rw [HEK.out],by unfold Hid; rw [List.length_map,Cha.block_length],fun hne=>?_,B0.out.far (by simp <;> omega) _,B1.out.far (by simp) _,B4,B3.out.far (by simp) _,BW.out.setCell (by simp <;> omega) _⟩
     have e:(k + 1) / 64=k / 64:=by omega
     rw [e]
    case measure=>simp [intOf]; omega
  ·obtain rfl:k=n:=by omega
   have hlb:decide ((k:Int) < (k:Int))=false:=by simp
   have HRR:=Lib.hid (outC_rd B2.out (Cha.xorTo_length key ctr nonce b k) (by omega))
   have HXE:Hid (Cha.xorTo key ctr nonce b k=Cha.xor key ctr nonce b):=by unfold Hid Cha.xor; rw [HL.out]
   rw [HXE.out] at HRR
   clear B0 B1 B2 B3
   go_wp2_with fail
   go_ret
   exact ⟨_,rfl,HRR.out,by omega,BW.out⟩
end Go.Proofs.YtajgjeialbgijaaDoor
namespace Go.Proofs.YtajgjeialbgijaaDoor.Cha
set_option linter.unusedVariables false
set_option linter.unusedSimpArgs false
set_option maxRecDepth 100000
def xf (f:Nat->UInt8) (b:List UInt8):List UInt8:=(List.range b.length).map fun i=>b.getD i 0 ^^^ f i
theorem xor_xf (key:List UInt8) (ctr:Int) (nonce b:List UInt8):xor key ctr nonce b=xf (stream key ctr nonce) b:=rfl
theorem xf_length (f:Nat->UInt8) (b:List UInt8):(xf f b).length=b.length:=by simp [xf]
theorem xf_get (f:Nat->UInt8) (b:List UInt8) (i:Nat) (h:i < b.length):(xf f b)[i]'(by rw [xf_length]; exact h)=b[i] ^^^ f i:=by
 simp [xf,List.getD_eq_getElem?_getD,List.getElem?_eq_getElem h]
theorem xf_xf (f:Nat->UInt8) (b:List UInt8):xf f (xf f b)=b:=by
 apply List.ext_getElem
 ·rw [xf_length,xf_length]
 ·intro i h1 h2
  rw [xf_get f (xf f b) i (by rw [xf_length]; exact h2),xf_get f b i h2,UInt8.xor_assoc,UInt8.xor_self,UInt8.xor_zero]
theorem xor_xor (key:List UInt8) (ctr:Int) (nonce b:List UInt8):xor key ctr nonce (xor key ctr nonce b)=b:=by rw [xor_xf,xor_xf,xf_xf]
end Go.Proofs.YtajgjeialbgijaaDoor.Cha
