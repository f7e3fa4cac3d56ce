import Derived.Test.YtnfbkimkdnbohaaGreatDoorSPhase
import Derived.Test.YtnfbkimkdnbohaaGreatDoorSGpol
set_option linter.unusedVariables false
set_option linter.unusedSimpArgs false
set_option maxRecDepth 100000
set_option maxHeartbeats 8000000
namespace Go.Proofs.YtnfbkimkdnbohaaGreatDoor.Pol
def D:List Int->Int
 | []=>0
 | x :: l=>x + 256 * D l
def dg (n:Nat) (v:Int):List Int:=(List.range n).map fun j=>v / 256 ^ j % 256
theorem dg_length (n:Nat) (v:Int):(dg n v).length=n:=by simp [dg]
theorem pow_pos (n:Nat):(0:Int) < 256 ^ n:=Int.pow_pos (by omega)
theorem D_append:∀ l m:List Int,D (l ++ m)=D l + 256 ^ l.length * D m
 | [],m=>by simp [D]
 | b :: l,m=>by
  simp only [List.cons_append,D,D_append l m,List.length_cons,Int.pow_succ]
  grind
theorem D_take (l:List Int) (k:Nat) (h:k < l.length):D (l.take (k + 1))=D (l.take k) + 256 ^ k * l.getD k 0:=by
 rw [List.take_succ_eq_append_getElem h,D_append,List.length_take,Nat.min_eq_left (by omega)]
 simp [D,List.getD_eq_getElem?_getD,List.getElem?_eq_getElem h]
theorem D_set:∀ (l:List Int) (j:Nat) (x:Int),j < l.length->D (l.set j x)=D l + 256 ^ j * (x - l.getD j 0)
 | [],_,_,h=>by simp at h
 | y :: l,0,x,_=>by simp [D]; omega
 | y :: l,j + 1,x,h=>by
  have:=D_set l j x (by simpa using h)
  simp only [List.set_cons_succ,D,this,List.getD_cons_succ,Int.pow_succ]
  grind
theorem D_bound:∀ l:List Int,In 256 l->0<=D l/\D l < 256 ^ l.length
 | [],_=>by simp [D]
 | x :: l,h=>by
  have ih:=D_bound l (fun y hy=>h y (by simp [hy]))
  have hx:=h x (by simp)
  simp only [D,List.length_cons,Int.pow_succ]
  omega
theorem D_nonneg:∀ (m:Int) (l:List Int),In m l->0<=D l
 | _,[],_=>by simp [D]
 | m,x :: l,h=>by
  have ih:=D_nonneg m l (fun y hy=>h y (by simp [hy]))
  have hx:=h x (by simp)
  simp only [D]
  omega
theorem dg_succ (n:Nat) (v:Int):dg (n + 1) v=v % 256 :: dg n (v / 256):=by
 unfold dg
 rw [List.range_succ_eq_map,List.map_cons,List.map_map]
 congr 1
 ·simp
 ·apply List.map_congr_left
  intro j _
  show v / 256 ^ (j + 1) % 256=v / 256 / 256 ^ j % 256
  rw [Int.ediv_ediv_of_nonneg (show (0:Int)<=256 by omega),Int.pow_succ,Int.mul_comm]
theorem dg_D:∀ l:List Int,In 256 l->dg l.length (D l)=l
 | [],_=>rfl
 | x :: l,h=>by
  have hx:=h x (by simp)
  rw [List.length_cons,dg_succ,D,show (x + 256 * D l) / 256=D l by omega,show (x + 256 * D l) % 256=x by omega,dg_D l (fun y hy=>h y (by simp [hy]))]
theorem dg_in (n:Nat) (v:Int):In 256 (dg n v):=by
 intro x hx
 obtain ⟨j,_,rfl⟩:=List.mem_map.1 hx
 omega
theorem D_dg:∀ (n:Nat) (v:Int),0<=v->v < 256 ^ n->D (dg n v)=v
 | 0,v,h0,h1=>by simp at h1; simp [dg,D]; omega
 | n + 1,v,h0,h1=>by
  rw [Int.pow_succ] at h1
  rw [dg_succ,D,D_dg n (v / 256) (by omega) (by omega)]
  omega
theorem dg_at (n:Nat) (v:Int) (j:Nat) (h:j < n):(dg n v).getD j 0=v / 256 ^ j % 256:=by simp [dg,List.getD_eq_getElem?_getD,h]
theorem in_at {m:Int} {l:List Int} (h:In m l) (j:Nat) (hj:j < l.length):0<=l.getD j 0/\l.getD j 0 < m:=by
 have:l.getD j 0=l[j]:=by simp [List.getD_eq_getElem?_getD,List.getElem?_eq_getElem hj]
 rw [this]
 exact h _ (List.getElem_mem hj)
theorem in_of {m:Int} {l:List Int} (h:∀ j,j < l.length->0<=l.getD j 0/\l.getD j 0 < m):In m l:=by
 intro x hx
 obtain ⟨j,hj,rfl⟩:=List.mem_iff_getElem.1 hx
 have:=h j hj
 simpa [List.getD_eq_getElem?_getD,List.getElem?_eq_getElem hj] using this
theorem getD_set (l:List Int) (i j:Nat) (x:Int):(l.set i x).getD j 0=if i=j/\i < l.length then x else l.getD j 0:=by
 rw [List.getD_eq_getElem?_getD,List.getD_eq_getElem?_getD,List.getElem?_set]
 by_cases h:i=j
 ·subst h
  by_cases h2:i < l.length
  ·simp [h2]
  ·simp [h2]
 ·simp [h]
theorem le_D (b:List UInt8):le b=D (b.map fun x=>(x.toNat:Int)):=by
 induction b with
 | nil=>rfl
 | cons x b ih=>simp only [le,List.map_cons,D,ih]
structure Car (l m:List Int) (k:Nat):Prop where
 len:m.length=l.length
 val:D m=D l
 lo:∀ j,j < k->0<=m.getD j 0/\m.getD j 0 < 256
 at_:0<=m.getD k 0/\m.getD k 0 < 2199023255552
 hi:∀ j,k < j->m.getD j 0=l.getD j 0
theorem getD_ge {l:List Int} {j:Nat} (h:l.length<=j):l.getD j 0=0:=by rw [List.getD_eq_getElem?_getD,List.getElem?_eq_none h]; rfl
theorem Car.start {l:List Int} (h:In 1099511627776 l):Car l l 0:=by
 refine ⟨rfl,rfl,fun j hj=>absurd hj (by omega),?_,fun _ _=>rfl⟩
 rcases Nat.lt_or_ge 0 l.length with h0 | h0
 ·have:=in_at h 0 h0; omega
 ·rw [getD_ge h0]; omega
theorem Car.next {l m:List Int} {k:Nat} (h:In 1099511627776 l) (hc:Car l m k) (hk:k + 1 < l.length):Car l ((m.set (k + 1) (m.getD (k + 1) 0 + m.getD k 0 / 256)).set k (m.getD k 0 % 256)) (k + 1):=by
 have hl:=hc.len
 have hk1:=hc.hi (k + 1) (by omega)
 have hb:=in_at h (k + 1) hk
 have ha:=hc.at_
 refine ⟨by simp [hl],?_,fun j hj=>?_,?_,fun j hj=>?_⟩
 ·rw [D_set _ _ _ (by simp; omega),D_set _ _ _ (by omega),hc.val,getD_set,if_neg (by omega),Int.pow_succ]
  have e:=Int.emod_add_mul_ediv (m.getD k 0) 256
  generalize m.getD (k + 1) 0=u at *
  generalize m.getD k 0=v at *
  rw [show u + v / 256 - u=v / 256 by omega,show v % 256 - v=- (256 * (v / 256)) by omega]
  grind
 ·rw [getD_set]
  by_cases hjk:k=j
  ·rw [if_pos ⟨hjk,by simp; omega⟩]; omega
  ·rw [if_neg (by omega),getD_set,if_neg (by omega)]; exact hc.lo j (by omega)
 ·rw [getD_set,if_neg (by omega),getD_set,if_pos ⟨rfl,by omega⟩,hk1]; omega
 ·rw [getD_set,if_neg (by omega),getD_set,if_neg (by omega)]; exact hc.hi j (by omega)
theorem Car.top {l m:List Int} {k:Nat} (hc:Car l m k) (hk:k + 1=l.length) (hv:D l < 256 ^ l.length):m.getD k 0 < 256:=by
 have hl:=hc.len
 have h1:D m=D (m.take k) + 256 ^ k * m.getD k 0:=by
  have:=D_take m k (by omega)
  rw [List.take_of_length_le (by omega)] at this
  exact this
 have h2:0<=D (m.take k):=D_nonneg 256 _ (fun x hx=>by
  obtain ⟨j,hj,rfl⟩:=List.mem_iff_getElem.1 hx
  have hj':j < k:=by rw [List.length_take] at hj; omega
  have:=hc.lo j hj'
  rw [List.getElem_take]
  simpa [List.getD_eq_getElem?_getD,List.getElem?_eq_getElem (show j < m.length by omega)] using this)
 rw [<- hk,<- hc.val,h1,Int.pow_succ] at hv
 have hp:=pow_pos k
 by_cases h:m.getD k 0 < 256
 ·exact h
 ·exfalso
  have:(256:Int) ^ k * 256<=256 ^ k * m.getD k 0:=Int.mul_le_mul_of_nonneg_left (by omega) (by omega)
  omega
theorem Car.all {l m:List Int} {k:Nat} (hc:Car l m k) (hk:k + 1=l.length) (hv:D l < 256 ^ l.length):m=dg l.length (D l):=by
 have ht:=hc.top hk hv
 have hin:In 256 m:=in_of fun j hj=>by
  rw [hc.len] at hj
  by_cases h:j < k
  ·exact hc.lo j h
  ·obtain rfl:j=k:=by omega
   exact ⟨hc.at_.1,ht⟩
 rw [<- dg_D m hin,hc.len,hc.val]
structure Row (s b:List Int) (x:Int) (i k:Nat) (m:List Int):Prop where
 len:m.length=s.length
 val:D m=D s + 256 ^ i * (x * D (b.take k))
 bd:∀ j,0<=m.getD j 0/\m.getD j 0 < 256 + 65536 * (k:Int)
theorem Row.start {s b:List Int} {x:Int} {i:Nat} (hs:In 256 s):Row s b x i 0 s:=by
 refine ⟨rfl,by simp [D],fun j=>?_⟩
 rcases Nat.lt_or_ge j s.length with h | h
 ·have:=in_at hs j h; omega
 ·rw [getD_ge h]; omega
theorem prod_bd2 {x y:Int} (hx:0<=x/\x < 256) (hy:0<=y/\y < 256):0<=x * y/\x * y < 65536:=by
 refine ⟨Int.mul_nonneg hx.1 hy.1,?_⟩
 have:x * y<=255 * y:=Int.mul_le_mul_of_nonneg_right (by omega) hy.1
 omega
theorem Row.next {s b m:List Int} {x:Int} {i k:Nat} (hx:0<=x/\x < 256) (hb:In 256 b) (hr:Row s b x i k m) (hk:k < b.length) (hi:i + k < s.length):Row s b x i (k + 1) (m.set (i + k) (m.getD (i + k) 0 + x * b.getD k 0)):=by
 have hl:=hr.len
 have hp:=prod_bd2 hx (in_at hb k hk)
 refine ⟨by simp [hl],?_,fun j=>?_⟩
 ·rw [D_set _ _ _ (by omega),hr.val,D_take b k hk,Int.pow_add]
  grind
 ·rw [getD_set]
  have:=hr.bd j
  by_cases h:i + k=j/\i + k < m.length
  ·rw [if_pos h,h.1]; omega
  ·rw [if_neg h]; omega
def sumTo (a b:List Int) (k:Nat):List Int:=(List.range k).map fun j=>a.getD j 0 + b.getD j 0
theorem sumTo_succ (a b:List Int) (k:Nat):sumTo a b (k + 1)=sumTo a b k ++ [a.getD k 0 + b.getD k 0]:=by simp [sumTo,List.range_succ]
theorem D_take' (l:List Int) (k:Nat):D (l.take (k + 1))=D (l.take k) + 256 ^ k * l.getD k 0:=by
 rcases Nat.lt_or_ge k l.length with h | h
 ·exact D_take l k h
 ·rw [getD_ge h,List.take_of_length_le (by omega),List.take_of_length_le h]; simp
theorem sumTo_D (a b:List Int):∀ k,D (sumTo a b k)=D (a.take k) + D (b.take k)
 | 0=>by simp [sumTo,D]
 | k + 1=>by
  rw [sumTo_succ,D_append,sumTo_D a b k,D_take' a,D_take' b]
  simp only [D,sumTo,List.length_map,List.length_range]
  grind
theorem sumTo_in (a b:List Int) (k:Nat) (ha:In 256 a) (hb:In 256 b):In 511 (sumTo a b k):=by
 intro x hx
 obtain ⟨j,_,rfl⟩:=List.mem_map.1 hx
 have h1:0<=a.getD j 0/\a.getD j 0 < 256:=by
  rcases Nat.lt_or_ge j a.length with h | h
  ·exact in_at ha j h
  ·rw [getD_ge h]; omega
 have h2:0<=b.getD j 0/\b.getD j 0 < 256:=by
  rcases Nat.lt_or_ge j b.length with h | h
  ·exact in_at hb j h
  ·rw [getD_ge h]; omega
 omega
def loF (l:List Int) (i:Nat):List Int:=(List.range (min i 17)).map fun j=>if j < 16 then l.getD j 0 else l.getD j 0 % 4
def hiF (l:List Int) (i:Nat):List Int:=(List.range (i - 16)).map fun j=>l.getD (16 + j) 0 / 4 + l.getD (17 + j) 0 % 4 * 64
theorem loF_dg (n:Nat) (v:Int) (h0:0<=v) (h1:v < 256 ^ n):loF (dg n v) n=dg (min n 17) (v % 1361129467683753853853498429727072845824):=by
 show (List.range (min n 17)).map _=(List.range (min n 17)).map _
 apply List.map_congr_left
 intro j hj
 have hj':j < min n 17:=by simpa using hj
 rw [dg_at n v j (by omega)]
 have hc:j=0 ∨ j=1 ∨ j=2 ∨ j=3 ∨ j=4 ∨ j=5 ∨ j=6 ∨ j=7 ∨ j=8 ∨ j=9 ∨ j=10 ∨ j=11 ∨ j=12 ∨ j=13 ∨ j=14 ∨ j=15 ∨ j=16:=by omega
 rcases hc with rfl | rfl | rfl | rfl | rfl | rfl | rfl | rfl | rfl | rfl | rfl | rfl | rfl | rfl | rfl | rfl | rfl <;>
 ·simp only [Int.reducePow,Nat.reduceLT,if_true,if_false,Nat.lt_irrefl]
  omega
theorem hiF_dg (n:Nat) (v:Int) (h0:0<=v) (h1:v < 256 ^ n):hiF (dg n v) n=dg (n - 16) (v / 1361129467683753853853498429727072845824):=by
 show (List.range (n - 16)).map _=(List.range (n - 16)).map _
 apply List.map_congr_left
 intro j hj
 have hj':j < n - 16:=by simpa using hj
 rw [dg_at n v (16 + j) (by omega)]
 have e1:(dg n v).getD (17 + j) 0=v / 256 ^ (16 + j) / 256 % 256:=by
  rw [div_next]
  rcases Nat.lt_or_ge (17 + j) n with h | h
  ·rw [dg_at n v _ h,show 16 + j + 1=17 + j by omega]
  ·rw [getD_ge (by rw [dg_length]; omega)]
   have:v / 256 ^ (16 + j + 1)=0:=Int.ediv_eq_zero_of_lt h0 (by rw [show 16 + j + 1=n by omega]; exact h1)
   rw [this]; rfl
 rw [e1]
 have e2:v / 1361129467683753853853498429727072845824 / 256 ^ j=v / 256 ^ (16 + j) / 4:=by
  rw [Int.ediv_ediv_of_nonneg (by omega),Int.ediv_ediv_of_nonneg (Int.pow_nonneg (by omega)),Int.pow_add]
  congr 1
  rw [show (256:Int) ^ 16=340282366920938463463374607431768211456 from rfl]
  omega
 rw [e2]
 omega
theorem fold_mod (v:Int):(v % 1361129467683753853853498429727072845824 + v / 1361129467683753853853498429727072845824 * 5) % p=v % p:=by
 refine (emod_of (k:=v / 1361129467683753853853498429727072845824) ?_).symm
 unfold p
 omega
end Go.Proofs.YtnfbkimkdnbohaaGreatDoor.Pol
namespace Go.Proofs.YtnfbkimkdnbohaaGreatDoor
open Go.RowKit
def iv (x:Int):Value:=.int .i64 x
theorem infoI:(Tryz.prog.info? 3).map (fun i=>(i.zero,i.size,i.bytes))=some (some (.int .i64 0),1,8):=by kernel_rfl
structure RdI (w:World) (A:Option Addr) (n:Nat) (l:List Int):Prop where
 len:l.length=n
 at_:0 < n->∃ b off,A=some ⟨b,off,none⟩/\b < w.heap.size/\∀ j,j < n->w.cell? ⟨b,off + j,none⟩=some (.int .i64 (l.getD j 0))
theorem RdI.below {w w':World} {A:Option Addr} {n:Nat} {l:List Int} (h:RdI w A n l) (hb:Below w.heap.size w w'):RdI w' A n l :=
 ⟨h.len,fun h0=>by
  obtain ⟨b,off,e,hlt,hc⟩:=h.at_ h0
  exact ⟨b,off,e,Nat.lt_of_lt_of_le hlt hb.size,fun j hj=>(hb.cell (p:=⟨b,off + j,none⟩) hlt).trans (hc j hj)⟩⟩
theorem RdI.drew {w:World} {A:Option Addr} {n:Nat} {l:List Int} (h:RdI w A n l):RdI w.drew A n l:=⟨h.len,h.at_⟩
theorem RdI.nil (w:World) (A:Option Addr):RdI w A 0 []:=⟨rfl,fun h=>absurd h (by omega)⟩
theorem RdI.of_block {w:World} {g n:Nat} {t:TypeId} {l:List Int} {ex:List Value} (hb:Blk w g t (l.map iv ++ ex)) (hl:l.length=n):RdI w (some ⟨g,0,none⟩) n l :=
 ⟨hl,fun _=>⟨g,0,rfl,hb.lt,fun j hj=>by
  rw [hb.cell,Nat.zero_add,List.getElem?_append_left (by simp; omega)]
  simp [iv,List.getD_eq_getElem?_getD,List.getElem?_eq_getElem (show j < l.length by omega)]⟩⟩
def OwI (w:World) (base:Nat) (v:Value) (l:List Int):Prop:=w.ownsRow base 3 1 v l.length (l.map iv)
theorem OwI.empty (w:World) (B:Nat):OwI w B (.slice none 0 0) []:=World.ownsRow_nil w B 3 1
theorem OwI.keep {w w':World} {base:Nat} {v:Value} {l:List Int} (h:OwI w base v l) (hk:Below w.heap.size w w'):OwI w' base v l:=by
 refine ⟨h.1,?_⟩
 rcases h.2 with ⟨rfl,h2⟩ | ⟨g,cap,cur,rfl,hb,hg,h3⟩
 ·exact .inl ⟨rfl,h2⟩
 ·refine .inr ⟨g,cap,cur,rfl,hb,?_,h3⟩
  rw [hk.block g ?_]
  ·exact hg
  ·rcases Nat.lt_or_ge g w.heap.size with hlt | hge
   ·exact hlt
   ·rw [Array.getElem?_eq_none hge] at hg; cases hg
theorem OwI.more {w:World} {B B':Nat} {v:Value} {l:List Int} (h:OwI w B v l) (hB:B'<=B):OwI w B' v l:=by
 refine ⟨h.1,?_⟩
 rcases h.2 with ⟨rfl,h2⟩ | ⟨g,cap,cur,rfl,hb,hg,h3⟩
 ·exact .inl ⟨rfl,h2⟩
 ·exact .inr ⟨g,cap,cur,rfl,Nat.le_trans hB hb,hg,h3⟩
theorem OwI.lit (w:World) (B:Nat) (l:List Int) (a:Array Value) (n:Nat) (ha:a=(l.map iv).toArray) (hn:l.length=n) (hm:n<=1000000) (hB:B<=w.heap.size):OwI (w.alloc (.cells a 3)) B (.slice (some ⟨w.heap.size,0,none⟩) n n) l:=by
 subst ha
 subst hn
 exact ⟨by simp,.inr ⟨w.heap.size,l.length,_,rfl,hB,heap_alloc_new w _,Nat.le_refl _,by unfold maxLen; omega,by simp,by rw [Nat.mul_one]; exact List.take_of_length_le (by simp)⟩⟩
theorem OwI.blk {w:World} {base:Nat} {v:Value} {l:List Int} (h:OwI w base v l) (h0:0 < l.length):∃ g c ex,v = .slice (some ⟨g,0,none⟩) l.length c/\base<=g/\Blk w g 3 (l.map iv ++ ex)/\ex.length=c - l.length/\l.length<=c/\c<=maxLen:=by
 rcases h.2 with ⟨rfl,hn⟩ | ⟨g,cap,cur,rfl,hb,hg,hnc,hcm,hcs,htake⟩
 ·omega
 ·have e:l.map iv ++ cur.toList.drop l.length=cur.toList:=by
   rw [<- htake,Nat.mul_one,List.take_append_drop]
  refine ⟨g,cap,cur.toList.drop l.length,rfl,hb,?_,?_,hnc,hcm⟩
  ·rw [e]
   unfold Blk
   rw [Array.toArray_toList]
   exact hg
  ·rw [List.length_drop,Array.length_toList,hcs,Nat.mul_one]
theorem OwI.of_blk {w:World} {base g c n:Nat} {l:List Int} {ex:List Value} (hb:Blk w g 3 (l.map iv ++ ex)) (hl:l.length=n) (he:ex.length=c - n) (hn:n<=c) (hc:c<=maxLen) (hg:base<=g):OwI w base (.slice (some ⟨g,0,none⟩) n c) l:=by
 subst hl
 exact ⟨by simp,.inr ⟨g,c,(l.map iv ++ ex).toArray,rfl,hg,hb,hn,hc,by simp [he]; omega,by rw [Nat.mul_one]; simp⟩⟩
theorem OwI.value {w:World} {base:Nat} {v:Value} {l:List Int} (h:OwI w base v l):∃ A c,v = .slice A l.length c/\RdI w A l.length l:=by
 rcases Nat.eq_zero_or_pos l.length with h0 | h0
 ·have hl:l=[]:=List.eq_nil_of_length_eq_zero h0
  subst hl
  rcases h.2 with ⟨rfl,_⟩ | ⟨g,cap,cur,rfl,_⟩
  ·exact ⟨_,_,rfl,RdI.nil _ _⟩
  ·exact ⟨_,_,rfl,RdI.nil _ _⟩
 ·obtain ⟨g,c,ex,rfl,hb,hB,he,hn,hc⟩:=h.blk h0
  exact ⟨_,_,rfl,RdI.of_block hB rfl⟩
theorem int_at {w:World} {g j:Nat} {t:TypeId} {l:List Int} {ex:List Value} (hB:Blk w g t (l.map iv ++ ex)) (hj:j < l.length):w.cell? ⟨g,j,none⟩=some (.int .i64 (l.getD j 0)):=by
 rw [hB.cell,List.getElem?_append_left (by simpa using hj)]
 simp [iv,List.getD_eq_getElem?_getD,List.getElem?_eq_getElem hj]
theorem int_put {w:World} {g j:Nat} {t:TypeId} {l:List Int} {ex:List Value} (hB:Blk w g t (l.map iv ++ ex)) (hj:j < l.length) (x:Int):Blk (w.setCell ⟨g,j,none⟩ (.int .i64 x)) g t ((l.set j x).map iv ++ ex):=by
 have:=hB.set_ j (iv x)
 rw [List.set_append_left _ _ (by simpa using hj),<- List.map_set] at this
 exact this
theorem run_pushI {wr:World} {B:Nat} {v:Value} {l:List Int} (y:Int) (ty:TypeId) (hown:OwI wr B v l) (hlen:l.length + 1<=1000000000) (hB:B<=wr.heap.size) :
  ∃ v' w',(Builtin.append_ #[111,111] ty #[v,.slice (some ⟨wr.heap.size,0,none⟩) 1 1]).run Tryz.prog (wr.alloc (.cells #[.int .i64 y] 3)) = .ok v' w'/\OwI w' B v' (l ++ [y])/\(wr.alloc (.cells #[.int .i64 y] 3)).grownBy w' v.ownBlock/\Lies wr v v':=by
 obtain ⟨i0,hi,hz0,hz1,hz2⟩:=info_parts infoI
 obtain ⟨v',w',hrun,h2,h3,_,h5⟩:=run_append_own_at (P:=Tryz.prog) (wr.alloc (.cells #[.int .i64 y] 3)) B 111 ty 3 i0 (.int .i64 0) 1 8 Tryz.underlying111 hi hz0 hz1 hz2 rfl (by decide) v l.length (l.map iv) (World.ownsRow.alloc hown _) ⟨wr.heap.size,0,none⟩ 1 1 [iv y] rfl
  (cell_one_new _ _ _) (fun u hu=>by simp at hu; subst hu; rfl) (by unfold maxLen; omega) (by omega) (by simp; omega)
 refine ⟨v',w',hrun,by unfold OwI; simpa using h2,h3,?_⟩
 rcases h5 with h5 | h5
 ·exact .inl h5
 ·exact .inr ⟨_,h5,by simp⟩
theorem step_pushI {ops:Array Oper} {o:Oper} {a:Act} {K:Act->World->Prop} {Q:Exit->Act->World->Prop} {E:Prop} {wr w0:World} {B:Nat} {v:Value} {l:List Int} {y:Int} (hgd:Region.wanted o (yielded ops a.tmps)=true) (s x:Operand)
  (ho:o.op = .call { callee:=.builtin .append,args:=#[s,x],argTypes:=#[111,111] }) (hs:a.eval s=v) (hx:a.eval x = .slice (some ⟨wr.heap.size,0,none⟩) 1 1) (hown:OwI wr B v l)
  (hlen:l.length + 1<=1000000000) (hB:B<=wr.heap.size) (hbel:Below B w0 wr)
  (h:∀ v' w',Hid (OwI w' B v' (l ++ [y]))->Hid (Below B w0 w')->Hid ((wr.alloc (.cells #[.int .i64 y] 3)).grownBy w' v.ownBlock)->Hid (Lies wr v v')->K (a.put o.dst v') w'):if Region.wanted o (yielded ops a.tmps)=true then o.wp Tryz.prog a (wr.alloc (.cells #[.int .i64 y] 3)) K Q else E:=by
 rw [if_pos hgd]
 obtain ⟨v',w',hrun,h2,h3,h4⟩:=run_pushI y o.type hown hlen hB
 unfold Oper.wp execOp
 simp only [ho,resolve,invoke,builtin,Sem.run_bind,Sem.run_pure,Result.andThen_ok,List.map_toArray,List.map_cons,List.map_nil,hs,hx,hrun]
 exact h v' w' h2 ((hbel.alloc hB _).grown h3 (by simp; omega) fun k hk=>(World.ownsRow.lt hown k hk).1) h3 h4
theorem pushI_law {ops:Array Oper} {rest:List Oper} {o:Oper} {a:Act} {Q:Exit->Act->World->Prop} {wr w0:World} {B:Nat} {v:Value} {l:List Int} {y:Int} (hgd:o.guard=none) (s x:Operand)
  (ho:o.op = .call { callee:=.builtin .append,args:=#[s,x],argTypes:=#[111,111] }) (hs:a.eval s=v) (hx:a.eval x = .slice (some ⟨wr.heap.size,0,none⟩) 1 1) (hown:OwI wr B v l)
  (hlen:l.length + 1<=1000000000) (hB:B<=wr.heap.size) (hbel:Below B w0 wr)
  (h:∀ v' w',Hid (OwI w' B v' (l ++ [y]))->Hid (Below B w0 w')->Hid ((wr.alloc (.cells #[.int .i64 y] 3)).grownBy w' v.ownBlock)->Hid (Lies wr v v')->wpList Tryz.prog ops Q rest (a.put o.dst v') w'):wpList Tryz.prog ops Q (o :: rest) a (wr.alloc (.cells #[.int .i64 y] 3)) :=
 wpList_step fun K hK=>step_pushI (by simp [Region.wanted,hgd]) s x ho hs hx hown hlen hB hbel (fun v' w' h2 h3 h4 h5=>hK _ _ (h v' w' h2 h3 h4 h5))
def zI (n:Nat):List Value:=(List.replicate n (0:Int)).map iv
theorem make_ints (n:Nat) (h:n<=1000000000) (W:World) :
  (Instr.makeSlice 111 (.int .i64 (n:Int)) (.int .i64 (n:Int))).run Tryz.prog W = .ok (.slice (some ⟨W.heap.size,0,none⟩) n n) (W.alloc (.cells (zI n).toArray 3)):=by
 obtain ⟨i0,hi,hz0,hz1,hz2⟩:=info_parts infoI
 have hr:=run_make (P:=Tryz.prog) W 111 3 i0 (.int .i64 0) Tryz.underlying111 hi hz0 .i64 .i64 (n:Int) (n:Int) (by omega) (by omega) (by rw [hz2]; omega) (by omega)
 rw [hz1,Int.toNat_natCast,Nat.mul_one] at hr
 rw [hr]
 congr 3
 apply Array.ext'
 show (madeCells #[.int .i64 0] n).toList=_
 rw [toList_madeCells_one]
 simp [iv,zI]
theorem OwI.lt_ {w:World} {B:Nat} {v:Value} {l:List Int} (h:OwI w B v l):∀ k,v.ownBlock=some k->B<=k/\k < w.heap.size:=World.ownsRow.lt h
theorem OwI.kept {w w':World} {B:Nat} {v:Value} {l:List Int} {row:Option Nat} (h:OwI w B v l) (hg:w.grownBy w' row) (hne:v.ownBlock=none ∨ v.ownBlock ≠ row):OwI w' B v l:=World.ownsRow.kept h hg hne
theorem OwI.alloc {w:World} {B:Nat} {v:Value} {l:List Int} (h:OwI w B v l) (o:Obj):OwI (w.alloc o) B v l:=World.ownsRow.alloc h o
theorem Apart.liesI {w:World} {B:Nat} {v v' u:Value} {l:List Int} (h:Apart u v) (hu:OwI w B u l) (hv:Lies w v v'):Apart u v':=by
 rcases hv with hv | ⟨q,hq,hge⟩
 ·unfold Apart; rw [hv]; exact h
 ·by_cases h0:u.ownBlock=none
  ·exact .inl h0
  ·obtain ⟨k,hk⟩:=Option.ne_none_iff_exists'.1 h0
   have:=(hu.lt_ k hk).2
   exact .inr (by rw [hk,hq]; intro e; injection e with e; omega)
open Go.RowKit
def RetI (w:World) (l:List Int) (e:Ending) (w':World):Prop:=∃ v,e = .returned v/\OwI w' w.heap.size v l/\Below w.heap.size w w'
def nat8 (b:UInt8):Int:=(b.toNat:Int)
theorem nat8_take (b:List UInt8) (k:Nat) (h:k < b.length):(b.take (k + 1)).map nat8=(b.take k).map nat8 ++ [((b.getD k 0).toNat:Int)]:=by
 rw [List.take_succ_eq_append_getElem h,List.map_append]
 simp [nat8,List.getD_eq_getElem?_getD,List.getElem?_eq_getElem h]
theorem rdigits_any {w:World} {A:Option Addr} {n c:Nat} {b:List UInt8} (hr:Rd w A n c b) (hn:n<=1000000) :
  Calls Tryz.prog 128 #[.slice A n c] w (RetI w (b.map nat8)):=by
 have HR:=qh hr
 have HL:=qh hr.len
 clear hr
 go_enter Tryz.func128,Tryz.ntmps128
 go_wp2_with fail
 go_loopw [3,4] (fun v i wr=>∃ k:Nat,k<=n/\i = .int .i64 k/\Hid (OwI wr w.heap.size v ((b.take k).map nat8))/\Hid (Below w.heap.size w wr)) (fun _ i _=>n - (intOf i).toNat)
 case atStart=>exact ⟨0,by omega,rfl,OwI.empty _ _,Below.refl _ _⟩
 case round =>
  obtain ⟨k,hk,rfl,OW,BW⟩:=hrel
  obtain ⟨v,hv⟩:=zx (u3)
  by_cases hlt:k < n
  ·have hlb:decide ((k:Int) < (n:Int))=true:=by simp; omega
   have hlb':decide (k < n)=true:=by simp; omega
   obtain ⟨y,hy⟩:=zx (((b.getD k 0).toNat:Int):Int)
   obtain ⟨bb,off,rfl,hblt,hc⟩:=HR.out.at_ (by omega)
   have c0:wr.cell? ⟨bb,off + k,none⟩=some (.int .u8 y):=by rw [hy,BW.out.cell (p:=⟨bb,off + k,none⟩) hblt]; exact hc k hlt
   have hy0:0<=y:=by rw [hy]; omega
   have hy1:y < 256:=by rw [hy]; have:=(b.getD k 0).toNat_lt; omega
   have HN:Hid ((b.take (k + 1)).map nat8=(b.take k).map nat8 ++ [y]):=by unfold Hid; rw [hy]; exact nat8_take b k (by rw [HL.out]; exact hlt)
   have hlen:((b.take k).map nat8).length + 1<=1000000000:=by rw [List.length_map,List.length_take]; omega
   have HLN:=qh hlen
   clear hy hc hlen hv
   go_wp2_with (first
    | (at_builtin; refine pushI_law (y:=y) rfl (.tmp 11) (.tmp 17) rfl rfl rfl OW.out HLN.out BW.out.size BW.out ?_; intro v2 w2 OW2 BW2 _ _))
   rw [<- HN.out] at OW2
   go_roundw
   case rel=>exact ⟨k + 1,by omega,by go_num,OW2,BW2⟩
   case measure=>simp [intOf]; omega
  ·obtain rfl:k=n:=by omega
   have hlb:decide ((k:Int) < (k:Int))=false:=by simp
   go_wp2_with fail
   go_ret
   refine ⟨_,rfl,?_,BW.out⟩
   have:=OW.out
   rw [List.take_of_length_le (by rw [HL.out]; omega)] at this
   exact this
theorem rzero_any {w:World} {A:Option Addr} {n c:Nat} {l:List Int} (hr:RdI w A n l) (hn:n<=1000000) :
  Calls Tryz.prog 135 #[.slice A n c] w fun e w'=>e = .returned (.bool (l.all (· == 0)))/\w=w':=by
 have HR:=qh hr
 have HL:=qh hr.len
 clear hr
 go_enter Tryz.func135,Tryz.ntmps135
 go_wp2_with fail
 go_loop [3] (fun i=>∃ k:Nat,k<=n/\i = .int .i64 k/\Hid ((l.take k).all (· == 0)=true)) (fun i=>n - (intOf i).toNat)
 case atStart=>exact ⟨0,by omega,rfl,rfl⟩
 case round =>
  obtain ⟨k,hk,rfl,HZ⟩:=hrel
  by_cases hlt:k < n
  ·have hlb:decide ((k:Int) < (n:Int))=true:=by simp; omega
   have hlb':decide (k < n)=true:=by simp; omega
   obtain ⟨y,hy⟩:=zx (l.getD k 0:Int)
   obtain ⟨bb,off,rfl,hblt,hc⟩:=HR.out.at_ (by omega)
   have c0:w.cell? ⟨bb,off + k,none⟩=some (.int .i64 y):=by rw [hy]; exact hc k hlt
   have hyk:l[k]?=some y:=by
    have hkl:k < l.length:=by rw [HL.out]; exact hlt
    rw [hy]
    simp [List.getD_eq_getElem?_getD,List.getElem?_eq_getElem hkl]
   have HYK:=qh hyk
   clear hy hc hyk
   by_cases h0:y=0
   ·subst h0
    have HZ':Hid ((l.take (k + 1)).all (· == 0)=true):=by
     unfold Hid
     rw [List.take_add_one,HYK.out,List.all_append,HZ.out]
     rfl
    go_wp2_with fail
    go_round
    case rel=>exact ⟨k + 1,by omega,by go_num,HZ'⟩
    case measure=>simp [intOf]; omega
   ·have hne:(y != 0)=true:=by simpa using h0
    have HF:Hid (l.all (· == 0)=false):=by
     unfold Hid
     rw [List.all_eq_false]
     exact ⟨y,List.mem_of_getElem? HYK.out,by simpa using h0⟩
    clear h0
    go_wp2_with fail
    go_ret
    exact ⟨by rw [HF.out]; rfl,rfl⟩
  ·obtain rfl:k=n:=by omega
   have hlb:decide ((k:Int) < (k:Int))=false:=by simp
   have HT:Hid (l.all (· == 0)=true):=by
    unfold Hid
    have:=HZ.out
    rw [List.take_of_length_le (by rw [HL.out]; omega)] at this
    exact this
   go_wp2_with fail
   go_ret
   exact ⟨by rw [HT.out]; rfl,rfl⟩
open Go.RowKit
theorem rcarry_any {w:World} {B g n c:Nat} {l:List Int} {ex:List Value} (hb:Blk w g 3 (l.map iv ++ ex)) (hl:l.length=n) (hn0:0 < n) (hn:n<=1000000) (hin:Pol.In 1099511627776 l) (hv:Pol.D l < 256 ^ n) (hB:B<=g) :
  Calls Tryz.prog 136 #[.slice (some ⟨g,0,none⟩) n c] w fun e w'=>e = .returned (.slice (some ⟨g,0,none⟩) n c)/\Blk w' g 3 ((Pol.dg n (Pol.D l)).map iv ++ ex)/\Below B w w':=by
 have HB:=qh hb
 have HL:=qh hl
 have HI:=qh hin
 have HV:=qh hv
 clear hb hl hin hv
 go_enter Tryz.func136,Tryz.ntmps136
 go_wp2_with fail
 go_loopw [3] (fun i wr=>∃ (k:Nat) (m:List Int),k + 1<=n/\i = .int .i64 k/\Hid (Pol.Car l m k)/\Hid (Blk wr g 3 (m.map iv ++ ex))/\Hid (Below B w wr)) (fun i _=>n - (intOf i).toNat)
 case atStart=>exact ⟨0,l,by omega,rfl,Pol.Car.start HI.out,HB,Below.refl _ _⟩
 case round =>
  obtain ⟨k,m,hk,rfl,CA,BM,BW⟩:=hrel
  have LM:Hid (m.length=n):=by unfold Hid; rw [CA.out.len,HL.out]
  by_cases hlt:k + 1 < n
  ·have hlb:decide ((k:Int) < (n:Int) - 1)=true:=by simp; omega
   obtain ⟨x,hx⟩:=zx (m.getD k 0)
   obtain ⟨y,hy⟩:=zx (m.getD (k + 1) 0)
   have hx0:=CA.out.at_
   rw [<- hx] at hx0
   have hy0:0<=y/\y < 1099511627776:=by rw [hy,CA.out.hi (k + 1) (by omega)]; exact Pol.in_at HI.out _ (by rw [HL.out]; exact hlt)
   have c0:wr.drew.cell? ⟨g,k,none⟩=some (.int .i64 x):=by rw [hx]; exact int_at (w:=wr) BM.out (by rw [LM.out]; omega)
   obtain ⟨j,hj⟩:=zx (k + 1)
   have c1:wr.drew.cell? ⟨g,j,none⟩=some (.int .i64 y):=by rw [hy,hj]; exact int_at (w:=wr) BM.out (by rw [LM.out]; omega)
   have f0:wr.drew.frozen? ⟨g,j,none⟩=false:=BM.out.drew.frozen _
   have hi1:(j:Int) < (n:Int):=by omega
   have hi0:(k:Int) < (n:Int):=by omega
   have HN:=qh (Pol.Car.next HI.out CA.out (by rw [HL.out]; exact hlt))
   rw [<- hx,<- hy] at HN
   clear hx hy
   go_upto_region 4 with (fail)
   clear hlb
   have D0:Hid (Blk wr.drew g 3 (m.map iv ++ ex)):=BM.out.drew
   have DW:Hid (Below B w wr.drew):=BW.out.drew
   have e1:IntKind.i64.wrap ((k:Int) + 1)=(j:Int):=by rw [IntKind.wrap_i64]; omega
   have HJ:=qh hj
   obtain ⟨z,hz⟩:=zx (x / 256)
   have hq:IntKind.i64.wrap (x.tdiv 256)=z:=by rw [Int.tdiv_eq_ediv_of_nonneg hx0.1,IntKind.wrap_i64]; omega
   obtain ⟨s,hs⟩:=zx (y + z)
   have hxy:IntKind.i64.wrap (y + z)=s:=by rw [hs,IntKind.wrap_i64]; omega
   rw [<- hz,<- hs,<- hj] at HN
   clear hj hz hs
   refine wp_region_still_tail 12 (by kernel_rfl) (by kernel_rfl) ?_
   simp only [List.take_succ_cons,List.take_zero,List.drop_succ_cons,List.drop_zero]
   have hD:({ wr with drawn:=wr.drawn + 1 }:World)=wr.drew:=rfl
   rw [hD]
   clear hD BM BW
   generalize wr.drew=w3 at *
   repeat still_step
   refine wpStill_nil ?_
   clear e1 hq hxy hi1
   go_upto_region 5 with (fail)
   have jk:j ≠ k:=by rw [HJ.out]; omega
   have B4:Hid (Blk (w3.setCell ⟨g,j,none⟩ (.int .i64 s)) g 3 ((m.set j s).map iv ++ ex)):=int_put D0.out (by rw [LM.out,HJ.out]; exact hlt) s
   have W4:Hid (Below B w (w3.setCell ⟨g,j,none⟩ (.int .i64 s))):=DW.out.setCell hB _
   have c4:(w3.setCell ⟨g,j,none⟩ (.int .i64 s)).cell? ⟨g,k,none⟩=some (.int .i64 x):=by
    rw [World.cell?_setCell_other _ _ _ _ (by intro e; injection e with _ e; exact jk e)]
    exact c0
   have f4:(w3.setCell ⟨g,j,none⟩ (.int .i64 s)).frozen? ⟨g,k,none⟩=false:=B4.out.frozen _
   clear c0 c1 f0 D0 DW
   generalize w3.setCell ⟨g,j,none⟩ (.int .i64 s)=w4 at *
   have B5:Hid (Blk (w4.setCell ⟨g,k,none⟩ (.int .i64 (x % 256))) g 3 (((m.set j s).set k (x % 256)).map iv ++ ex)):=int_put B4.out (by rw [List.length_set,LM.out]; omega) _
   have W5:Hid (Below B w (w4.setCell ⟨g,k,none⟩ (.int .i64 (x % 256)))):=W4.out.setCell hB _
   have hx1:=hx0.1
   have hx2:=hx0.2
   clear jk B4 W4
   go_wp2_with fail
   go_roundw
   case rel=>exact ⟨k + 1,_,by omega,by go_num,by unfold Hid; rw [<- HJ.out]; exact HN.out,B5,W5⟩
   case measure=>simp [intOf]; omega
  ·have hnk:(n:Int) - 1=(k:Int):=by omega
   have hi0:(k:Int) < (n:Int):=by omega
   have hpos:(0:Int) < (n:Int):=by omega
   have hgt:decide ((n:Int) > 0)=true:=by simp; omega
   obtain ⟨t,ht⟩:=zx (m.getD k 0)
   have c0:wr.cell? ⟨g,k,none⟩=some (.int .i64 t):=by rw [ht]; exact int_at BM.out (by rw [LM.out]; omega)
   have ht1:t < 256:=by rw [ht]; exact CA.out.top (by rw [HL.out]; omega) (by rw [HL.out]; exact HV.out)
   have htf:decide (t > 255)=false:=by simp; omega
   have HD:Hid (m=Pol.dg n (Pol.D l)):=by
    unfold Hid
    have:=CA.out.all (by rw [HL.out]; omega) (by rw [HL.out]; exact HV.out)
    rw [HL.out] at this
    exact this
   have BD:Hid (Blk wr g 3 ((Pol.dg n (Pol.D l)).map iv ++ ex)):=by unfold Hid; rw [<- HD.out]; exact BM.out
   clear ht
   go_wp2_with fail
   go_loop [0] (fun v=>v = .slice (some ⟨g,0,none⟩) n c) (fun _=>0)
   case atStart=>rfl
   case round =>
    obtain rfl:=hrel
    go_wp2_with fail
    go_ret
    exact ⟨rfl,BD.out,BW.out⟩
open Go.RowKit
def addC (a b:List Int) (N k:Nat):List Int:=Pol.sumTo a b k ++ List.replicate (N - k) 0
theorem sumTo_length (a b:List Int) (k:Nat):(Pol.sumTo a b k).length=k:=by simp [Pol.sumTo]
theorem addC_length (a b:List Int) (N k:Nat) (h:k<=N):(addC a b N k).length=N:=by simp [addC,sumTo_length]; omega
theorem addC_at (a b:List Int) (N k:Nat) (h:k < N):(addC a b N k).getD k 0=0:=by
 rw [addC,List.getD_eq_getElem?_getD,List.getElem?_append_right (by rw [sumTo_length]; omega),sumTo_length,Nat.sub_self,List.getElem?_replicate_of_lt (by omega)]
 rfl
theorem addC_set (a b:List Int) (N k:Nat) (h:k < N):(addC a b N k).set k (a.getD k 0 + b.getD k 0)=addC a b N (k + 1):=by
 rw [addC,List.set_append_right _ _ (by rw [sumTo_length]; omega),sumTo_length,Nat.sub_self,show N - k=(N - (k + 1)) + 1 by omega,List.replicate_succ,List.set_cons_zero,addC,Pol.sumTo_succ]
 simp
theorem addC_full (a b:List Int) (k:Nat):addC a b k k=Pol.sumTo a b k:=by simp [addC]
theorem sum_lt (a b:List Int) (na nb:Nat) (ha:a.length=na) (hb:b.length=nb) (ia:Pol.In 256 a) (ib:Pol.In 256 b):Pol.D a + Pol.D b < 256 ^ (max na nb + 1):=by
 subst ha
 subst hb
 have h1:=Pol.D_bound a ia
 have h2:=Pol.D_bound b ib
 have h3:(256:Int) ^ a.length<=256 ^ (max a.length b.length):=by
  have:=Nat.pow_le_pow_right (show 0 < 256 by omega) (Nat.le_max_left a.length b.length)
  have e1:((256 ^ a.length:Nat):Int)=(256:Int) ^ a.length:=by simp
  have e2:((256 ^ (max a.length b.length):Nat):Int)=(256:Int) ^ (max a.length b.length):=by simp
  omega
 have h4:(256:Int) ^ b.length<=256 ^ (max a.length b.length):=by
  have:=Nat.pow_le_pow_right (show 0 < 256 by omega) (Nat.le_max_right a.length b.length)
  have e1:((256 ^ b.length:Nat):Int)=(256:Int) ^ b.length:=by simp
  have e2:((256 ^ (max a.length b.length):Nat):Int)=(256:Int) ^ (max a.length b.length):=by simp
  omega
 rw [Int.pow_succ]
 have:=Pol.pow_pos (max a.length b.length)
 omega
theorem rplus_any {w:World} {A A':Option Addr} {na ca nb cb:Nat} {a b:List Int} (hra:RdI w A na a) (hrb:RdI w A' nb b) (ia:Pol.In 256 a) (ib:Pol.In 256 b) (hna:na<=1000) (hnb:nb<=1000) :
  Calls Tryz.prog 131 #[.slice A na ca,.slice A' nb cb] w (RetI w (Pol.dg (max na nb + 1) (Pol.D a + Pol.D b))):=by
 obtain ⟨M,hM⟩:=zx (max na nb)
 obtain ⟨N,hN⟩:=zx (M + 1)
 have hmx:(if (na:Int) < (nb:Int) then (nb:Int) else (na:Int))=(M:Int):=by split <;> omega
 have hmx2:(if na < nb then (nb:Int) else (na:Int))=(M:Int):=by split <;> omega
 have hNN:(M:Int) + 1=(N:Int):=by omega
 have hN1000:N<=1001:=by omega
 have hN0:0 < N:=by omega
 have hnaN:na < N:=by omega
 have hnbN:nb < N:=by omega
 have HA:=qh hra
 have HB:=qh hrb
 have IA:=qh ia
 have IB:=qh ib
 have HLT:Hid (Pol.D a + Pol.D b < 256 ^ N):=by unfold Hid; rw [hN,hM]; exact sum_lt a b na nb hra.len hrb.len ia ib
 have HRES:Hid (Pol.dg (max na nb + 1) (Pol.D a + Pol.D b)=Pol.dg N (Pol.D a + Pol.D b)):=by unfold Hid; rw [hN,hM]
 have hmk:=fun W=>make_ints N (by omega) W
 clear hra hrb ia ib hM hN
 go_enter Tryz.func131,Tryz.ntmps131
 go_upto_region 2 with (fail)
 clear hmk hmx hmx2 hNN
 obtain ⟨w0,hw0⟩:=zx (w.alloc (.cells (zI N).toArray 3))
 have B0:Hid (Blk w0 w.heap.size 3 ((addC a b N 0).map iv ++ [])):=by unfold Hid; rw [hw0,List.append_nil]; exact Blk.new w _ _
 have W0:Hid (Below w.heap.size w w0):=by unfold Hid; rw [hw0]; exact (Below.refl _ _).alloc (Nat.le_refl _) _
 change Code.wp _ _ _ _ (w.alloc (.cells (zI N).toArray 3))
 rw [<- hw0]
 obtain ⟨g,hg⟩:=zx (w.heap.size)
 rw [<- hg] at B0
 rw [<- hg]
 have hgw:w.heap.size<=g:=by omega
 clear hw0 hg
 go_wp2_with fail
 go_loopw [6] (fun i wr=>∃ k:Nat,k<=N/\i = .int .i64 k/\Hid (Blk wr g 3 ((addC a b N k).map iv ++ []))/\Hid (Below w.heap.size w wr)) (fun i _=>N - (intOf i).toNat)
 case atStart=>exact ⟨0,by omega,rfl,B0,W0⟩
 case round =>
  clear B0 W0
  obtain ⟨k,hk,rfl,Bwr,Wwr⟩:=hrel
  by_cases hlt:k < N
  ·have hlb:decide ((k:Int) < (N:Int))=true:=by simp; omega
   have hlb':decide (k < N)=true:=by simp; omega
   have hkN:(k:Int) < (N:Int):=by omega
   have hc0:wr.cell? ⟨g,k,none⟩=some (.int .i64 0):=by rw [int_at Bwr.out (by rw [addC_length a b N k hk]; exact hlt),addC_at a b N k hlt]
   have LS:Hid ((addC a b N k).length=N):=addC_length a b N k hk
   have HSET:=qh (addC_set a b N k hlt)
   obtain ⟨s,hs⟩:=zx (addC a b N k)
   rw [<- hs] at Bwr LS HSET
   clear hs
   by_cases ha:k < na
   ·by_cases hb:k < nb
    ·obtain ⟨ba,oa,rfl,hba,hca⟩:=HA.out.at_ (by omega)
     obtain ⟨va,hva⟩:=zx (a.getD k 0)
     have bda:=Pol.in_at IA.out k (by rw [HA.out.len]; exact ha)
     rw [<- hva] at bda
     have cva:w.cell? ⟨ba,oa + k,none⟩=some (.int .i64 va):=by rw [hva]; exact hca k ha
     have CVa:=qh cva
     have HVa:=qh hva
     have HBLTa:=qh hba
     have hai:(k:Int) < (na:Int):=by omega
     have had:decide ((k:Int) < (na:Int))=true:=by simp; omega
     clear hva hca cva hba
     obtain ⟨bb,ob,rfl,hbb,hcb⟩:=HB.out.at_ (by omega)
     obtain ⟨vb,hvb⟩:=zx (b.getD k 0)
     have bdb:=Pol.in_at IB.out k (by rw [HB.out.len]; exact hb)
     rw [<- hvb] at bdb
     have cvb:w.cell? ⟨bb,ob + k,none⟩=some (.int .i64 vb):=by rw [hvb]; exact hcb k hb
     have CVb:=qh cvb
     have HVb:=qh hvb
     have HBLTb:=qh hbb
     have hbi:(k:Int) < (nb:Int):=by omega
     have hbd:decide ((k:Int) < (nb:Int))=true:=by simp; omega
     clear hvb hcb cvb hbb
     have e1:IntKind.i64.wrap (0 + va)=va:=by rw [IntKind.wrap_i64]; omega
     obtain ⟨z,hz⟩:=zx (va + vb)
     have e2:IntKind.i64.wrap (va + vb)=z:=by rw [hz,IntKind.wrap_i64]; omega
     have HZ:Hid (a.getD k 0 + b.getD k 0=z):=by unfold Hid; rw [hz,HVa.out,HVb.out]
     clear hz
     have Aw3:Hid (wr.drew.cell? ⟨ba,oa + k,none⟩=some (.int .i64 va)):=by unfold Hid; exact (Wwr.out.cell (p:=⟨ba,oa + k,none⟩) HBLTa.out).trans CVa.out
     go_upto_region 6 with (fail)
     have Dw3:Hid (Blk wr.drew g 3 (s.map iv ++ [])):=Bwr.out.drew
     have DWw3:Hid (Below w.heap.size w wr.drew):=Wwr.out.drew
     have cw3:wr.drew.cell? ⟨g,k,none⟩=some (.int .i64 0):=hc0
     have dw3:wr.drew.cell? ⟨ba,oa + k,none⟩=some (.int .i64 va):=Aw3.out
     have fw3:wr.drew.frozen? ⟨g,k,none⟩=false:=Bwr.out.drew.frozen _
     refine wp_region_still_tail 10 (by kernel_rfl) (by kernel_rfl) ?_
     simp only [List.take_succ_cons,List.take_zero,List.drop_succ_cons,List.drop_zero]
     have hDw3:({ wr with drawn:=wr.drawn + 1 }:World)=wr.drew:=rfl
     rw [hDw3]
     clear hDw3 Bwr Wwr hc0
     generalize wr.drew=w3 at *
     repeat still_step
     refine wpStill_nil ?_
     go_upto_region 8 with (fail)
     clear dw3 Aw3
     have Bw4:Hid (Blk (w3.setCell ⟨g,k,none⟩ (.int .i64 va)) g 3 ((s.set k va).map iv ++ [])):=int_put Dw3.out (by rw [LS.out]; exact hlt) va
     have Ww4:Hid (Below w.heap.size w (w3.setCell ⟨g,k,none⟩ (.int .i64 va))):=DWw3.out.setCell hgw _
     have ew4:(w3.setCell ⟨g,k,none⟩ (.int .i64 va)).cell? ⟨g,k,none⟩=some (.int .i64 va):=by
      rw [int_at Bw4.out (by rw [List.length_set,LS.out]; exact hlt),List.getD_eq_getElem?_getD,List.getElem?_set_self (by rw [LS.out]; exact hlt)]
      rfl
     clear cw3 fw3 Dw3 DWw3
     generalize w3.setCell ⟨g,k,none⟩ (.int .i64 va)=w4 at *
     have Aw5:Hid (w4.drew.cell? ⟨bb,ob + k,none⟩=some (.int .i64 vb)):=by unfold Hid; exact (Ww4.out.cell (p:=⟨bb,ob + k,none⟩) HBLTb.out).trans CVb.out
     have Dw5:Hid (Blk w4.drew g 3 ((s.set k va).map iv ++ [])):=Bw4.out.drew
     have DWw5:Hid (Below w.heap.size w w4.drew):=Ww4.out.drew
     have cw5:w4.drew.cell? ⟨g,k,none⟩=some (.int .i64 va):=ew4
     have dw5:w4.drew.cell? ⟨bb,ob + k,none⟩=some (.int .i64 vb):=Aw5.out
     have fw5:w4.drew.frozen? ⟨g,k,none⟩=false:=Bw4.out.drew.frozen _
     refine wp_region_still_tail 10 (by kernel_rfl) (by kernel_rfl) ?_
     simp only [List.take_succ_cons,List.take_zero,List.drop_succ_cons,List.drop_zero]
     have hDw5:({ w4 with drawn:=w4.drawn + 1 }:World)=w4.drew:=rfl
     rw [hDw5]
     clear hDw5 Bw4 Ww4 ew4
     generalize w4.drew=w5 at *
     repeat still_step
     refine wpStill_nil ?_
     have BF:Hid (Blk (w5.setCell ⟨g,k,none⟩ (.int .i64 z)) g 3 ((addC a b N (k + 1)).map iv ++ [])):=by
      unfold Hid
      have:=int_put Dw5.out (j:=k) (by rw [List.length_set,LS.out]; exact hlt) z
      rw [List.set_set,<- HZ.out,HSET.out] at this
      rw [<- HZ.out]
      exact this
     have WF:Hid (Below w.heap.size w (w5.setCell ⟨g,k,none⟩ (.int .i64 z))):=DWw5.out.setCell hgw _
     clear dw5 Aw5
     go_wp2_with fail
     go_roundw
     case rel=>exact ⟨k + 1,by omega,by go_num,BF,WF⟩
     case measure=>simp [intOf]; omega
    ·obtain ⟨ba,oa,rfl,hba,hca⟩:=HA.out.at_ (by omega)
     obtain ⟨va,hva⟩:=zx (a.getD k 0)
     have bda:=Pol.in_at IA.out k (by rw [HA.out.len]; exact ha)
     rw [<- hva] at bda
     have cva:w.cell? ⟨ba,oa + k,none⟩=some (.int .i64 va):=by rw [hva]; exact hca k ha
     have CVa:=qh cva
     have HVa:=qh hva
     have HBLTa:=qh hba
     have hai:(k:Int) < (na:Int):=by omega
     have had:decide ((k:Int) < (na:Int))=true:=by simp; omega
     clear hva hca cva hba
     have hvb:b.getD k 0=0:=Pol.getD_ge (by rw [HB.out.len]; omega)
     have HVb:=qh hvb
     have hbd:decide ((k:Int) < (nb:Int))=false:=by simp; omega
     clear hvb
     have e1:IntKind.i64.wrap (0 + va)=va:=by rw [IntKind.wrap_i64]; omega
     have HZ:Hid (a.getD k 0 + b.getD k 0=va):=by unfold Hid; rw [HVb.out,<- HVa.out]; omega
     have Aw3:Hid (wr.drew.cell? ⟨ba,oa + k,none⟩=some (.int .i64 va)):=by unfold Hid; exact (Wwr.out.cell (p:=⟨ba,oa + k,none⟩) HBLTa.out).trans CVa.out
     go_upto_region 6 with (fail)
     have Dw3:Hid (Blk wr.drew g 3 (s.map iv ++ [])):=Bwr.out.drew
     have DWw3:Hid (Below w.heap.size w wr.drew):=Wwr.out.drew
     have cw3:wr.drew.cell? ⟨g,k,none⟩=some (.int .i64 0):=hc0
     have dw3:wr.drew.cell? ⟨ba,oa + k,none⟩=some (.int .i64 va):=Aw3.out
     have fw3:wr.drew.frozen? ⟨g,k,none⟩=false:=Bwr.out.drew.frozen _
     refine wp_region_still_tail 10 (by kernel_rfl) (by kernel_rfl) ?_
     simp only [List.take_succ_cons,List.take_zero,List.drop_succ_cons,List.drop_zero]
     have hDw3:({ wr with drawn:=wr.drawn + 1 }:World)=wr.drew:=rfl
     rw [hDw3]
     clear hDw3 Bwr Wwr hc0
     generalize wr.drew=w3 at *
     repeat still_step
     refine wpStill_nil ?_
     have BF:Hid (Blk (w3.setCell ⟨g,k,none⟩ (.int .i64 va)) g 3 ((addC a b N (k + 1)).map iv ++ [])):=by
      unfold Hid
      have:=int_put Dw3.out (j:=k) (by rw [LS.out]; exact hlt) va
      rw [<- HZ.out,HSET.out] at this
      rw [<- HZ.out]
      exact this
     have WF:Hid (Below w.heap.size w (w3.setCell ⟨g,k,none⟩ (.int .i64 va))):=DWw3.out.setCell hgw _
     clear dw3 Aw3
     go_wp2_with fail
     go_roundw
     case rel=>exact ⟨k + 1,by omega,by go_num,BF,WF⟩
     case measure=>simp [intOf]; omega
   ·by_cases hb:k < nb
    ·obtain ⟨bb,ob,rfl,hbb,hcb⟩:=HB.out.at_ (by omega)
     obtain ⟨vb,hvb⟩:=zx (b.getD k 0)
     have bdb:=Pol.in_at IB.out k (by rw [HB.out.len]; exact hb)
     rw [<- hvb] at bdb
     have cvb:w.cell? ⟨bb,ob + k,none⟩=some (.int .i64 vb):=by rw [hvb]; exact hcb k hb
     have CVb:=qh cvb
     have HVb:=qh hvb
     have HBLTb:=qh hbb
     have hbi:(k:Int) < (nb:Int):=by omega
     have hbd:decide ((k:Int) < (nb:Int))=true:=by simp; omega
     clear hvb hcb cvb hbb
     have hva:a.getD k 0=0:=Pol.getD_ge (by rw [HA.out.len]; omega)
     have HVa:=qh hva
     have had:decide ((k:Int) < (na:Int))=false:=by simp; omega
     clear hva
     have e1:IntKind.i64.wrap (0 + vb)=vb:=by rw [IntKind.wrap_i64]; omega
     have HZ:Hid (a.getD k 0 + b.getD k 0=vb):=by unfold Hid; rw [HVa.out,<- HVb.out]; omega
     have Aw3:Hid (wr.drew.cell? ⟨bb,ob + k,none⟩=some (.int .i64 vb)):=by unfold Hid; exact (Wwr.out.cell (p:=⟨bb,ob + k,none⟩) HBLTb.out).trans CVb.out
     go_upto_region 8 with (fail)
     have Dw3:Hid (Blk wr.drew g 3 (s.map iv ++ [])):=Bwr.out.drew
     have DWw3:Hid (Below w.heap.size w wr.drew):=Wwr.out.drew
     have cw3:wr.drew.cell? ⟨g,k,none⟩=some (.int .i64 0):=hc0
     have dw3:wr.drew.cell? ⟨bb,ob + k,none⟩=some (.int .i64 vb):=Aw3.out
     have fw3:wr.drew.frozen? ⟨g,k,none⟩=false:=Bwr.out.drew.frozen _
     refine wp_region_still_tail 10 (by kernel_rfl) (by kernel_rfl) ?_
     simp only [List.take_succ_cons,List.take_zero,List.drop_succ_cons,List.drop_zero]
     have hDw3:({ wr with drawn:=wr.drawn + 1 }:World)=wr.drew:=rfl
     rw [hDw3]
     clear hDw3 Bwr Wwr hc0
     generalize wr.drew=w3 at *
     repeat still_step
     refine wpStill_nil ?_
     have BF:Hid (Blk (w3.setCell ⟨g,k,none⟩ (.int .i64 vb)) g 3 ((addC a b N (k + 1)).map iv ++ [])):=by
      unfold Hid
      have:=int_put Dw3.out (j:=k) (by rw [LS.out]; exact hlt) vb
      rw [<- HZ.out,HSET.out] at this
      rw [<- HZ.out]
      exact this
     have WF:Hid (Below w.heap.size w (w3.setCell ⟨g,k,none⟩ (.int .i64 vb))):=DWw3.out.setCell hgw _
     clear dw3 Aw3
     go_wp2_with fail
     go_roundw
     case rel=>exact ⟨k + 1,by omega,by go_num,BF,WF⟩
     case measure=>simp [intOf]; omega
    ·have hva:a.getD k 0=0:=Pol.getD_ge (by rw [HA.out.len]; omega)
     have HVa:=qh hva
     have had:decide ((k:Int) < (na:Int))=false:=by simp; omega
     clear hva
     have hvb:b.getD k 0=0:=Pol.getD_ge (by rw [HB.out.len]; omega)
     have HVb:=qh hvb
     have hbd:decide ((k:Int) < (nb:Int))=false:=by simp; omega
     clear hvb
     have BF:Hid (Blk wr g 3 ((addC a b N (k + 1)).map iv ++ [])):=by
      unfold Hid
      have h1:=HSET.out
      rw [HVa.out,HVb.out] at h1
      have h2:=int_at Bwr.out (j:=k) (by rw [LS.out]; exact hlt)
      rw [hc0] at h2
      have h3:s.getD k 0=0:=by simpa using h2.symm
      have h4:s.set k (0 + 0)=s:=by
       have hk2:k < s.length:=by rw [LS.out]; exact hlt
       have h5:s[k]=0:=by simpa [List.getD_eq_getElem?_getD,List.getElem?_eq_getElem hk2] using h3
       rw [show (0:Int) + 0=s[k] by rw [h5]; rfl,List.set_getElem_self]
      rw [<- h1,h4]
      exact Bwr.out
     have WF:=Wwr
     go_wp2_with fail
     go_roundw
     case rel=>exact ⟨k + 1,by omega,by go_num,BF,WF⟩
     case measure=>simp [intOf]; omega
  ·obtain rfl:k=N:=by omega
   have hlb:decide ((k:Int) < (k:Int))=false:=by simp
   have BS:Hid (Blk wr g 3 ((Pol.sumTo a b k).map iv ++ [])):=by
    have:=Bwr.out
    rw [addC_full] at this
    exact this
   have hDS:Pol.D (Pol.sumTo a b k)=Pol.D a + Pol.D b:=by rw [Pol.sumTo_D,List.take_of_length_le (by rw [HA.out.len]; omega),List.take_of_length_le (by rw [HB.out.len]; omega)]
   have hcar:=rcarry_any (c:=k) (B:=w.heap.size) BS.out (sumTo_length a b k) hN0 (by omega) (Pol.in_mono (Pol.sumTo_in a b k IA.out IB.out) (by omega)) (by rw [hDS]; exact HLT.out) hgw
   rw [hDS] at hcar
   have HC:=qh hcar
   clear hDS hcar
   go_wp2_with fail
   refine HC.out.mono ?_
   rintro e w2 ⟨rfl,hB2,hX⟩
   have B2:=qh hB2
   have W2:=qh (Wwr.out.trans hX)
   clear hB2 hX
   go_wp2_with fail
   go_ret
   exact ⟨_,rfl,by rw [HRES.out]; exact OwI.of_blk B2.out (Pol.dg_length _ _) (by simp) (Nat.le_refl _) (by unfold maxLen; omega) hgw,W2.out⟩
open Go.RowKit
theorem dg_zero (n:Nat):Pol.dg n 0=List.replicate n 0:=by
 apply List.ext_getElem
 ·simp [Pol.dg]
 ·intro i h1 h2
  simp [Pol.dg]
theorem powmono {m n:Nat} (h:m<=n):(256:Int) ^ m<=256 ^ n:=by
 have h1:=Nat.pow_le_pow_right (show 0 < 256 by omega) h
 have e1:((256 ^ m:Nat):Int)=(256:Int) ^ m:=by simp
 have e2:((256 ^ n:Nat):Int)=(256:Int) ^ n:=by simp
 omega
theorem in_take {m:Int} {l:List Int} (h:Pol.In m l) (k:Nat):Pol.In m (l.take k):=fun x hx=>h x (List.mem_of_mem_take hx)
theorem prod_lt (a b:List Int) (i N:Nat) (ia:Pol.In 256 a) (ib:Pol.In 256 b) (hN:i + b.length<=N) (hi:i<=a.length):0<=Pol.D (a.take i) * Pol.D b/\Pol.D (a.take i) * Pol.D b < 256 ^ N:=by
 have h1:=Pol.D_bound (a.take i) (in_take ia i)
 have h2:=Pol.D_bound b ib
 rw [List.length_take,Nat.min_eq_left hi] at h1
 refine ⟨Int.mul_nonneg h1.1 h2.1,?_⟩
 have h3:Pol.D (a.take i) * Pol.D b<=Pol.D (a.take i) * 256 ^ b.length:=Int.mul_le_mul_of_nonneg_left (by omega) h1.1
 have h4:Pol.D (a.take i) * 256 ^ b.length < 256 ^ i * 256 ^ b.length:=Int.mul_lt_mul_of_pos_right h1.2 (Pol.pow_pos _)
 have h5:=powmono hN
 rw [Int.pow_add] at h5
 omega
theorem row_end {s a b m:List Int} {x:Int} {i k:Nat} (hr:Pol.Row s b x i k m) (hk:b.length<=k) (hs:Pol.D s=Pol.D (a.take i) * Pol.D b) (hx:x=a.getD i 0):Pol.D m=Pol.D (a.take (i + 1)) * Pol.D b:=by
 have e:b.take k=b:=List.take_of_length_le hk
 have h:=hr.val
 rw [hs,e,hx] at h
 rw [h,Pol.D_take' a i]
 generalize Pol.D (a.take i)=u
 generalize Pol.D b=v
 generalize a.getD i 0=t
 generalize (256:Int) ^ i=q
 clear h hr
 grind
theorem rtimes_any {w:World} {A A':Option Addr} {na ca nb cb:Nat} {a b:List Int} (hra:RdI w A na a) (hrb:RdI w A' nb b) (ia:Pol.In 256 a) (ib:Pol.In 256 b) (hna:na<=500) (hnb:nb<=500) :
  Calls Tryz.prog 130 #[.slice A na ca,.slice A' nb cb] w (RetI w (Pol.dg (na + nb) (Pol.D a * Pol.D b))):=by
 obtain ⟨N,hN⟩:=zx (na + nb)
 have hNN:(na:Int) + (nb:Int)=(N:Int):=by omega
 have hN1000:N<=1000:=by omega
 have HNE:=qh hN
 have HA:=qh hra
 have HB:=qh hrb
 have IA:=qh ia
 have IB:=qh ib
 have HRES:Hid (Pol.dg (na + nb) (Pol.D a * Pol.D b)=Pol.dg N (Pol.D (a.take na) * Pol.D b)):=by unfold Hid; rw [hN,List.take_of_length_le (by rw [hra.len]; omega)]
 have HLT:Hid (∀ i,i<=na->0<=Pol.D (a.take i) * Pol.D b/\Pol.D (a.take i) * Pol.D b < 256 ^ N):=fun i hi=>prod_lt a b i N ia ib (by rw [hrb.len]; omega) (by rw [hra.len]; exact hi)
 have hmk:=fun W=>make_ints N (by omega) W
 clear hra hrb ia ib hN
 go_enter Tryz.func130,Tryz.ntmps130
 go_upto_region 2 with (fail)
 clear hmk hNN
 obtain ⟨w0,hw0⟩:=zx (w.alloc (.cells (zI N).toArray 3))
 have B0:Hid (Blk w0 w.heap.size 3 ((Pol.dg N (Pol.D (a.take 0) * Pol.D b)).map iv ++ [])):=by
  unfold Hid
  rw [hw0,List.append_nil,List.take_zero,Pol.D,Int.zero_mul,dg_zero]
  exact Blk.new w _ _
 have W0:Hid (Below w.heap.size w w0):=by unfold Hid; rw [hw0]; exact (Below.refl _ _).alloc (Nat.le_refl _) _
 change Code.wp _ _ _ _ (w.alloc (.cells (zI N).toArray 3))
 rw [<- hw0]
 obtain ⟨g,hg⟩:=zx (w.heap.size)
 rw [<- hg] at B0
 rw [<- hg]
 have hgw:w.heap.size<=g:=by omega
 clear hw0 hg
 go_wp2_with fail
 go_loopw [5,6] (fun v i wr=>∃ k:Nat,k<=na/\v = .slice (some ⟨g,0,none⟩) N N/\i = .int .i64 k/\Hid (Blk wr g 3 ((Pol.dg N (Pol.D (a.take k) * Pol.D b)).map iv ++ []))/\Hid (Below w.heap.size w wr)) (fun _ i _=>na - (intOf i).toNat)
 case atStart=>exact ⟨0,by omega,rfl,rfl,B0,W0⟩
 case round =>
  clear B0 W0
  obtain ⟨i,hi,rfl,rfl,BS,BW⟩:=hrel
  by_cases hlt:i < na
  ·have hlb:decide ((i:Int) < (na:Int))=true:=by simp; omega
   have hlb':decide (i < na)=true:=by simp; omega
   have hii:(i:Int) < (na:Int):=by omega
   obtain ⟨s,hs⟩:=zx (Pol.dg N (Pol.D (a.take i) * Pol.D b))
   rw [<- hs] at BS
   have LS:Hid (s.length=N):=by unfold Hid; rw [hs,Pol.dg_length]
   have IS:Hid (Pol.In 256 s):=by unfold Hid; rw [hs]; exact Pol.dg_in _ _
   have DS:Hid (Pol.D s=Pol.D (a.take i) * Pol.D b):=by unfold Hid; rw [hs]; exact Pol.D_dg N _ (HLT.out i hi).1 (HLT.out i hi).2
   obtain ⟨ba,oa,rfl,hba,hca⟩:=HA.out.at_ (by omega)
   obtain ⟨x,hx⟩:=zx (a.getD i 0)
   have hxb:=Pol.in_at IA.out i (by rw [HA.out.len]; exact hlt)
   rw [<- hx] at hxb
   have hcx:w.cell? ⟨ba,oa + i,none⟩=some (.int .i64 x):=by rw [hx]; exact hca i hlt
   have CX:=qh hcx
   have HX:=qh hx
   have HBA:=qh hba
   clear hs hcx hx hba hca
   go_wp2_with fail
   clear hlb hlb'
   obtain ⟨wo,rfl⟩:=zx (wr)
   go_loopw [7] (fun j wr=>∃ (k:Nat) (m:List Int),k<=nb/\j = .int .i64 k/\Hid (Pol.Row s b x i k m)/\Hid (Blk wr g 3 (m.map iv ++ []))/\Hid (Below w.heap.size w wr)) (fun j _=>nb - (intOf j).toNat)
   case atStart=>exact ⟨0,s,by omega,rfl,Pol.Row.start IS.out,BS,BW⟩
   case round =>
    clear BS BW
    obtain ⟨k,m,hk,rfl,RW,BM,BW⟩:=hrel
    have LM:Hid (m.length=N):=by unfold Hid; rw [RW.out.len,LS.out]
    by_cases hltk:k < nb
    ·have hlb:decide ((k:Int) < (nb:Int))=true:=by simp; omega
     have hlb':decide (k < nb)=true:=by simp; omega
     have hkk:(k:Int) < (nb:Int):=by omega
     obtain ⟨j,hj⟩:=zx (i + k)
     have hjN:j < N:=by rw [hj,HNE.out]; omega
     have hji:(j:Int) < (N:Int):=by omega
     have ej:IntKind.i64.wrap ((i:Int) + (k:Int))=(j:Int):=by rw [IntKind.wrap_i64]; omega
     obtain ⟨bb,ob,rfl,hbb,hcb⟩:=HB.out.at_ (by omega)
     obtain ⟨z,hz⟩:=zx (b.getD k 0)
     have hzb:=Pol.in_at IB.out k (by rw [HB.out.len]; exact hltk)
     rw [<- hz] at hzb
     obtain ⟨y,hy⟩:=zx (m.getD j 0)
     have hyb:=RW.out.bd j
     rw [<- hy] at hyb
     have hpb:=Pol.prod_bd2 hxb hzb
     obtain ⟨p,hp⟩:=zx (x * z)
     rw [<- hp] at hpb
     have ep:IntKind.i64.wrap (x * z)=p:=by rw [<- hp,IntKind.wrap_i64]; omega
     obtain ⟨q,hq⟩:=zx (y + p)
     have eq:IntKind.i64.wrap (y + p)=q:=by rw [hq,IntKind.wrap_i64]; omega
     have HN:=qh (Pol.Row.next hxb IB.out RW.out (by rw [HB.out.len]; exact hltk) (by rw [LS.out,<- hj]; exact hjN))
     rw [<- hj,<- hz,<- hy,<- hp,<- hq] at HN
     have c0:wr.drew.cell? ⟨g,j,none⟩=some (.int .i64 y):=by rw [hy]; exact int_at (w:=wr) BM.out (by rw [LM.out]; exact hjN)
     have c1:wr.drew.cell? ⟨ba,oa + i,none⟩=some (.int .i64 x):=(BW.out.cell (p:=⟨ba,oa + i,none⟩) HBA.out).trans CX.out
     have c2:wr.drew.cell? ⟨bb,ob + k,none⟩=some (.int .i64 z):=(BW.out.cell (p:=⟨bb,ob + k,none⟩) hbb).trans (by rw [hz]; exact hcb k hltk)
     have f0:wr.drew.frozen? ⟨g,j,none⟩=false:=BM.out.drew.frozen _
     clear hj hz hy hp hq hcb hyb hpb
     go_upto_region 8 with (fail)
     have D0:Hid (Blk wr.drew g 3 (m.map iv ++ [])):=BM.out.drew
     have DW:Hid (Below w.heap.size w wr.drew):=BW.out.drew
     refine wp_region_still_tail 17 (by kernel_rfl) (by kernel_rfl) ?_
     simp only [List.take_succ_cons,List.take_zero,List.drop_succ_cons,List.drop_zero]
     have hD:({ wr with drawn:=wr.drawn + 1 }:World)=wr.drew:=rfl
     rw [hD]
     clear hD BM BW hlb hlb'
     generalize wr.drew=w3 at *
     repeat still_step
     refine wpStill_nil ?_
     have B4:Hid (Blk (w3.setCell ⟨g,j,none⟩ (.int .i64 q)) g 3 ((m.set j q).map iv ++ [])):=int_put D0.out (by rw [LM.out]; exact hjN) q
     have W4:Hid (Below w.heap.size w (w3.setCell ⟨g,j,none⟩ (.int .i64 q))):=DW.out.setCell hgw _
     clear c1 c2 ej ep eq
     go_wp2_with fail
     go_roundw
     case rel=>exact ⟨k + 1,_,by omega,by go_num,HN,B4,W4⟩
     case measure=>simp [intOf]; omega
    ·obtain rfl:k=nb:=by omega
     have hlb:decide ((k:Int) < (k:Int))=false:=by simp
     have hDM:Pol.D m=Pol.D (a.take (i + 1)) * Pol.D b:=row_end RW.out (by rw [HB.out.len]; omega) DS.out HX.out
     have hIM:Pol.In 1099511627776 m:=Pol.in_of fun j hj=>by have:=RW.out.bd j; omega
     have hcar:=rcarry_any (c:=N) (B:=w.heap.size) BM.out LM.out (by rw [HNE.out]; omega) (by omega) hIM (by rw [hDM]; exact (HLT.out (i + 1) (by omega)).2) hgw
     rw [hDM] at hcar
     have HC:=qh hcar
     clear hDM hIM hcar
     go_wp2_with fail
     refine HC.out.mono ?_
     rintro e w2 ⟨rfl,hB2,hX⟩
     have B2:=qh hB2
     have W2:=qh (BW.out.trans hX)
     clear hB2 hX
     go_wp2_with fail
     go_roundw
     case rel=>exact ⟨i + 1,by omega,rfl,by go_num,B2,W2⟩
     case measure=>simp [intOf]; omega
  ·obtain rfl:i=na:=by omega
   have hlb:decide ((i:Int) < (i:Int))=false:=by simp
   go_wp2_with fail
   go_ret
   exact ⟨_,rfl,by rw [HRES.out]; exact OwI.of_blk BS.out (Pol.dg_length _ _) (by simp) (Nat.le_refl _) (by unfold maxLen; omega) hgw,BW.out⟩
end Go.Proofs.YtnfbkimkdnbohaaGreatDoor
