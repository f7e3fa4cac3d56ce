import Derived.StillTailTactics
import Derived.Test.YtajgjeialbgijaaDoorSPhase
import Derived.Test.YtajgjeialbgijaaDoorSGpol
import Derived.Test.YtajgjeialbgijaaDoorSGrow
namespace Go.Proofs.YtajgjeialbgijaaDoor.Pol
set_option linter.unusedVariables false
set_option linter.unusedSimpArgs false
set_option maxRecDepth 100000
def D:List Int->Int
 | []=>0
 | x :: l=>x + 256 * D l
def dg (n:Nat) (v:Int):List Int:=(List.range n).map fun j=>v / 256 ^ j % 256
theorem pow_pos (n:Nat):(0:Int) < 256 ^ n:=Int.pow_pos (by omega)
theorem D_append:∀ l m:List Int,D (l ++ m)=D l + 256 ^ l.length * D m
 | [],m=>by simp [D]
 | b :: l,m=>by
  simp only [List.cons_append,D,D_append l m,List.length_cons,Int.pow_succ]
  grind
theorem D_take (l:List Int) (k:Nat) (h:k < l.length):D (l.take (k + 1))=D (l.take k) + 256 ^ k * l.getD k 0:=by
 rw [List.take_succ_eq_append_getElem h,D_append,List.length_take,Nat.min_eq_left (by omega)]
 simp [D,List.getD_eq_getElem?_getD,List.getElem?_eq_getElem h]
theorem D_set:∀ (l:List Int) (j:Nat) (x:Int),j < l.length->D (l.set j x)=D l + 256 ^ j * (x - l.getD j 0)
 | [],_,_,h=>by simp at h
 | y :: l,0,x,_=>by simp [D]; omega
 | y :: l,j + 1,x,h=>by
  have:=D_set l j x (by simpa using h)
  simp only [List.set_cons_succ,D,this,List.getD_cons_succ,Int.pow_succ]
  grind
theorem D_nonneg:∀ (m:Int) (l:List Int),In m l->0<=D l
 | _,[],_=>by simp [D]
 | m,x :: l,h=>by
  have ih:=D_nonneg m l (fun y hy=>h y (by simp [hy]))
  have hx:=h x (by simp)
  simp only [D]
  omega
theorem dg_succ (n:Nat) (v:Int):dg (n + 1) v=v % 256 :: dg n (v / 256):=by
 unfold dg
 rw [List.range_succ_eq_map,List.map_cons,List.map_map]
 congr 1
 ·simp
 ·apply List.map_congr_left
  intro j _
  show v / 256 ^ (j + 1) % 256=v / 256 / 256 ^ j % 256
  rw [Int.ediv_ediv_of_nonneg (show (0:Int)<=256 by omega),Int.pow_succ,Int.mul_comm]
theorem dg_D:∀ l:List Int,In 256 l->dg l.length (D l)=l
 | [],_=>rfl
 | x :: l,h=>by
  have hx:=h x (by simp)
  rw [List.length_cons,dg_succ,D,show (x + 256 * D l) / 256=D l by omega,show (x + 256 * D l) % 256=x by omega,dg_D l (fun y hy=>h y (by simp [hy]))]
theorem in_at {m:Int} {l:List Int} (h:In m l) (j:Nat) (hj:j < l.length):0<=l.getD j 0/\l.getD j 0 < m:=by
 have:l.getD j 0=l[j]:=by simp [List.getD_eq_getElem?_getD,List.getElem?_eq_getElem hj]
 rw [this]
 exact h _ (List.getElem_mem hj)
theorem in_of {m:Int} {l:List Int} (h:∀ j,j < l.length->0<=l.getD j 0/\l.getD j 0 < m):In m l:=by
 intro x hx
 obtain ⟨j,hj,rfl⟩:=List.mem_iff_getElem.1 hx
 have:=h j hj
 simpa [List.getD_eq_getElem?_getD,List.getElem?_eq_getElem hj] using this
theorem getD_set (l:List Int) (i j:Nat) (x:Int):(l.set i x).getD j 0=if i=j/\i < l.length then x else l.getD j 0:=by
 rw [List.getD_eq_getElem?_getD,List.getD_eq_getElem?_getD,List.getElem?_set]
 by_cases h:i=j
 ·subst h
  by_cases h2:i < l.length
  ·simp [h2]
  ·simp [h2]
 ·simp [h]
structure Car (l m:List Int) (k:Nat):Prop where
 len:m.length=l.length
 val:D m=D l
 lo:∀ j,j < k->0<=m.getD j 0/\m.getD j 0 < 256
 at_:0<=m.getD k 0/\m.getD k 0 < 2199023255552
 hi:∀ j,k < j->m.getD j 0=l.getD j 0
theorem Car.next {l m:List Int} {k:Nat} (h:In 1099511627776 l) (hc:Car l m k) (hk:k + 1 < l.length):Car l ((m.set (k + 1) (m.getD (k + 1) 0 + m.getD k 0 / 256)).set k (m.getD k 0 % 256)) (k + 1):=by
 have hl:=hc.len
 have hk1:=hc.hi (k + 1) (by omega)
 have hb:=in_at h (k + 1) hk
 have ha:=hc.at_
 refine ⟨by simp [hl],?_,fun j hj=>?_,?_,fun j hj=>?_⟩
 ·rw [D_set _ _ _ (by simp; omega),D_set _ _ _ (by omega),hc.val,getD_set,if_neg (by omega),Int.pow_succ]
  have e:=Int.emod_add_mul_ediv (m.getD k 0) 256
  generalize m.getD (k + 1) 0=u at *
  generalize m.getD k 0=v at *
  rw [show u + v / 256 - u=v / 256 by omega,show v % 256 - v=- (256 * (v / 256)) by omega]
  grind
 ·rw [getD_set]
  by_cases hjk:k=j
  ·rw [if_pos ⟨hjk,by simp; omega⟩]; omega
  ·rw [if_neg (by omega),getD_set,if_neg (by omega)]; exact hc.lo j (by omega)
 ·rw [getD_set,if_neg (by omega),getD_set,if_pos ⟨rfl,by omega⟩,hk1]; omega
 ·rw [getD_set,if_neg (by omega),getD_set,if_neg (by omega)]; exact hc.hi j (by omega)
theorem Car.top {l m:List Int} {k:Nat} (hc:Car l m k) (hk:k + 1=l.length) (hv:D l < 256 ^ l.length):m.getD k 0 < 256:=by
 have hl:=hc.len
 have h1:D m=D (m.take k) + 256 ^ k * m.getD k 0:=by
  have:=D_take m k (by omega)
  rw [List.take_of_length_le (by omega)] at this
  exact this
 have h2:0<=D (m.take k):=D_nonneg 256 _ (fun x hx=>by
  obtain ⟨j,hj,rfl⟩:=List.mem_iff_getElem.1 hx
  have hj':j < k:=by rw [List.length_take] at hj; omega
  have:=hc.lo j hj'
  rw [List.getElem_take]
  simpa [List.getD_eq_getElem?_getD,List.getElem?_eq_getElem (show j < m.length by omega)] using this)
 rw [<- hk,<- hc.val,h1,Int.pow_succ] at hv
 have hp:=pow_pos k
 by_cases h:m.getD k 0 < 256
 ·exact h
 ·exfalso
  have:(256:Int) ^ k * 256<=256 ^ k * m.getD k 0:=Int.mul_le_mul_of_nonneg_left (by omega) (by omega)
  omega
theorem Car.all {l m:List Int} {k:Nat} (hc:Car l m k) (hk:k + 1=l.length) (hv:D l < 256 ^ l.length):m=dg l.length (D l):=by
 have ht:=hc.top hk hv
 have hin:In 256 m:=in_of fun j hj=>by
  rw [hc.len] at hj
  by_cases h:j < k
  ·exact hc.lo j h
  ·obtain rfl:j=k:=by omega
   exact ⟨hc.at_.1,ht⟩
 rw [<- dg_D m hin,hc.len,hc.val]
structure Row (s b:List Int) (x:Int) (i k:Nat) (m:List Int):Prop where
 len:m.length=s.length
 val:D m=D s + 256 ^ i * (x * D (b.take k))
 bd:∀ j,0<=m.getD j 0/\m.getD j 0 < 256 + 65536 * (k:Int)
theorem prod_bd2 {x y:Int} (hx:0<=x/\x < 256) (hy:0<=y/\y < 256):0<=x * y/\x * y < 65536:=by
 refine ⟨Int.mul_nonneg hx.1 hy.1,?_⟩
 have:x * y<=255 * y:=Int.mul_le_mul_of_nonneg_right (by omega) hy.1
 omega
theorem Row.next {s b m:List Int} {x:Int} {i k:Nat} (hx:0<=x/\x < 256) (hb:In 256 b) (hr:Row s b x i k m) (hk:k < b.length) (hi:i + k < s.length):Row s b x i (k + 1) (m.set (i + k) (m.getD (i + k) 0 + x * b.getD k 0)):=by
 have hl:=hr.len
 have hp:=prod_bd2 hx (in_at hb k hk)
 refine ⟨by simp [hl],?_,fun j=>?_⟩
 ·rw [D_set _ _ _ (by omega),hr.val,D_take b k hk,Int.pow_add]
  grind
 ·rw [getD_set]
  have:=hr.bd j
  by_cases h:i + k=j/\i + k < m.length
  ·rw [if_pos h,h.1]; omega
  ·rw [if_neg h]; omega
end Go.Proofs.YtajgjeialbgijaaDoor.Pol
namespace Go.Proofs.YtajgjeialbgijaaDoor
set_option linter.unusedVariables false
set_option linter.unusedSimpArgs false
set_option maxRecDepth 100000
open Go.RowKit
def iv (x:Int):Value:=.int .i64 x
theorem cells_iv (l:List Int):∀ u ∈ l.map iv,u.oneCell'=true:=by
 intro u hu
 obtain ⟨b,_,rfl⟩:=List.mem_map.1 hu
 rfl
structure RdI (w:World) (A:Option Addr) (n:Nat) (l:List Int):Prop where
 len:l.length=n
 at_:0 < n->∃ b off,A=some ⟨b,off,none⟩/\b < w.heap.size/\∀ j,j < n->w.cell? ⟨b,off + j,none⟩=some (.int .i64 (l.getD j 0))
theorem RdI.below {w w':World} {A:Option Addr} {n:Nat} {l:List Int} (h:RdI w A n l) (hb:Below w.heap.size w w'):RdI w' A n l :=
 ⟨h.len,fun h0=>by
  obtain ⟨b,off,e,hlt,hc⟩:=h.at_ h0
  exact ⟨b,off,e,Nat.lt_of_lt_of_le hlt hb.size,fun j hj=>(hb.cell (p:=⟨b,off + j,none⟩) hlt).trans (hc j hj)⟩⟩
theorem RdI.drew {w:World} {A:Option Addr} {n:Nat} {l:List Int} (h:RdI w A n l):RdI w.drew A n l:=⟨h.len,h.at_⟩
theorem RdI.nil (w:World) (A:Option Addr):RdI w A 0 []:=⟨rfl,fun h=>absurd h (by omega)⟩
theorem RdI.of_block {w:World} {g n:Nat} {t:TypeId} {l:List Int} {ex:List Value} (hb:Blk w g t (l.map iv ++ ex)) (hl:l.length=n):RdI w (some ⟨g,0,none⟩) n l :=
 ⟨hl,fun _=>⟨g,0,rfl,hb.lt,fun j hj=>by
  rw [hb.cell,Nat.zero_add,List.getElem?_append_left (by simp; omega)]
  simp [iv,List.getD_eq_getElem?_getD,List.getElem?_eq_getElem (show j < l.length by omega)]⟩⟩
def OwI (w:World) (base:Nat) (v:Value) (l:List Int):Prop:=w.ownsRow base 3 1 v l.length (l.map iv)
theorem OwI.empty (w:World) (B:Nat):OwI w B (.slice none 0 0) []:=World.ownsRow_nil w B 3 1
theorem OwI.keep {w w':World} {base:Nat} {v:Value} {l:List Int} (h:OwI w base v l) (hk:Below w.heap.size w w'):OwI w' base v l:=by
 refine ⟨h.1,?_⟩
 rcases h.2 with ⟨rfl,h2⟩ | ⟨g,cap,cur,rfl,hb,hg,h3⟩
 ·exact .inl ⟨rfl,h2⟩
 ·refine .inr ⟨g,cap,cur,rfl,hb,?_,h3⟩
  rw [hk.block g ?_]
  ·exact hg
  ·rcases Nat.lt_or_ge g w.heap.size with hlt | hge
   ·exact hlt
   ·rw [Array.getElem?_eq_none hge] at hg; cases hg
theorem OwI.more {w:World} {B B':Nat} {v:Value} {l:List Int} (h:OwI w B v l) (hB:B'<=B):OwI w B' v l:=by
 refine ⟨h.1,?_⟩
 rcases h.2 with ⟨rfl,h2⟩ | ⟨g,cap,cur,rfl,hb,hg,h3⟩
 ·exact .inl ⟨rfl,h2⟩
 ·exact .inr ⟨g,cap,cur,rfl,Nat.le_trans hB hb,hg,h3⟩
theorem OwI.lit (w:World) (B:Nat) (l:List Int) (a:Array Value) (n:Nat) (ha:a=(l.map iv).toArray) (hn:l.length=n) (hm:n<=1000000) (hB:B<=w.heap.size):OwI (w.alloc (.cells a 3)) B (.slice (some ⟨w.heap.size,0,none⟩) n n) l:=by
 subst ha
 subst hn
 exact ⟨by simp,.inr ⟨w.heap.size,l.length,_,rfl,hB,heap_alloc_new w _,Nat.le_refl _,by unfold maxLen; omega,by simp,by rw [Nat.mul_one]; exact List.take_of_length_le (by simp)⟩⟩
theorem OwI.blk {w:World} {base:Nat} {v:Value} {l:List Int} (h:OwI w base v l) (h0:0 < l.length):∃ g c ex,v = .slice (some ⟨g,0,none⟩) l.length c/\base<=g/\Blk w g 3 (l.map iv ++ ex)/\ex.length=c - l.length/\l.length<=c/\c<=maxLen:=by
 rcases h.2 with ⟨rfl,hn⟩ | ⟨g,cap,cur,rfl,hb,hg,hnc,hcm,hcs,htake⟩
 ·omega
 ·have e:l.map iv ++ cur.toList.drop l.length=cur.toList:=by
   rw [<- htake,Nat.mul_one,List.take_append_drop]
  refine ⟨g,cap,cur.toList.drop l.length,rfl,hb,?_,?_,hnc,hcm⟩
  ·rw [e]
   unfold Blk
   rw [Array.toArray_toList]
   exact hg
  ·rw [List.length_drop,Array.length_toList,hcs,Nat.mul_one]
theorem OwI.value {w:World} {base:Nat} {v:Value} {l:List Int} (h:OwI w base v l):∃ A c,v = .slice A l.length c/\RdI w A l.length l:=by
 rcases Nat.eq_zero_or_pos l.length with h0 | h0
 ·have hl:l=[]:=List.eq_nil_of_length_eq_zero h0
  subst hl
  rcases h.2 with ⟨rfl,_⟩ | ⟨g,cap,cur,rfl,_⟩
  ·exact ⟨_,_,rfl,RdI.nil _ _⟩
  ·exact ⟨_,_,rfl,RdI.nil _ _⟩
 ·obtain ⟨g,c,ex,rfl,hb,hB,he,hn,hc⟩:=h.blk h0
  exact ⟨_,_,rfl,RdI.of_block hB rfl⟩
theorem OwI.lt_ {w:World} {B:Nat} {v:Value} {l:List Int} (h:OwI w B v l):∀ k,v.ownBlock=some k->B<=k/\k < w.heap.size:=World.ownsRow.lt h
theorem OwI.kept {w w':World} {B:Nat} {v:Value} {l:List Int} {row:Option Nat} (h:OwI w B v l) (hg:w.grownBy w' row) (hne:v.ownBlock=none ∨ v.ownBlock ≠ row):OwI w' B v l:=World.ownsRow.kept h hg hne
theorem OwI.alloc {w:World} {B:Nat} {v:Value} {l:List Int} (h:OwI w B v l) (o:Obj):OwI (w.alloc o) B v l:=World.ownsRow.alloc h o
end Go.Proofs.YtajgjeialbgijaaDoor
namespace Go.Proofs.YtajgjeialbgijaaDoor
set_option linter.unusedVariables false
set_option linter.unusedSimpArgs false
set_option maxRecDepth 100000
open Go.RowKit
end Go.Proofs.YtajgjeialbgijaaDoor
namespace Go.Proofs.YtajgjeialbgijaaDoor
set_option linter.unusedVariables false
set_option linter.unusedSimpArgs false
set_option maxRecDepth 100000
open Go.RowKit
end Go.Proofs.YtajgjeialbgijaaDoor
namespace Go.Proofs.YtajgjeialbgijaaDoor
set_option linter.unusedVariables false
set_option linter.unusedSimpArgs false
set_option maxRecDepth 100000
open Go.RowKit
end Go.Proofs.YtajgjeialbgijaaDoor
namespace Go.Proofs.YtajgjeialbgijaaDoor
set_option linter.unusedVariables false
set_option linter.unusedSimpArgs false
set_option maxRecDepth 100000
open Go.RowKit
end Go.Proofs.YtajgjeialbgijaaDoor
