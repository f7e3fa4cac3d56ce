import Derived.Deep.DeepCutAuto
import Derived.Test.YtajgjeialbgijaaDoorSGcha
import Derived.Test.YtajgjeialbgijaaDoorSGrow
namespace Go.Proofs.YtajgjeialbgijaaDoor
set_option linter.unusedVariables false
set_option linter.unusedSimpArgs false
set_option maxRecDepth 100000
open Go.RowKit
def OwW (w:World) (base:Nat) (v:Value) (l:List Int):Prop:=w.ownsRow base 102 1 v l.length (l.map wd)
theorem OwW.empty (w:World) (B:Nat):OwW w B (.slice none 0 0) []:=World.ownsRow_nil w B 102 1
theorem OwW.keep {w w':World} {base:Nat} {v:Value} {l:List Int} (h:OwW w base v l) (hk:Below w.heap.size w w'):OwW w' base v l:=by
 refine ⟨h.1,?_⟩
 rcases h.2 with ⟨rfl,h2⟩ | ⟨g,cap,cur,rfl,hb,hg,h3⟩
 ·exact .inl ⟨rfl,h2⟩
 ·refine .inr ⟨g,cap,cur,rfl,hb,?_,h3⟩
  rw [hk.block g ?_]
  ·exact hg
  ·rcases Nat.lt_or_ge g w.heap.size with hlt | hge
   ·exact hlt
   ·rw [Array.getElem?_eq_none hge] at hg; cases hg
theorem OwW.lit (w:World) (B:Nat) (l:List Int) (a:Array Value) (n:Nat) (ha:a=(l.map wd).toArray) (hn:l.length=n) (hm:n<=1000000) (hB:B<=w.heap.size):OwW (w.alloc (.cells a 102)) B (.slice (some ⟨w.heap.size,0,none⟩) n n) l:=by
 subst ha
 subst hn
 exact ⟨by simp,.inr ⟨w.heap.size,l.length,_,rfl,hB,heap_alloc_new w _,Nat.le_refl _,by unfold maxLen; omega,by simp,by rw [Nat.mul_one]; exact List.take_of_length_le (by simp)⟩⟩
theorem OwW.blk {w:World} {base:Nat} {v:Value} {l:List Int} (h:OwW w base v l) (h0:0 < l.length):∃ g c ex,v = .slice (some ⟨g,0,none⟩) l.length c/\base<=g/\Blk w g 102 (l.map wd ++ ex)/\l.length<=c/\c<=maxLen:=by
 rcases h.2 with ⟨rfl,hn⟩ | ⟨g,cap,cur,rfl,hb,hg,hnc,hcm,hcs,htake⟩
 ·omega
 ·refine ⟨g,cap,cur.toList.drop l.length,rfl,hb,?_,hnc,hcm⟩
  have e:l.map wd ++ cur.toList.drop l.length=cur.toList:=by
   rw [<- htake,Nat.mul_one,List.take_append_drop]
  rw [e]
  unfold Blk
  rw [Array.toArray_toList]
  exact hg
end Go.Proofs.YtajgjeialbgijaaDoor
namespace Go.Proofs.YtajgjeialbgijaaDoor
set_option linter.unusedVariables false
set_option linter.unusedSimpArgs false
set_option maxRecDepth 100000
open Go.RowKit
end Go.Proofs.YtajgjeialbgijaaDoor
namespace Go.Proofs.YtajgjeialbgijaaDoor
set_option linter.unusedVariables false
set_option linter.unusedSimpArgs false
set_option maxRecDepth 100000
open Go.RowKit
theorem Ow.more {w:World} {B B':Nat} {v:Value} {l:List UInt8} (h:Ow w B v l) (hB:B'<=B):Ow w B' v l:=by
 refine ⟨h.1,?_⟩
 rcases h.2 with ⟨rfl,h2⟩ | ⟨g,cap,cur,rfl,hb,hg,h3⟩
 ·exact .inl ⟨rfl,h2⟩
 ·exact .inr ⟨g,cap,cur,rfl,Nat.le_trans hB hb,hg,h3⟩
end Go.Proofs.YtajgjeialbgijaaDoor
