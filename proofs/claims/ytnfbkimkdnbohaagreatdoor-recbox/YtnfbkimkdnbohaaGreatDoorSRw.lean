import Derived.Test.YtnfbkimkdnbohaaGreatDoorSBegun9
import Derived.Test.YtnfbkimkdnbohaaGreatDoorSDocs
import Derived.Test.YtnfbkimkdnbohaaGreatDoorSRin
set_option linter.unusedVariables false
set_option linter.unusedSimpArgs false
set_option maxRecDepth 100000
set_option maxHeartbeats 8000000
namespace Go.Proofs.YtnfbkimkdnbohaaGreatDoor
open Go.RowKit
theorem rec_parts (v v':Int) (g g':Bool) (l l':List UInt8) (W:World):(Op.equalIn 10000 23 (.agg #[.int .i64 v,.bool g,.string ⟨l.toArray⟩]) (.agg #[.int .i64 v',.bool g',.string ⟨l'.toArray⟩])).run Tryz.prog W = .ok (decide (v=v') && (decide (g=g') && decide (l=l'))) W:=by
 by_cases h:v=v'
 ·subst h
  by_cases h1:g=g'
  ·subst h1
   by_cases h2:l=l'
   ·subst h2
    rw [decide_eq_true rfl,decide_eq_true rfl,decide_eq_true rfl]
    go_simp
   ·have h3:=str_ne h2
    rw [decide_eq_true rfl,decide_eq_true rfl,decide_eq_false h2]
    go_simp
  ·rw [decide_eq_true rfl,decide_eq_false h1]
   cases g <;> cases g' <;> first | exact absurd rfl h1 | (go_simp)
 ·rw [decide_eq_false h]
  go_simp
theorem rec_eql (x y:Rc.R) (W:World):∃ t:Bool,(Op.equalIn 10000 23 (.agg (recL x).toArray) (.agg (recL y).toArray)).run Tryz.prog W = .ok t W/\(t=true ↔ x=y):=by
 obtain ⟨v,g,l⟩:=x
 obtain ⟨v',g',l'⟩:=y
 refine ⟨_,rec_parts v v' g g' l l' W,?_⟩
 simp
theorem rec_same (x:Rc.R) (W:World):(Op.equalIn 10000 23 (.agg (recL x).toArray) (.agg (recL x).toArray)).run Tryz.prog W = .ok true W:=by
 obtain ⟨t,h1,h2⟩:=rec_eql x x W
 rw [h1,h2.2 rfl]
end Go.Proofs.YtnfbkimkdnbohaaGreatDoor
