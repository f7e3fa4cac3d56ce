import Derived.Deep.Grids
import Derived.Deep.Matrix
import Derived.OpenShut
import Derived.Test.YtmidbpjdpakkoaaDoorSGrow
namespace Go.Proofs.YtmidbpjdpakkoaaDoor
set_option linter.unusedVariables false
set_option linter.unusedSimpArgs false
set_option maxRecDepth 100000
open Go.ChangeShapes Go.WideShapes Go.ChangeAt Go.RowKit
theorem parts_in {H : Type} {enc : TypeId × Value → H} {w : World} {fuel : Nat} {A : Option Addr} {n c : Nat} {x : DataW H × List MemPlace} (h : DataW.trod enc Tryd.prog w 0 (fun _ => true) true fuel 61 [.slice A n c] = some x) : (∃ l, RdP w A n l) ∧ n ≤ maxLen := by
  rcases Go.Deep.open_int_rows Tryd.underlying61 Tryd.underlying59 Tryd.underlying5 (by kernel_rfl) (by kernel_rfl) h with ⟨hcs, _⟩ | ⟨y, l, cc, A', L, C, Z, hcs, _, hl, hm, _, hx⟩
  · simp only [List.cons.injEq, and_true, Value.slice.injEq] at hcs
    obtain ⟨rfl, rfl, rfl⟩ := hcs
    exact ⟨⟨[], rfl, fun j hj => by omega⟩, by unfold maxLen; omega⟩
  · simp only [List.cons.injEq, and_true, Value.slice.injEq] at hcs
    obtain ⟨rfl, rfl, rfl⟩ := hcs
    exact ⟨rdp_came hl hx, Nat.le_trans hl hm⟩
end Go.Proofs.YtmidbpjdpakkoaaDoor
