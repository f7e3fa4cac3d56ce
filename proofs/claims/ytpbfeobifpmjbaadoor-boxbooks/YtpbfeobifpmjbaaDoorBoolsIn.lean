/- Bools and parts that came in, as the law BoxBooks reads them. -/
import Derived.Test.YtpbfeobifpmjbaaDoorBoxBooks
import Derived.Deep.Grids
import Derived.Deep.Matrix
import Derived.OpenShut
namespace Go.Proofs.YtpbfeobifpmjbaaDoor.boxBooks
set_option linter.unusedVariables false
set_option linter.unusedSimpArgs false
set_option maxRecDepth 100000
open Go.ChangeShapes Go.WideShapes Go.ChangeAt Go.RowKit

theorem bools_in {H : Type} {enc : TypeId × Value → H} {w : World} {fuel : Nat} {A : Option Addr} {n c : Nat} {x : DataW H × List MemPlace} (h : DataW.trod enc Tryd.prog w 0 (fun _ => true) true fuel 44 [.slice A n c] = some x) : RdT w A n ∧ n ≤ maxLen := by
  rcases Go.Deep.open_bools Tryd.underlying44 Tryd.underlying4 (by kernel_rfl) h with ⟨hcs, _⟩ | ⟨a, len, cap, B, hcs, _, hl, hm, _, hcell⟩
  · simp only [List.cons.injEq, and_true, Value.slice.injEq] at hcs
    obtain ⟨rfl, rfl, rfl⟩ := hcs
    exact ⟨fun j hj => by omega, by unfold maxLen; omega⟩
  · simp only [List.cons.injEq, and_true, Value.slice.injEq] at hcs
    obtain ⟨rfl, rfl, rfl⟩ := hcs
    refine ⟨fun j hj => ?_, Nat.le_trans hl hm⟩
    obtain ⟨b, off, spot⟩ := a
    have hspot : spot = none := by simpa [Addr.add] using World.cell?_spot (hcell 0 (by omega))
    subst hspot
    have hc := hcell j (by omega)
    rw [Go.Proofs.YtpbfeobifpmjbaaDoor.add_plain] at hc
    exact ⟨b, off, B j, rfl, hc, World.block_lt_of_cell? w ⟨b, off + j, none⟩ hc⟩
theorem parts_in {H : Type} {enc : TypeId × Value → H} {w : World} {fuel : Nat} {A : Option Addr} {n c : Nat} {x : DataW H × List MemPlace} (h : DataW.trod enc Tryd.prog w 0 (fun _ => true) true fuel 43 [.slice A n c] = some x) : (∃ l, RdP w A n l) ∧ n ≤ maxLen := by
  rcases Go.Deep.open_int_rows Tryd.underlying43 Tryd.underlying28 Tryd.underlying5 (by kernel_rfl) (by kernel_rfl) h with ⟨hcs, _⟩ | ⟨y, l, cc, A', L, C, Z, hcs, _, hl, hm, _, hx⟩
  · simp only [List.cons.injEq, and_true, Value.slice.injEq] at hcs
    obtain ⟨rfl, rfl, rfl⟩ := hcs
    exact ⟨⟨[], rfl, fun j hj => by omega⟩, by unfold maxLen; omega⟩
  · simp only [List.cons.injEq, and_true, Value.slice.injEq] at hcs
    obtain ⟨rfl, rfl, rfl⟩ := hcs
    exact ⟨rdp_came hl hx, Nat.le_trans hl hm⟩
end Go.Proofs.YtpbfeobifpmjbaaDoor.boxBooks
