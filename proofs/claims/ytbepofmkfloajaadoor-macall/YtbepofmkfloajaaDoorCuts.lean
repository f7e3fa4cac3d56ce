/- Slices of arrays. -/
import Derived.Test.YtbepofmkfloajaaDoorState
namespace Go.Proofs.YtbepofmkfloajaaDoor
set_option linter.unusedVariables false
set_option linter.unusedSimpArgs false
open Go.RowKit

theorem sliceAt_l (t : TypeId) (n : Nat) (ht : Tryd.prog.underlying t = some (.array n 5)) (g off a : Nat) (ha : a < n) (W : World) :
    (Instr.sliceAt t (.pointer (some ⟨g, off, none⟩)) (some (.int .i64 (a : Int))) none none).run Tryd.prog W = .ok (.slice (some ⟨g, off + a, none⟩) (n - a) (n - a)) W := by
  obtain ⟨i0, hi, hz0, hz1, hz2⟩ := info_parts info5
  have h1 : ¬ n = a := by omega
  have h2 : (a : Int) ≤ (n : Int) := by omega
  simp [Instr.sliceAt, run_underlying ht, Instr.sureAddr, Instr.sliceBounds, sizeOf, typeInfo, hi, hz1, asIntOf, add_plain, h1, h2, go_sem]
theorem sliceAt_h (t : TypeId) (n : Nat) (ht : Tryd.prog.underlying t = some (.array n 5)) (g off e : Nat) (he : e ≤ n) (W : World) :
    (Instr.sliceAt t (.pointer (some ⟨g, off, none⟩)) none (some (.int .i64 (e : Int))) none).run Tryd.prog W = .ok (.slice (some ⟨g, off, none⟩) e n) W := by
  obtain ⟨i0, hi, hz0, hz1, hz2⟩ := info_parts info5
  have h2 : (e : Int) ≤ (n : Int) := by omega
  simp [Instr.sliceAt, run_underlying ht, Instr.sureAddr, Instr.sliceBounds, sizeOf, typeInfo, hi, hz1, asIntOf, add_plain, h2, go_sem]
theorem sliceAt_all (t : TypeId) (n : Nat) (ht : Tryd.prog.underlying t = some (.array n 5)) (g off : Nat) (W : World) :
    (Instr.sliceAt t (.pointer (some ⟨g, off, none⟩)) none none none).run Tryd.prog W = .ok (.slice (some ⟨g, off, none⟩) n n) W := by
  obtain ⟨i0, hi, hz0, hz1, hz2⟩ := info_parts info5
  simp [Instr.sliceAt, run_underlying ht, Instr.sureAddr, Instr.sliceBounds, sizeOf, typeInfo, hi, hz1, asIntOf, add_plain, go_sem]
end Go.Proofs.YtbepofmkfloajaaDoor
