/- The contracts of New, Copy, finish, Sum. -/
import Derived.Test.YtbepofmkfloajaaDoorWrite
import Derived.Deep.WholeRow
namespace Go.Proofs.YtbepofmkfloajaaDoor
set_option linter.unusedVariables false
set_option linter.unusedSimpArgs false
open Go.RowKit

theorem stC_one (hs : List Int) (bl : List UInt8) (n : Nat) : ∀ v ∈ stC hs bl n, v.oneCell' = true := by
  intro v hv
  unfold stC at hv
  rw [List.mem_append, List.mem_append] at hv
  rcases hv with hv | hv | hv
  · exact cells_wd hs v hv
  · exact cells_u8 bl v hv
  · simp at hv
    subst hv
    rfl
/-- A state with nothing written. -/
theorem holds_new (w : World) (g : Nat) (a : Array Value) (ha : a = (stC (List.replicate 8 0) (List.replicate 64 0) 0).toArray) (hg : g = w.heap.size) : Holds (w.alloc (.cells a 54)) g [] :=
  ⟨_, _, Blk.at_new w g 54 _ a ha hg, rfl, rfl, rfl, fun h => absurd rfl h⟩

theorem zero54 : ∀ w, (zeroValue 54).run Tryd.prog w = .ok (.agg (stC (List.replicate 8 0) (List.replicate 64 0) 0).toArray) w := (zero_of_info (n := 73) (by kernel_rfl)).1

set_option maxRecDepth 100000 in
set_option maxHeartbeats 400000 in
theorem new_any (w : World) : Calls Tryd.prog 17 #[] w fun e w' => e = .returned (.pointer (some ⟨w.heap.size, 0, none⟩)) ∧ Holds w' w.heap.size [] ∧ Below w.heap.size w w' := by
  have hz := zero54
  obtain ⟨Z, hZ⟩ : ∃ Z, Z = stC (List.replicate 8 0) (List.replicate 64 0) 0 := ⟨_, rfl⟩
  rw [← hZ] at hz
  have HZ := Lib.hid hZ
  clear hZ
  go_enter Tryd.func17, Tryd.ntmps17
  go_wp2_with fail
  go_ret
  exact ⟨rfl, holds_new w _ _ (by rw [HZ.out]) rfl, (Below.refl _ _).alloc (Nat.le_refl _) _⟩

set_option maxRecDepth 100000 in
set_option maxHeartbeats 400000 in
theorem copy_any {w : World} {g : Nat} {m : List UInt8} (h : Holds w g m) : Calls Tryd.prog 21 #[.pointer (some ⟨g, 0, none⟩)] w fun e w' => e = .returned (.pointer (some ⟨w.heap.size, 0, none⟩)) ∧ Holds w' w.heap.size m ∧ Below w.heap.size w w' := by
  obtain ⟨hs, bl, hB, h8, h64, htk, hab⟩ := h
  obtain ⟨C, hC⟩ : ∃ C, C = stC hs bl m.length := ⟨_, rfl⟩
  rw [← hC] at hB
  have HI : Hid ((Tryd.prog.info? 54).map (·.size) = some C.length) := by unfold Hid; rw [hC, stC_length _ _ _ h8 h64]; kernel_rfl
  have HB := Lib.hid hB
  have HC := Lib.hid hC
  have H8 := Lib.hid h8
  have H64 := Lib.hid h64
  have HTK := Lib.hid htk
  have HAB := Lib.hid hab
  clear hB hC h8 h64 htk hab
  have hz := zero54
  obtain ⟨Z, hZ⟩ : ∃ Z, Z = stC (List.replicate 8 0) (List.replicate 64 0) 0 := ⟨_, rfl⟩
  rw [← hZ] at hz
  have HZL : Hid (Z.length = C.length) := by unfold Hid; rw [hZ, HC.out, stC_length _ _ _ H8.out H64.out]; rfl
  have H1 : Hid (∀ v ∈ C, v.oneCell' = true) := by unfold Hid; rw [HC.out]; exact stC_one hs bl _
  have HN := Lib.hid (Blk.new w 54 Z)
  clear hZ
  go_enter Tryd.func21, Tryd.ntmps21
  go_wp2_with (first
    | (with_reducible refine load_law rfl 54 (.tmp 7) rfl g 0 rfl C _ Tryd.underlying54 rfl HI.out HB.out.cells ?_)
    | (with_reducible refine storeAll_law rfl 54 (.tmp 3) (.tmp 8) rfl w.heap.size rfl C rfl 54 Z HN.out HI.out HZL.out H1.out ?_))
  go_ret
  refine ⟨rfl, ⟨hs, bl, ?_, H8.out, H64.out, HTK.out, HAB.out⟩, below_setRow ((Below.refl _ _).alloc (Nat.le_refl _) _) (Nat.le_refl _) _⟩
  rw [← HC.out]
  exact HN.out.row
end Go.Proofs.YtbepofmkfloajaaDoor
