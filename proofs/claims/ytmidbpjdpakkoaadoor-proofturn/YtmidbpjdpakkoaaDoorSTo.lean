import Derived.Test.YtmidbpjdpakkoaaDoorSTn
namespace Go.Proofs.YtmidbpjdpakkoaaDoor
set_option linter.unusedVariables false
set_option linter.unusedSimpArgs false
set_option maxRecDepth 100000
open Go.RowKit
theorem zero_info : (Tryd.prog.info? 30).map (·.size) = some (List.replicate 32 (Value.int .u8 0)).length := by kernel_rfl
theorem zero_built : Tryd.prog.built 30 [] = some (List.replicate 32 (Value.int .u8 0)).toArray := by kernel_rfl
theorem zero_one : ∀ v ∈ List.replicate 32 (Value.int .u8 0), v.oneCell' = true := fun v hv => by rw [List.eq_of_mem_replicate hv]; rfl
theorem hv_none : hv Tm.none32 = .agg (List.replicate 32 (Value.int .u8 0)).toArray := rfl
set_option maxRecDepth 100000 in
theorem sumAll_none (w : World) : Calls Tryd.prog 38 #[.pointer none] w fun e w' => e = .returned (hv Tm.none32) ∧ Below w.heap.size w w' := by
  have X1 := Lib.hid (alloc_below w (.cells (List.replicate 32 (Value.int .u8 0)).toArray 30))
  have B1 := Lib.hid (Blk.new w 30 (List.replicate 32 (Value.int .u8 0)))
  have HI := Lib.hid zero_info
  have HO := Lib.hid zero_one
  have HB := Lib.hid zero_built
  rw [hv_none]
  obtain ⟨Z, hZ⟩ : ∃ Z, Z = List.replicate 32 (Value.int .u8 0) := ⟨_, rfl⟩
  rw [← hZ] at HI HO HB ⊢
  go_enter Tryd.func38, Tryd.ntmps38
  go_upto_region 1 with (fail)
  change Code.wp _ _ _ _ (w.alloc (.cells (List.replicate 32 (Value.int .u8 0)).toArray 30))
  generalize w.alloc (.cells (List.replicate 32 (Value.int .u8 0)).toArray 30) = w1 at *
  rw [← hZ] at B1
  clear hZ
  go_wp2_with (first
    | (with_reducible refine build_law rfl 30 #[] rfl Z (by simp only [List.map_toArray, List.map_nil]; exact HB.out) ?_)
    | ((with_reducible refine storeGen_law rfl 30 (.tmp 2) (.tmp 5) rfl w.heap.size rfl Z rfl 30 Z HI.out rfl HO.out w.heap.size w B1.out X1.out (Nat.le_refl _) ?_); intro w6 B6 W6))
  exact bodyPost_ret (results_cell_row rfl _ _ w.heap.size 30 Z.toArray (0, 0) _ rfl B6.out Tryd.underlying30 rfl (by rw [HI.out]; simp)) rfl ⟨rfl, W6.out⟩
set_option maxRecDepth 100000 in
theorem sumAll_some {w : World} {g : Nat} {h : List UInt8} {q a b : Option Nat} (hb : Blk w g 72 (nodeL h q a b)) (hl : h.length = 32) : Calls Tryd.prog 38 #[.pointer (some ⟨g, 0, none⟩)] w fun e w' => e = .returned (hv h) ∧ Below w.heap.size w w' := by
  have X1 := Lib.hid (alloc_below w (.cells (List.replicate 32 (Value.int .u8 0)).toArray 30))
  have B1 := Lib.hid (Blk.new w 30 (List.replicate 32 (Value.int .u8 0)))
  have HI := Lib.hid (hash_info hl)
  have HN : Hid ((List.replicate 32 (Value.int .u8 0)).length = (h.map cellOf).length) := by unfold Hid; rw [List.length_map, hl]; rfl
  have HO := Lib.hid (cells_u8 h)
  have HC := Lib.hid (node_hash (hb.below X1.out hb.lt) hl)
  unfold hv
  obtain ⟨D, hD⟩ : ∃ D, D = h.map cellOf := ⟨_, rfl⟩
  rw [← hD] at HI HO HC HN ⊢
  clear hD hb
  obtain ⟨Z, hZ⟩ : ∃ Z, Z = List.replicate 32 (Value.int .u8 0) := ⟨_, rfl⟩
  go_enter Tryd.func38, Tryd.ntmps38
  go_upto_region 1 with (fail)
  change Code.wp _ _ _ _ (w.alloc (.cells (List.replicate 32 (Value.int .u8 0)).toArray 30))
  generalize w.alloc (.cells (List.replicate 32 (Value.int .u8 0)).toArray 30) = w1 at *
  rw [← hZ] at B1 HN
  clear hZ
  go_wp2_with (first
    | (with_reducible refine load_law rfl 30 (.tmp 8) rfl g 0 rfl D _ Tryd.underlying30 rfl HI.out HC.out ?_)
    | ((with_reducible refine storeGen_law rfl 30 (.tmp 2) (.tmp 9) rfl w.heap.size rfl D rfl 30 Z HI.out HN.out HO.out w.heap.size w B1.out X1.out (Nat.le_refl _) ?_); intro w6 B6 W6))
  exact bodyPost_ret (results_cell_row rfl _ _ w.heap.size 30 D.toArray (0, 0) _ rfl B6.out Tryd.underlying30 rfl (by rw [HI.out]; simp)) rfl ⟨rfl, W6.out⟩
theorem sumAll_of {w : World} {n : Option Nat} {d : Nat} {l : List Tm.P} (h : Tr w n d l) : Calls Tryd.prog 38 #[ptr n] w fun e w' => e = .returned (hv (Tm.root d l)) ∧ Below w.heap.size w w' := by
  cases h with
  | none d => rw [Tm.root_nil]; exact sumAll_none w
  | one h1 h2 => rw [Tm.root_one]; exact sumAll_some h1 (Tm.leaf_length _ _)
  | more h h1 _ _ => exact sumAll_some h1 (Tm.root_length _ _)
end Go.Proofs.YtmidbpjdpakkoaaDoor
