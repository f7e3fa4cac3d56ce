import Derived.Test.YtmidbpjdpakkoaaDoorSTw
namespace Go.Proofs.YtmidbpjdpakkoaaDoor
set_option linter.unusedVariables false
set_option linter.unusedSimpArgs false
set_option maxRecDepth 100000
open Go.RowKit
structure TreeAt (w : World) (g : Nat) (l : List Tm.P) : Prop where
  blk : ∃ top, Blk w g 66 [ptr top, .int .i64 (l.length : Int)] ∧ Tr w top 0 l
  fit : Tm.Fit 0 l
theorem TreeAt.lt {w : World} {g : Nat} {l : List Tm.P} (h : TreeAt w g l) : g < w.heap.size := by
  obtain ⟨top, h1, _⟩ := h.blk
  exact h1.lt
theorem TreeAt.keep {w w' : World} {g : Nat} {l : List Tm.P} (h : TreeAt w g l) (hg : w'.heap[g]? = w.heap[g]?) (k : TrK w w') : TreeAt w' g l := by
  obtain ⟨top, h1, h2⟩ := h.blk
  exact ⟨⟨top, hg.trans h1, h2.keep k⟩, h.fit⟩
theorem TreeAt.low {w w' : World} {g : Nat} {l : List Tm.P} (h : TreeAt w g l) (k : Below w.heap.size w w') : TreeAt w' g l := h.keep (k.block g h.lt) (.below k)
theorem tree_built : Tryd.prog.built 66 [] = some [Value.pointer none, .int .i64 0].toArray := by kernel_rfl
theorem tnew_any (w : World) : Calls Tryd.prog 25 #[] w fun e w' => ∃ g, e = .returned (.pointer (some ⟨g, 0, none⟩)) ∧ TreeAt w' g [] ∧ w.heap.size ≤ g ∧ Below w.heap.size w w' := by
  have HB := Lib.hid tree_built
  have X1 := Lib.hid (alloc_below w (.cells [Value.pointer none, .int .i64 0].toArray 66))
  have B1 := Lib.hid (Blk.new w 66 [Value.pointer none, .int .i64 0])
  go_enter Tryd.func25, Tryd.ntmps25
  go_wp2_with (with_reducible refine build_law rfl 66 #[] rfl [Value.pointer none, .int .i64 0] (by simp only [List.map_toArray, List.map_nil]; exact HB.out) ?_)
  go_ret
  exact ⟨w.heap.size, rfl, ⟨⟨none, B1.out, .none 0⟩, Tm.Fit.nil 0⟩, Nat.le_refl _, X1.out⟩
theorem tlen_none (w : World) : Calls Tryd.prog 16 #[.pointer none] w fun e w' => e = .returned (.int .i64 0) ∧ w = w' := by
  go_enter Tryd.func16, Tryd.ntmps16
  go_wp2_with fail
  go_ret
  exact ⟨rfl, rfl⟩
theorem tlen_any {w : World} {g : Nat} {l : List Tm.P} (h : TreeAt w g l) : Calls Tryd.prog 16 #[.pointer (some ⟨g, 0, none⟩)] w fun e w' => e = .returned (.int .i64 (l.length : Int)) ∧ w = w' := by
  obtain ⟨top, h1, _⟩ := h.blk
  have c0 : w.cell? ⟨g, 1, none⟩ = some (.int .i64 (l.length : Int)) := h1.cell 1
  clear h h1
  go_enter Tryd.func16, Tryd.ntmps16
  go_wp2_with fail
  go_ret
  exact ⟨rfl, rfl⟩
theorem tcopy_none (w : World) : Calls Tryd.prog 28 #[.pointer none] w fun e w' => e = .returned (.pointer none) ∧ w = w' := by
  go_enter Tryd.func28, Tryd.ntmps28
  go_wp2_with fail
  go_ret
  exact ⟨rfl, rfl⟩
theorem tree_info (a b : Value) : (Tryd.prog.info? 66).map (·.size) = some [a, b].length := by kernel_rfl
theorem tcopy_any {w : World} {g : Nat} {l : List Tm.P} (h : TreeAt w g l) : Calls Tryd.prog 28 #[.pointer (some ⟨g, 0, none⟩)] w fun e w' => ∃ g', e = .returned (.pointer (some ⟨g', 0, none⟩)) ∧ TreeAt w' g' l ∧ w.heap.size ≤ g' ∧ Below w.heap.size w w' := by
  obtain ⟨top, h1, h2⟩ := h.blk
  have HF := Lib.hid h.fit
  have B1 := Lib.hid h1
  have T1 := Lib.hid h2
  have HI := Lib.hid (tree_info (ptr top) (.int .i64 (l.length : Int)))
  have HO : Hid (∀ v ∈ [ptr top, .int .i64 (l.length : Int)], v.oneCell' = true) := fun v hv => by
    simp only [List.mem_cons, List.not_mem_nil, or_false] at hv
    rcases hv with rfl | rfl <;> rfl
  have HN : Hid ([Value.pointer none, .int .i64 0].length = [ptr top, .int .i64 (l.length : Int)].length) := rfl
  obtain ⟨S, hS⟩ : ∃ S, S = [ptr top, .int .i64 (l.length : Int)] := ⟨_, rfl⟩
  rw [← hS] at B1 HI HO HN
  have HS := Lib.hid hS
  have hn1 := Nat.le_refl w.heap.size
  clear h h1 h2 hS
  go_enter Tryd.func28, Tryd.ntmps28
  go_wp2_with (first
    | (with_reducible refine load_law rfl 66 (.tmp 7) rfl g 0 rfl S _ Tryd.underlying66 rfl HI.out B1.out.cells ?_)
    | ((with_reducible refine storeGen_law rfl 66 (.tmp 3) (.tmp 8) rfl w.heap.size rfl S rfl 66 [.pointer none, .int .i64 0] HI.out HN.out HO.out w.heap.size w ?_ ?_ hn1 ?_)
       · exact Blk.new w 66 [.pointer none, .int .i64 0]
       · exact alloc_below w _
       intro w3 B3 X3))
  go_ret
  refine ⟨w.heap.size, rfl, ⟨⟨top, ?_, T1.out.low X3.out⟩, HF.out⟩, Nat.le_refl _, X3.out⟩
  have := B3.out
  rw [HS.out] at this
  exact this
set_option maxRecDepth 100000 in
theorem troot_none (w : World) : Calls Tryd.prog 17 #[.pointer none] w fun e w' => e = .returned (hv Tm.none32) ∧ Below w.heap.size w w' := by
  have X1 := Lib.hid (alloc_below w (.cells (List.replicate 32 (Value.int .u8 0)).toArray 30))
  have B1 := Lib.hid (Blk.new w 30 (List.replicate 32 (Value.int .u8 0)))
  have HI := Lib.hid zero_info
  have HO := Lib.hid zero_one
  have HB := Lib.hid zero_built
  rw [hv_none]
  obtain ⟨Z, hZ⟩ : ∃ Z, Z = List.replicate 32 (Value.int .u8 0) := ⟨_, rfl⟩
  rw [← hZ] at HI HO HB ⊢
  go_enter Tryd.func17, Tryd.ntmps17
  go_upto_region 1 with (fail)
  change Code.wp _ _ _ _ (w.alloc (.cells (List.replicate 32 (Value.int .u8 0)).toArray 30))
  generalize w.alloc (.cells (List.replicate 32 (Value.int .u8 0)).toArray 30) = w1 at *
  rw [← hZ] at B1
  clear hZ
  go_wp2_with (first
    | (with_reducible refine build_law rfl 30 #[] rfl Z (by simp only [List.map_toArray, List.map_nil]; exact HB.out) ?_)
    | ((with_reducible refine storeGen_law rfl 30 (.tmp 2) (.tmp 5) rfl w.heap.size rfl Z rfl 30 Z HI.out rfl HO.out w.heap.size w B1.out X1.out (Nat.le_refl _) ?_); intro w6 B6 W6))
  exact bodyPost_ret (results_cell_row rfl _ _ w.heap.size 30 Z.toArray (0, 0) _ rfl B6.out Tryd.underlying30 rfl (by rw [HI.out]; simp)) rfl ⟨rfl, W6.out⟩
set_option maxRecDepth 100000 in
theorem troot_any {w : World} {g : Nat} {l : List Tm.P} (h : TreeAt w g l) : Calls Tryd.prog 17 #[.pointer (some ⟨g, 0, none⟩)] w fun e w' => e = .returned (hv (Tm.root 0 l)) ∧ Below w.heap.size w w' := by
  obtain ⟨top, h1, h2⟩ := h.blk
  have X1 := Lib.hid (alloc_below w (.cells (List.replicate 32 (Value.int .u8 0)).toArray 30))
  have B1 := Lib.hid (Blk.new w 30 (List.replicate 32 (Value.int .u8 0)))
  have c0 : (w.alloc (.cells (List.replicate 32 (Value.int .u8 0)).toArray 30)).cell? ⟨g, 0, none⟩ = some (ptr top) := (h1.below X1.out h1.lt).cell 0
  have CS := Lib.hid (sumAll_of (h2.low X1.out))
  have hl := Tm.root_length 0 l
  unfold hv at CS ⊢
  have HI := Lib.hid (hash_info hl)
  have HO := Lib.hid (cells_u8 (Tm.root 0 l))
  have HN : Hid ((List.replicate 32 (Value.int .u8 0)).length = ((Tm.root 0 l).map cellOf).length) := by unfold Hid; rw [List.length_map, hl]; rfl
  obtain ⟨D, hD⟩ : ∃ D, D = (Tm.root 0 l).map cellOf := ⟨_, rfl⟩
  rw [← hD] at HI HO HN CS ⊢
  clear hD h h1 h2 hl
  obtain ⟨Z, hZ⟩ : ∃ Z, Z = List.replicate 32 (Value.int .u8 0) := ⟨_, rfl⟩
  go_enter Tryd.func17, Tryd.ntmps17
  go_upto_region 1 with (fail)
  change Code.wp _ _ _ _ (w.alloc (.cells (List.replicate 32 (Value.int .u8 0)).toArray 30))
  generalize w.alloc (.cells (List.replicate 32 (Value.int .u8 0)).toArray 30) = w1 at *
  rw [← hZ] at B1 HN
  clear hZ
  go_wp2_with (first
    | (refine CS.out.mono ?_; rintro e w2 ⟨rfl, hX⟩; have B2 := Lib.hid (B1.out.below hX B1.out.lt); have W2 := Lib.hid (X1.out.trans (hX.mono X1.out.size)); clear hX)
    | ((with_reducible refine storeGen_law rfl 30 (.tmp 2) (.tmp 10) rfl w.heap.size rfl D rfl 30 Z HI.out HN.out HO.out w.heap.size w B2.out W2.out (Nat.le_refl _) ?_); intro w6 B6 W6))
  exact bodyPost_ret (results_cell_row rfl _ _ w.heap.size 30 D.toArray (0, 0) _ rfl B6.out Tryd.underlying30 rfl (by rw [HI.out]; simp)) rfl ⟨rfl, W6.out⟩
end Go.Proofs.YtmidbpjdpakkoaaDoor
