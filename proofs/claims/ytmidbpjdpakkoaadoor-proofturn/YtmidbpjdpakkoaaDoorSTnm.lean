import Derived.Test.YtmidbpjdpakkoaaDoorSTo
namespace Go.Proofs.YtmidbpjdpakkoaaDoor
set_option linter.unusedVariables false
set_option linter.unusedSimpArgs false
set_option maxRecDepth 100000
open Go.RowKit
def sm (k : Int) : List UInt8 := Sha.by8 k :: Sha.by8 (k / 256) :: 1 :: List.replicate 29 0
theorem sm_length (k : Int) : (sm k).length = 32 := rfl
theorem sm_cells (k : Int) : (sm k).map cellOf = .int .u8 (k % 256) :: .int .u8 (k / 256 % 256) :: .int .u8 1 :: List.replicate 29 (.int .u8 0) := by
  unfold sm
  rw [List.map_cons, List.map_cons, List.map_cons, cell_by8, cell_by8]
  rfl
theorem sm_built (a b : Int) : Tryd.prog.built 30 [(0, .int .u8 a), (1, .int .u8 b), (2, .int .u8 1)] = some (.int .u8 a :: .int .u8 b :: .int .u8 1 :: List.replicate 29 (.int .u8 0)).toArray := by kernel_rfl
set_option maxRecDepth 100000 in
set_option maxHeartbeats 1000000 in
theorem sm_any (k : Int) (w : World) : Calls Tryd.prog 27 #[.int .i64 k] w fun e w' => e = .returned (hv (sm k)) ∧ Below w.heap.size w w' := by
  have X1 := Lib.hid (alloc_below w (.cells (List.replicate 32 (Value.int .u8 0)).toArray 30))
  have B1 := Lib.hid (Blk.new w 30 (List.replicate 32 (Value.int .u8 0)))
  have HB := Lib.hid (sm_built (k % 256) (k / 256 % 256))
  have HI := Lib.hid (hash_info (sm_length k))
  have HO := Lib.hid (cells_u8 (sm k))
  have HN : Hid ((List.replicate 32 (Value.int .u8 0)).length = ((sm k).map cellOf).length) := rfl
  rw [← sm_cells, ← IntKind.wrap_u8' k, ← IntKind.wrap_u8' (k / 256)] at HB
  unfold hv
  obtain ⟨D, hD⟩ : ∃ D, D = (sm k).map cellOf := ⟨_, rfl⟩
  rw [← hD] at HB HI HO HN ⊢
  clear hD
  go_enter Tryd.func27, Tryd.ntmps27
  go_upto_region 1 with (fail)
  change Code.wp _ _ _ _ (w.alloc (.cells (List.replicate 32 (Value.int .u8 0)).toArray 30))
  generalize w.alloc (.cells (List.replicate 32 (Value.int .u8 0)).toArray 30) = w1 at *
  refine wp_region_lit ?_
  refine wpList_plain rfl fun K hK => ?_
  go_simp
  refine hK _ _ ?_
  clear hK K
  try simp only [zpt]
  refine wpList_plain rfl fun K hK => ?_
  go_simp
  refine hK _ _ ?_
  clear hK K
  try simp only [zpt]
  refine wpList_plain rfl fun K hK => ?_
  go_simp
  refine hK _ _ ?_
  clear hK K
  try simp only [zpt]
  refine wpList_plain rfl fun K hK => ?_
  go_simp
  refine hK _ _ ?_
  clear hK K
  try simp only [zpt]
  refine wpList_plain rfl fun K hK => ?_
  go_simp
  refine hK _ _ ?_
  clear hK K
  try simp only [zpt]
  refine build_law rfl 30 #[(0, .tmp 4), (1, .tmp 7), (2, .const (.int .u8 1))] rfl D (by simp only [List.map_toArray, List.map_cons, List.map_nil]; exact HB.out) ?_
  try simp only [zpt]
  refine storeGen_law rfl 30 (.tmp 2) (.tmp 8) rfl w.heap.size rfl D rfl 30 (List.replicate 32 (Value.int .u8 0)) HI.out HN.out HO.out w.heap.size w B1.out X1.out (Nat.le_refl _) ?_
  intro w9 B9 W9
  go_wp2_with fail
  exact bodyPost_ret (results_cell_row rfl _ _ w.heap.size 30 D.toArray (0, 0) _ rfl B9.out Tryd.underlying30 rfl (by rw [HI.out]; simp)) rfl ⟨rfl, W9.out⟩
def nmJ (k : Int) : Nat := ((k.tmod 24 + 24).tmod 24).toNat
theorem nmJ_eq (k : Int) : (k.tmod 24 + 24).tmod 24 = (nmJ k : Int) ∧ nmJ k < 24 := by
  unfold nmJ
  have h1 := Int.tmod_lt_of_pos k (show (0 : Int) < 24 by decide)
  have h2 : -24 < k.tmod 24 := by
    rcases Int.le_total 0 k with h | h
    · have := Int.tmod_nonneg 24 h; omega
    · have h3 := Int.tmod_lt_of_pos (-k) (show (0 : Int) < 24 by decide)
      rw [Int.neg_tmod] at h3
      omega
  have h4 : (k.tmod 24 + 24).tmod 24 = (k.tmod 24 + 24) % 24 := Int.tmod_eq_emod_of_nonneg (by omega)
  rw [h4]
  omega
def nmC (j : Nat) : List Value :=
  if j < 8 then (List.replicate 32 (Value.int .u8 0)).set 0 (.int .u8 ((j : Int) * 32))
  else if j < 16 then (((List.replicate 32 (Value.int .u8 0)).set 0 (.int .u8 165)).set 1 (.int .u8 90)).set 31 (.int .u8 ((j : Int) - 8))
  else ((List.replicate 32 (Value.int .u8 0)).set j (.int .u8 128)).set 0 (.int .u8 (j : Int))
def nmL (j : Nat) : List UInt8 :=
  if j < 8 then (List.replicate 32 (0 : UInt8)).set 0 (UInt8.ofNat (j * 32))
  else if j < 16 then (((List.replicate 32 (0 : UInt8)).set 0 165).set 1 90).set 31 (UInt8.ofNat (j - 8))
  else ((List.replicate 32 (0 : UInt8)).set j 128).set 0 (UInt8.ofNat j)
def nm (k : Int) : List UInt8 := nmL (nmJ k)
theorem nmL_cells : ∀ j : Nat, j < 24 → (nmL j).map cellOf = nmC j
  | 0, _ => rfl
  | 1, _ => rfl
  | 2, _ => rfl
  | 3, _ => rfl
  | 4, _ => rfl
  | 5, _ => rfl
  | 6, _ => rfl
  | 7, _ => rfl
  | 8, _ => rfl
  | 9, _ => rfl
  | 10, _ => rfl
  | 11, _ => rfl
  | 12, _ => rfl
  | 13, _ => rfl
  | 14, _ => rfl
  | 15, _ => rfl
  | 16, _ => rfl
  | 17, _ => rfl
  | 18, _ => rfl
  | 19, _ => rfl
  | 20, _ => rfl
  | 21, _ => rfl
  | 22, _ => rfl
  | 23, _ => rfl
  | j + 24, h => absurd h (by omega)
theorem nm_cells (k : Int) : (nm k).map cellOf = nmC (nmJ k) := nmL_cells (nmJ k) (nmJ_eq k).2
theorem nmL_length (j : Nat) : (nmL j).length = 32 := by unfold nmL; (repeat' split) <;> simp
theorem nm_length (k : Int) : (nm k).length = 32 := nmL_length _
set_option maxRecDepth 100000 in
set_option maxHeartbeats 1000000 in
theorem nm_any (k : Int) (hk1 : -9223372036854775808 ≤ k) (hk2 : k ≤ 9223372036854775807) (w : World) : Calls Tryd.prog 20 #[.int .i64 k] w fun e w' => e = .returned (hv (nm k)) ∧ Below w.heap.size w w' := by
  obtain ⟨ej, hj⟩ := nmJ_eq k
  have HC := Lib.hid (nm_cells k)
  have HI := Lib.hid (hash_info (nm_length k))
  have HO := Lib.hid (cells_u8 (nm k))
  have HN : Hid ((List.replicate 32 (Value.int .u8 0)).length = ((nm k).map cellOf).length) := by unfold Hid; rw [List.length_map, nm_length]; rfl
  obtain ⟨j, hjj⟩ : ∃ j, j = nmJ k := ⟨_, rfl⟩
  rw [← hjj] at ej hj HC
  unfold hv
  obtain ⟨D, hD⟩ : ∃ D, D = (nm k).map cellOf := ⟨_, rfl⟩
  rw [← hD] at HC HI HO HN ⊢
  obtain ⟨w1, hw1⟩ : ∃ w1, w1 = (w.alloc (.cells (List.replicate 32 (Value.int .u8 0)).toArray 30)).alloc (.cells (List.replicate 32 (Value.int .u8 0)).toArray 30) := ⟨_, rfl⟩
  have X1 : Hid (Below w.heap.size w w1) := by unfold Hid; rw [hw1]; exact ((Below.refl _ _).alloc (Nat.le_refl _) _).alloc (by simp) _
  have B0 : Hid (Blk w1 w.heap.size 30 (List.replicate 32 (Value.int .u8 0))) := by unfold Hid; rw [hw1]; exact (Blk.new w 30 _).alloc _
  have B1 : Hid (Blk w1 (w.heap.size + 1) 30 (List.replicate 32 (Value.int .u8 0))) := by unfold Hid; rw [hw1]; exact Blk.at_new _ _ 30 _ _ rfl (by simp)
  have hm1 : IntKind.i64.wrap (k.tmod 24 + 24) = k.tmod 24 + 24 := by
    have h1 := Int.tmod_lt_of_pos k (show (0 : Int) < 24 by decide)
    have h2 : -24 < k.tmod 24 := by
      rcases Int.le_total 0 k with h | h
      · have := Int.tmod_nonneg 24 h; omega
      · have h3 := Int.tmod_lt_of_pos (-k) (show (0 : Int) < 24 by decide)
        rw [Int.neg_tmod] at h3
        omega
    exact wrap_small _ (by omega) (by omega)
  clear hD hjj
  go_enter Tryd.func20, Tryd.ntmps20
  go_upto_region 4 with (fail)
  change Code.wp _ _ _ _ ((w.alloc (.cells (List.replicate 32 (Value.int .u8 0)).toArray 30)).alloc (.cells (List.replicate 32 (Value.int .u8 0)).toArray 30))
  rw [← hw1]
  clear hw1 ej hm1
  have hle : w.heap.size ≤ w.heap.size + 1 := by omega
  have c0 : w1.cell? ⟨w.heap.size + 1, 0, none⟩ = some (.int .u8 0) := B1.out.cell 0
  have f0 : w1.frozen? ⟨w.heap.size + 1, 0, none⟩ = false := B1.out.frozen 0
  by_cases h8 : j < 8
  · have d8 : decide ((j : Int) < 8) = true := decide_eq_true (by omega)
    have e1 : IntKind.i64.wrap ((j : Int) * 32) = (j : Int) * 32 := wrap_small _ (by omega) (by omega)
    have e2 : IntKind.u8.wrap ((j : Int) * 32) = (j : Int) * 32 := by rw [IntKind.wrap_u8']; omega
    have HD : Hid (D = (List.replicate 32 (Value.int .u8 0)).set 0 (.int .u8 ((j : Int) * 32))) := by unfold Hid; rw [HC.out, nmC, if_pos h8]
    clear HC
    go_upto_region 8 with (fail)
    clear c0 f0 d8 e1 e2
    change Code.wp _ _ _ _ (w1.setCell ⟨w.heap.size + 1, 0, none⟩ (.int .u8 ((j : Int) * 32)))
    have B2 : Hid (Blk (w1.setCell ⟨w.heap.size + 1, 0, none⟩ (.int .u8 ((j : Int) * 32))) (w.heap.size + 1) 30 D) := by unfold Hid; rw [HD.out]; exact (B1.out.set_ 0 (.int .u8 ((j : Int) * 32)))
    have B3 : Hid (Blk (w1.setCell ⟨w.heap.size + 1, 0, none⟩ (.int .u8 ((j : Int) * 32))) w.heap.size 30 (List.replicate 32 (Value.int .u8 0))) := (B0.out.far (by show w.heap.size ≠ w.heap.size + 1; omega) _)
    have X2 : Hid (Below w.heap.size w (w1.setCell ⟨w.heap.size + 1, 0, none⟩ (.int .u8 ((j : Int) * 32)))) := (X1.out.setCell hle _)
    generalize w1.setCell ⟨w.heap.size + 1, 0, none⟩ (.int .u8 ((j : Int) * 32)) = w2 at *
    go_wp2_with (first
      | (with_reducible refine load_law rfl 30 (.tmp 3) rfl (w.heap.size + 1) 0 rfl D _ Tryd.underlying30 rfl HI.out B2.out.cells ?_)
      | ((with_reducible refine storeGen_law rfl 30 (.tmp 2) (.tmp 29) rfl w.heap.size rfl D rfl 30 (List.replicate 32 (Value.int .u8 0)) HI.out HN.out HO.out w.heap.size w B3.out X2.out (Nat.le_refl _) ?_); intro w9 B9 W9))
    exact bodyPost_ret (results_cell_row rfl _ _ w.heap.size 30 D.toArray (0, 0) _ rfl B9.out Tryd.underlying30 rfl (by rw [HI.out]; simp)) rfl ⟨rfl, W9.out⟩
  · have d8 : decide ((j : Int) < 8) = false := decide_eq_false (by omega)
    by_cases h16 : j < 16
    · have d16 : decide ((j : Int) < 16) = true := decide_eq_true (by omega)
      have e1 : IntKind.i64.wrap ((j : Int) - 8) = (j : Int) - 8 := wrap_small _ (by omega) (by omega)
      have e2 : IntKind.u8.wrap ((j : Int) - 8) = (j : Int) - 8 := by rw [IntKind.wrap_u8']; omega
      have c1 : w1.cell? ⟨w.heap.size + 1, 1, none⟩ = some (.int .u8 0) := B1.out.cell 1
      have f1 : w1.frozen? ⟨w.heap.size + 1, 1, none⟩ = false := B1.out.frozen 1
      have c31 : w1.cell? ⟨w.heap.size + 1, 31, none⟩ = some (.int .u8 0) := B1.out.cell 31
      have f31 : w1.frozen? ⟨w.heap.size + 1, 31, none⟩ = false := B1.out.frozen 31
      have HD : Hid (D = (((List.replicate 32 (Value.int .u8 0)).set 0 (.int .u8 165)).set 1 (.int .u8 90)).set 31 (.int .u8 ((j : Int) - 8))) := by unfold Hid; rw [HC.out, nmC, if_neg h8, if_pos h16]
      clear HC
      go_upto_region 8 with (fail)
      clear c0 f0 c1 f1 c31 f31 d8 d16 e1 e2
      change Code.wp _ _ _ _ (((w1.setCell ⟨w.heap.size + 1, 0, none⟩ (.int .u8 165)).setCell ⟨w.heap.size + 1, 1, none⟩ (.int .u8 90)).setCell ⟨w.heap.size + 1, 31, none⟩ (.int .u8 ((j : Int) - 8)))
      have B2 : Hid (Blk (((w1.setCell ⟨w.heap.size + 1, 0, none⟩ (.int .u8 165)).setCell ⟨w.heap.size + 1, 1, none⟩ (.int .u8 90)).setCell ⟨w.heap.size + 1, 31, none⟩ (.int .u8 ((j : Int) - 8))) (w.heap.size + 1) 30 D) := by unfold Hid; rw [HD.out]; exact (((B1.out.set_ 0 (.int .u8 165)).set_ 1 (.int .u8 90)).set_ 31 (.int .u8 ((j : Int) - 8)))
      have B3 : Hid (Blk (((w1.setCell ⟨w.heap.size + 1, 0, none⟩ (.int .u8 165)).setCell ⟨w.heap.size + 1, 1, none⟩ (.int .u8 90)).setCell ⟨w.heap.size + 1, 31, none⟩ (.int .u8 ((j : Int) - 8))) w.heap.size 30 (List.replicate 32 (Value.int .u8 0))) := (((B0.out.far (by show w.heap.size ≠ w.heap.size + 1; omega) _).far (by show w.heap.size ≠ w.heap.size + 1; omega) _).far (by show w.heap.size ≠ w.heap.size + 1; omega) _)
      have X2 : Hid (Below w.heap.size w (((w1.setCell ⟨w.heap.size + 1, 0, none⟩ (.int .u8 165)).setCell ⟨w.heap.size + 1, 1, none⟩ (.int .u8 90)).setCell ⟨w.heap.size + 1, 31, none⟩ (.int .u8 ((j : Int) - 8)))) := (((X1.out.setCell hle _).setCell hle _).setCell hle _)
      generalize ((w1.setCell ⟨w.heap.size + 1, 0, none⟩ (.int .u8 165)).setCell ⟨w.heap.size + 1, 1, none⟩ (.int .u8 90)).setCell ⟨w.heap.size + 1, 31, none⟩ (.int .u8 ((j : Int) - 8)) = w2 at *
      go_wp2_with (first
        | (with_reducible refine load_law rfl 30 (.tmp 3) rfl (w.heap.size + 1) 0 rfl D _ Tryd.underlying30 rfl HI.out B2.out.cells ?_)
        | ((with_reducible refine storeGen_law rfl 30 (.tmp 2) (.tmp 29) rfl w.heap.size rfl D rfl 30 (List.replicate 32 (Value.int .u8 0)) HI.out HN.out HO.out w.heap.size w B3.out X2.out (Nat.le_refl _) ?_); intro w9 B9 W9))
      exact bodyPost_ret (results_cell_row rfl _ _ w.heap.size 30 D.toArray (0, 0) _ rfl B9.out Tryd.underlying30 rfl (by rw [HI.out]; simp)) rfl ⟨rfl, W9.out⟩
    · have d16 : decide ((j : Int) < 16) = false := decide_eq_false (by omega)
      have e2 : IntKind.u8.wrap (j : Int) = (j : Int) := by rw [IntKind.wrap_u8']; omega
      have cj : w1.cell? ⟨w.heap.size + 1, j, none⟩ = some (.int .u8 0) := by rw [B1.out.cell, List.getElem?_replicate, if_pos (by omega)]
      have fj : w1.frozen? ⟨w.heap.size + 1, j, none⟩ = false := B1.out.frozen j
      have hj0 : ¬ j = 0 := by omega
      have c0' : (w1.setCell ⟨w.heap.size + 1, j, none⟩ (.int .u8 128)).cell? ⟨w.heap.size + 1, 0, none⟩ = some (.int .u8 0) := by
        rw [(B1.out.set_ j (.int .u8 128)).cell, List.getElem?_set_ne (by omega)]; rfl
      have f0' : (w1.setCell ⟨w.heap.size + 1, j, none⟩ (.int .u8 128)).frozen? ⟨w.heap.size + 1, 0, none⟩ = false := (B1.out.set_ j (.int .u8 128)).frozen 0
      have HD : Hid (D = ((List.replicate 32 (Value.int .u8 0)).set j (.int .u8 128)).set 0 (.int .u8 (j : Int))) := by unfold Hid; rw [HC.out, nmC, if_neg h8, if_neg h16]
      clear HC
      go_upto_region 8 with (fail)
      clear c0 f0 c0' f0' cj fj d8 d16 e2
      change Code.wp _ _ _ _ ((w1.setCell ⟨w.heap.size + 1, j, none⟩ (.int .u8 128)).setCell ⟨w.heap.size + 1, 0, none⟩ (.int .u8 (j : Int)))
      have B2 : Hid (Blk ((w1.setCell ⟨w.heap.size + 1, j, none⟩ (.int .u8 128)).setCell ⟨w.heap.size + 1, 0, none⟩ (.int .u8 (j : Int))) (w.heap.size + 1) 30 D) := by unfold Hid; rw [HD.out]; exact ((B1.out.set_ j (.int .u8 128)).set_ 0 (.int .u8 (j : Int)))
      have B3 : Hid (Blk ((w1.setCell ⟨w.heap.size + 1, j, none⟩ (.int .u8 128)).setCell ⟨w.heap.size + 1, 0, none⟩ (.int .u8 (j : Int))) w.heap.size 30 (List.replicate 32 (Value.int .u8 0))) := ((B0.out.far (by show w.heap.size ≠ w.heap.size + 1; omega) _).far (by show w.heap.size ≠ w.heap.size + 1; omega) _)
      have X2 : Hid (Below w.heap.size w ((w1.setCell ⟨w.heap.size + 1, j, none⟩ (.int .u8 128)).setCell ⟨w.heap.size + 1, 0, none⟩ (.int .u8 (j : Int)))) := ((X1.out.setCell hle _).setCell hle _)
      generalize (w1.setCell ⟨w.heap.size + 1, j, none⟩ (.int .u8 128)).setCell ⟨w.heap.size + 1, 0, none⟩ (.int .u8 (j : Int)) = w2 at *
      go_wp2_with (first
        | (with_reducible refine load_law rfl 30 (.tmp 3) rfl (w.heap.size + 1) 0 rfl D _ Tryd.underlying30 rfl HI.out B2.out.cells ?_)
        | ((with_reducible refine storeGen_law rfl 30 (.tmp 2) (.tmp 29) rfl w.heap.size rfl D rfl 30 (List.replicate 32 (Value.int .u8 0)) HI.out HN.out HO.out w.heap.size w B3.out X2.out (Nat.le_refl _) ?_); intro w9 B9 W9))
      exact bodyPost_ret (results_cell_row rfl _ _ w.heap.size 30 D.toArray (0, 0) _ rfl B9.out Tryd.underlying30 rfl (by rw [HI.out]; simp)) rfl ⟨rfl, W9.out⟩
end Go.Proofs.YtmidbpjdpakkoaaDoor
