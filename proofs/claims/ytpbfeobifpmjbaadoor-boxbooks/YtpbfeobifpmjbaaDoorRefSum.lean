/- The contract of the document's Sum. -/
import Derived.Test.YtpbfeobifpmjbaaDoorRsha
namespace Go.Proofs.YtpbfeobifpmjbaaDoor
set_option linter.unusedVariables false
set_option linter.unusedSimpArgs false
set_option maxRecDepth 100000
open Go.RowKit

set_option maxRecDepth 100000 in
set_option maxHeartbeats 2000000 in
theorem rsum_any {w : World} {A : Option Addr} {n c : Nat} {b : List UInt8} (hr : Rd w A n c b) (hn : n ≤ 1000000000) :
    Calls Tryd.prog 32 #[.slice A n c] w fun e w' => ∃ D, e = .returned (.agg D.toArray) ∧ Summed b D ∧ Below w.heap.size w w' := by
  have HR := Lib.hid hr
  clear hr
  go_enter Tryd.func32, Tryd.ntmps32
  go_upto_region 2 with (fail)
  obtain ⟨w2, hw2⟩ : ∃ w2, w2 = ((w.alloc (.cells (List.replicate 32 (.int .u8 0)).toArray 34)).alloc (.cells (List.replicate 32 (.int .u8 0)).toArray 34)).drew := ⟨_, rfl⟩
  have hs : w.heap.size + 2 ≤ w2.heap.size := by rw [hw2]; show _ ≤ (World.alloc _ _).heap.size; simp
  have HW : Hid (Below w.heap.size w w2) := by unfold Hid; rw [hw2]; exact (((Below.refl _ _).alloc (Nat.le_refl _) _).alloc (by simp) _).drew
  have HZ0 : Hid (Blk w2 w.heap.size 34 (List.replicate 32 (.int .u8 0))) := by unfold Hid; rw [hw2]; exact ((Blk.new w 34 _).alloc _).drew
  have HZ1 : Hid (Blk w2 (w.heap.size + 1) 34 (List.replicate 32 (.int .u8 0))) := by unfold Hid; rw [hw2]; exact (Blk.at_new _ _ 34 _ _ rfl (by simp)).drew
  refine wp_region_any (by kernel_rfl) ?_
  change wpAny _ _ _ _ _ _ _ (((w.alloc (.cells (List.replicate 32 (.int .u8 0)).toArray 34)).alloc (.cells (List.replicate 32 (.int .u8 0)).toArray 34)).drew)
  rw [← hw2]
  clear hw2
  refine wpAny_take (i := 0) (oi := ?oi1) (v := .slice (some ⟨w.heap.size + 1, 0, none⟩) 32 32) ?hi1 (by kernel_rfl) (by kernel_rfl) (by kernel_rfl) ?hQ1 ?hy1 ?rest1
  case hi1 => simp only [List.getElem?_toArray, List.getElem?_cons_succ, List.getElem?_cons_zero]; rfl
  case hQ1 => exact fun _ _ _ h => h
  case hy1 => exact Or.inl ⟨by rfl, by intro w; go_simp⟩
  try simp only [Act.put, List.setIfInBounds_toArray, List.set_cons_zero, List.set_cons_succ]
  refine wpAny_take (i := 1) (oi := ?oi2) (v := .slice A n c) ?hi2 (by kernel_rfl) (by kernel_rfl) (by kernel_rfl) ?hQ2 ?hy2 ?rest2
  case hi2 => simp only [List.getElem?_toArray, List.getElem?_cons_succ, List.getElem?_cons_zero]; rfl
  case hQ2 => exact fun _ _ _ h => h
  case hy2 => exact Or.inl ⟨by rfl, by intro w; go_simp⟩
  try simp only [Act.put, List.setIfInBounds_toArray, List.set_cons_zero, List.set_cons_succ]
  refine wpAny_ready (rs := [2]) (by kernel_rfl) (by simp) ?_
  refine AllReady.cons (o := ?o3) ?ho3 (fun K hK => ?_) AllReady.nil
  case ho3 => simp only [List.getElem?_toArray, List.getElem?_cons_succ, List.getElem?_cons_zero]; rfl
  go_simp
  have X2 := Lib.hid ((Below.refl w2.heap.size w2).alloc (Nat.le_refl _) (.cells (Sha.H0.map wd).toArray 81))
  have HH := Lib.hid (Blk.new w2 81 (Sha.H0.map wd))
  have hs3 : w2.heap.size + 1 ≤ (w2.alloc (.cells (Sha.H0.map wd).toArray 81)).heap.size := by simp
  refine hK _ _ ?_
  clear hK K
  change wpAny _ _ _ _ _ _ _ (w2.alloc (.cells (Sha.H0.map wd).toArray 81))
  generalize w2.alloc (.cells (Sha.H0.map wd).toArray 81) = w3 at *
  try simp only [Act.put, List.setIfInBounds_toArray, List.set_cons_zero, List.set_cons_succ]
  have HR3 : Hid (Rd w3 A n c b) := (HR.out.below HW.out).below X2.out
  refine wpAny_ready (rs := [3]) (by kernel_rfl) (by simp) ?_
  refine AllReady.cons (o := ?o4) ?ho4 (fun K hK => ?_) AllReady.nil
  case ho4 => simp only [List.getElem?_toArray, List.getElem?_cons_succ, List.getElem?_cons_zero]; rfl
  go_simp
  refine (rsha_any HR3.out hn HH.out).mono ?_
  rintro e w4 ⟨A', c', rfl, hr4, hO4⟩
  have HR4 := Lib.hid hr4
  have hs4 := hO4.size
  have HZ04 : Hid (Blk w4 w.heap.size 34 (List.replicate 32 (.int .u8 0))) := (hO4.block _ (by omega) (by simp; omega)).trans (HZ0.out.below X2.out (by omega))
  have HZ14 : Hid (Blk w4 (w.heap.size + 1) 34 (List.replicate 32 (.int .u8 0))) := (hO4.block _ (by omega) (by simp; omega)).trans (HZ1.out.below X2.out (by omega))
  have W4 : Hid (Below w.heap.size w w4) := below_of_only (HW.out.trans (X2.out.mono (by omega))) hO4 (by omega) (by omega)
  refine hK _ _ ?_
  clear hK K hr4 hO4 HZ0 HZ1 HW HH X2 HR3
  try simp only [Act.put, List.setIfInBounds_toArray, List.set_cons_zero, List.set_cons_succ]
  obtain ⟨w5, hcopy, hB5, hO5⟩ := copy_into (off := 0) (dLen := 32) (dCap := 32) HZ14.out HR4.out (by simp)
  have hD : (List.replicate 32 (Value.int .u8 0)).take 0 ++ ((Sha.sum b).take (min 32 32)).map cellOf ++ (List.replicate 32 (Value.int .u8 0)).drop (0 + min 32 32) = (Sha.sum b).map cellOf := by
    rw [Nat.min_self, show (Sha.sum b).take 32 = Sha.sum b from List.take_of_length_le (by rw [Sha.sum_length]; omega)]
    simp
  rw [hD] at hB5
  obtain ⟨D, hDD⟩ : ∃ D, D = (Sha.sum b).map cellOf := ⟨_, rfl⟩
  rw [← hDD] at hB5
  have hM : Summed b D := hDD
  have HM := Lib.hid hM
  have HI := Lib.hid hM.info
  have HL : Hid ((List.replicate 32 (Value.int .u8 0)).length = D.length) := by unfold Hid; rw [hM.len]; rfl
  have H1 := Lib.hid hM.one
  have HB5 := Lib.hid hB5
  have HZ5 : Hid (Blk w5 w.heap.size 34 (List.replicate 32 (.int .u8 0))) := (hO5.block _ HZ04.out.lt (by simp)).trans HZ04.out
  have W5 : Hid (Below w.heap.size w w5) := below_of_only W4.out hO5 (by omega) (by omega)
  clear hD hB5 hDD hM hO5 W4 HZ04 HZ14 HR4
  refine wpAny_ready (rs := [4]) (by kernel_rfl) (by simp) ?_
  refine AllReady.cons (o := ?o5) ?ho5 (fun K hK => ?_) AllReady.nil
  case ho5 => simp only [List.getElem?_toArray, List.getElem?_cons_succ, List.getElem?_cons_zero]; rfl
  go_simp
  refine hK _ _ ?_
  clear hK K hcopy
  try simp only [Act.put]
  refine wpAny_done (by kernel_rfl) ?_ _
  go_wp2_with (first
    | ((with_reducible refine load_law rfl 34 (.tmp 3) rfl (w.heap.size + 1) 0 rfl D _ Tryd.underlying34 rfl HI.out HB5.out.cells ?_))
    | ((with_reducible refine storeGen_law rfl 34 (.tmp 2) (.tmp 9) rfl w.heap.size rfl D rfl 34 (List.replicate 32 (.int .u8 0)) HI.out HL.out H1.out w.heap.size w HZ5.out W5.out (Nat.le_refl _) ?_); intro w6 B6 W6))
  exact bodyPost_ret (results_cell_row rfl _ _ w.heap.size 34 D.toArray (0, 0) _ rfl B6.out Tryd.underlying34 rfl (by rw [HI.out]; simp)) rfl ⟨D, rfl, HM.out, W6.out⟩
end Go.Proofs.YtpbfeobifpmjbaaDoor
