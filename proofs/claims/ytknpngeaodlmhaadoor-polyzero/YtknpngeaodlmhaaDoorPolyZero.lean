/- The walk of PolyZero. -/
import Derived.Test.YtknpngeaodlmhaaDoorPolyAll
namespace Go.Proofs.YtknpngeaodlmhaaDoor
set_option linter.unusedVariables false
set_option linter.unusedSimpArgs false
open Go.RowKit
theorem steps_zero (b : List UInt8) : ∀ k, Pol.steps 0 b k = 0
  | 0 => rfl
  | k + 1 => by rw [Pol.steps, Int.mul_zero]; rfl
theorem zero_tag (k2 b : List UInt8) (h : k2.length = 16) : Pol.tag (List.replicate 16 0 ++ k2) b = k2 := by
  have e1 : (List.replicate 16 (0 : UInt8) ++ k2).take 16 = List.replicate 16 0 := by rw [List.take_append_of_le_length (by simp)]; exact List.take_of_length_le (by simp)
  have e2 : (List.replicate 16 (0 : UInt8) ++ k2).drop 16 = k2 := List.drop_left' (by simp)
  have e3 : Pol.le (Pol.clamp (List.replicate 16 0)) = 0 := by decide
  rw [Pol.tag, e1, e2, e3, steps_zero, Int.zero_add, ← h, Pol.bytesN_le]
theorem zero_key (n : Nat) (s : List UInt8) (hs : s.length = n) : (List.replicate 32 (Value.int .u8 0)).take 16 ++ (s.take (min n 16)).map cellOf ++ (List.replicate 32 (Value.int .u8 0)).drop (16 + min n 16) = (List.replicate 16 0 ++ padTo 16 s).map cellOf := by
  rw [List.take_replicate, List.drop_replicate, padTo, List.map_append, List.map_append, List.map_replicate, List.map_replicate, ← List.append_assoc, show 32 - (16 + min n 16) = 16 - s.length by omega]
  rw [show s.take (min n 16) = s.take 16 by rw [← hs, List.take_eq_take_iff]; omega]
  rfl
end Go.Proofs.YtknpngeaodlmhaaDoor
namespace Go.Proofs.YtknpngeaodlmhaaDoor.polyZero
open Go.RowKit

set_option maxRecDepth 100000 in
set_option maxHeartbeats 4000000 in
theorem walk (hA : AeOk) {A1 A2 : Option Addr} {n1 c1 n2 c2 : Nat} {x1 x2 : List UInt8} (w : World) (hg : Gl w) (hr1 : Rd w A1 n1 c1 x1) (hr2 : Rd w A2 n2 c2 x2) :
    Calls Tryd.prog 12 #[.slice A1 n1 c1, .slice A2 n2 c2] w fun e w' => e = .returned (.bool true) ∧ Below w.heap.size w w' := by
  have HG := Lib.hid hg
  have R1 := Lib.hid hr1
  have R2 := Lib.hid hr2
  have L1 := Lib.hid hr1.len
  clear hg hr1 hr2
  go_enter Tryd.func12, Tryd.ntmps12
  go_wp2_with (first | (go_at_call 14; refine (begun4_any hA HG.out).mono ?_; rintro e w1 ⟨rfl, HB⟩; have W1 := Lib.hid HB; clear HB))
  refine (short_any 80 (R2.out.below W1.out) (by omega)).mono ?_
  rintro e w' ⟨A3, n3, c3, rfl, hr3, rfl⟩
  have R3 := Lib.hid hr3
  have hl3 : n3 ≤ 80 := by rw [← hr3.len, List.length_take]; omega
  clear hr3
  obtain ⟨b, hb⟩ : ∃ l, l = x2.take 80 := ⟨_, rfl⟩
  rw [← hb] at R3
  have K1 := Lib.hid (R1.out.below W1.out)
  clear hb R1 R2
  go_upto_region 6 with (fail)
  obtain ⟨w2, hw2⟩ : ∃ x, x = w1.alloc (Obj.cells (List.replicate 32 (.int .u8 0)).toArray 28) := ⟨_, rfl⟩
  change Code.wp _ _ _ _ (w1.alloc (Obj.cells (List.replicate 32 (.int .u8 0)).toArray 28))
  have B2 : Blk w2 w1.heap.size 28 (List.replicate 32 (.int .u8 0)) := by rw [hw2]; exact Blk.new _ _ _
  have X2 : Below w1.heap.size w1 w2 := by rw [hw2]; exact alloc_below _ _
  rw [← hw2]
  obtain ⟨gk, hgk⟩ : ∃ g, g = w1.heap.size := ⟨_, rfl⟩
  rw [← hgk] at B2
  rw [← hgk]
  have K2 := K1.out.below X2
  obtain ⟨w3, hcopy, hB3, hO3⟩ := copy_into (off := 16) (dLen := 16) (dCap := 16) B2 K2 (by simp)
  rw [zero_key n1 x1 L1.out] at hB3
  obtain ⟨k2, hk2⟩ : ∃ l, l = padTo 16 x1 := ⟨_, rfl⟩
  have LK2 : k2.length = 16 := by rw [hk2, padTo_length]
  obtain ⟨key, hkey⟩ : ∃ l, l = List.replicate 16 0 ++ k2 := ⟨_, rfl⟩
  rw [← hk2, ← hkey] at hB3
  obtain ⟨kc, hkc⟩ : ∃ c, c = key.map cellOf := ⟨_, rfl⟩
  rw [← hkc] at hB3
  have LKY : key.length = 32 := by rw [hkey, List.length_append, List.length_replicate, LK2]
  have hTAG : Pol.tag key b = k2 := by rw [hkey]; exact zero_tag k2 b LK2
  have IK : Hid ((Tryd.prog.info? 28).map (·.size) = some kc.length) := by unfold Hid; rw [hkc, List.length_map, LKY]; kernel_rfl
  have B3 := Lib.hid hB3
  have X3 : Below w1.heap.size w1 w3 := below_of_only X2 hO3 (by omega) X2.size
  have W3 := Lib.hid (W1.out.trans (X3.mono W1.out.size))
  have R4 := Lib.hid (R3.out.below X3)
  obtain ⟨T, hT⟩ : ∃ T, T = k2.map cellOf := ⟨_, rfl⟩
  have CP : Hid (∀ W, Rd W A3 n3 c3 b → Calls Tryd.prog 24 #[.agg kc.toArray, .slice A3 n3 c3] W fun e w' => e = .returned (.agg T.toArray) ∧ Below W.heap.size W w') := fun W h => by rw [hkc, hT, ← hTAG]; exact ptag_any key LKY h
  have IT : Hid ((Tryd.prog.info? 37).map (·.size) = some T.length) := by unfold Hid; rw [hT, List.length_map, LK2]; kernel_rfl
  have LT : Hid ((List.replicate 16 (Value.int .u8 0)).length = T.length) := by unfold Hid; rw [hT, List.length_map, LK2]; rfl
  have OT : Hid (∀ v ∈ T, v.oneCell' = true) := by unfold Hid; rw [hT]; exact cells_u8 _
  have RK : Hid (∀ W : World, Blk W gk 28 kc → Rd W (some ⟨gk, 16, none⟩) 16 16 k2) := fun W hB => Rd.of_block hB LK2 (Nat.le_refl _) (by unfold maxLen; omega) (fun j hj => by
    rw [hkc, hkey, List.getElem?_map, List.getElem?_append_right (by simp)]
    simp [List.getD_eq_getElem?_getD, List.getElem?_eq_getElem (show j < k2.length by omega)])
  have RT : Hid (∀ (W : World) (g : Nat), Blk W g 37 T → Rd W (some ⟨g, 0, none⟩) 16 16 k2) := fun W g hB => Rd.of_block hB LK2 (Nat.le_refl _) (by unfold maxLen; omega) (fun j hj => by
    rw [hT, Nat.zero_add]
    simp [List.getD_eq_getElem?_getD, List.getElem?_eq_getElem (show j < k2.length by omega)])
  have hsl : ∀ W, (Instr.sliceAt 28 (.pointer (some ⟨gk, 0, none⟩)) (some (.int .i64 16)) none none).run Tryd.prog W = .ok (.slice (some ⟨gk, 16, none⟩) 16 16) W := fun W => sliceAt_l 28 32 Tryd.underlying28 gk 0 16 (by omega) W
  clear hw2 B2 X2 K2 hk2 hkey hkc hT hB3 hO3 X3 LKY hTAG LK2 hgk K1 R3 W1
  go_wp2_with (first
    | ((with_reducible refine load_law rfl 28 (.tmp 6) rfl gk 0 rfl kc _ Tryd.underlying28 rfl IK.out B3.out.cells ?_)))
  refine (CP.out _ R4.out).mono ?_
  rintro e w4 ⟨rfl, hX⟩
  have W4 := Lib.hid (W3.out.trans (hX.mono W3.out.size))
  have B4 := Lib.hid (B3.out.below hX B3.out.lt)
  clear hX R4 W3 B3 hcopy
  go_upto_region 8 with (first
    | ((with_reducible refine storeGen_law rfl 37 (.tmp 7) (.tmp 18) rfl w4.heap.size rfl T rfl 37 (List.replicate 16 (.int .u8 0)) IT.out LT.out OT.out w4.heap.size w4 ?_ ?_ (Nat.le_refl _) ?_)
       · exact Blk.at_new _ _ 37 _ _ (by rfl) rfl
       · exact (Below.refl _ _).alloc (Nat.le_refl _) _
       intro w5 B5 X5))
  have W5 := Lib.hid (W4.out.trans (X5.out.mono W4.out.size))
  have B6 := Lib.hid (B4.out.below X5.out B4.out.lt)
  obtain ⟨gt, hgt⟩ : ∃ g, g = w4.heap.size := ⟨_, rfl⟩
  rw [← hgt] at B5
  rw [← hgt]
  clear hgt X5 B4 W4
  have cv1 := conv_bytes (RK.out w5.drew B6.out.drew)
  have cv2 := conv_bytes (RT.out w5.drew gt B5.out.drew)
  have hsl2 := fun W => sliceAt_all 37 16 Tryd.underlying37 gt 0 W
  have WD : Hid (Below w.heap.size w w5.drew) := W5.out.drew
  refine wp_region_still_lit (by kernel_rfl) (by kernel_rfl) ?_
  have hD : ({ w5 with drawn := w5.drawn + 1 } : World) = w5.drew := rfl
  rw [hD]
  clear hD
  generalize w5.drew = w6 at *
  repeat still_step
  refine wpStill_nil ?_
  go_wp2_with fail
  go_ret
  exact ⟨rfl, WD.out⟩
end Go.Proofs.YtknpngeaodlmhaaDoor.polyZero
