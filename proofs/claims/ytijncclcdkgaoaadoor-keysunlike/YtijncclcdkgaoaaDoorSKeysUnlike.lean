import Derived.Test.YtijncclcdkgaoaaDoorSKeysAll
namespace Go.Proofs.YtijncclcdkgaoaaDoor.keysUnlike
set_option linter.unusedVariables false
set_option linter.unusedSimpArgs false
set_option maxRecDepth 100000
open Go.RowKit
set_option maxRecDepth 100000 in
set_option maxHeartbeats 8000000 in
theorem walk {P : BxP} (hB : BoxOk P) {A : Option Addr} {k c : Nat} {l : List UInt8} (n at_ : Int) (x : UInt8) (w : World) (hg : Gl w) (hr : Rd w A k c l) (n1 : -9223372036854775808 ≤ at_) (n2 : at_ ≤ 9223372036854775807) : Calls Tryd.prog 8 #[.slice A k c, .int .i64 n, .int .i64 at_, .int .u8 (x.toNat : Int)] w fun e w' => e = .returned (.bool true) ∧ Below w.heap.size w w' := by
  have HG := Lib.hid hg
  have HB := Lib.hid hB
  have hsz := hg.size
  obtain ⟨m, hm⟩ : ∃ m, m = min k 60 := ⟨_, rfl⟩
  have SH : Hid (∀ W, Calls Tryd.prog 13 #[.slice A k c, .int .i64 60] W fun e w' => e = .returned (.slice A m c) ∧ W = w') := fun W => by rw [hm]; exact short_eq 60 hr.cap hr.max (by omega)
  have RA : Hid (Rd w A m c (l.take 60)) := by unfold Hid; rw [hm]; exact hr.short 60
  have hm6 : m ≤ 60 := by omega
  obtain ⟨s, hs⟩ : ∃ s, s = l.take 60 := ⟨_, rfl⟩
  rw [← hs] at RA
  have HLZ : Hid (s.length = m) := RA.out.len
  clear hg hB hr hm hs
  go_enter Tryd.func8, Tryd.ntmps8
  go_wp2_with fail
  refine (begun9_any HB.out HG.out).mono ?_
  rintro e w1 ⟨rfl, hX⟩
  have W1 := Lib.hid hX
  replace RA := Lib.hid (RA.out.below hX)
  clear hX
  go_wp2_with fail
  refine (SH.out w1).mono ?_
  rintro e w2 ⟨rfl, rfl⟩
  clear SH
  by_cases b1 : n < 1
  · go_wp2_with fail
    go_ret
    exact ⟨rfl, W1.out⟩
  by_cases b2 : 8 < n
  · go_wp2_with fail
    go_ret
    exact ⟨rfl, W1.out⟩
  by_cases b3 : at_ < 0
  · go_wp2_with fail
    go_ret
    exact ⟨rfl, W1.out⟩
  by_cases b4 : (m : Int) = 0
  · go_wp2_with fail
    go_ret
    exact ⟨rfl, W1.out⟩
  obtain ⟨q, rfl⟩ := Int.eq_ofNat_of_zero_le (show 0 ≤ n by omega)
  obtain ⟨a, ha⟩ := Int.eq_ofNat_of_zero_le (show 0 ≤ at_ by omega)
  obtain ⟨i, hi⟩ : ∃ i, i = a % m := ⟨_, rfl⟩
  have hiz : i < m := by rw [hi]; exact Nat.mod_lt _ (by omega)
  have ei : at_.tmod (m : Int) = (i : Int) := by rw [ha, Int.tmod_eq_emod_of_nonneg (by omega), hi]; rfl
  have ei2 : at_ % (m : Int) = (i : Int) := by rw [ha, hi]; rfl
  clear ha hi
  have d1 : decide ((q : Int) < 1) = false := by simp; omega
  have d2 : decide (8 < (q : Int)) = false := by simp; omega
  have d3 : decide (at_ < 0) = false := by simp; omega
  have d4 : ((m : Int) == 0) = false := by simp; omega
  go_upto_region 8 with (first | (at_builtin; refine onto_law rfl (.const (.slice none 0 0)) (.tmp 34) rfl rfl rfl RA.out (Ow.empty _ w1.heap.size) (by simp; omega) (Nat.le_refl _) (Below.refl _ _) ?_; intro v5 w5 O5 X5))
  rw [List.nil_append] at O5
  obtain ⟨g, c5, cur, rfl, hgb, hB5, hc5, hm5, hcell⟩ := own_blk O5.out (by rw [HLZ.out]; omega)
  rw [HLZ.out] at hc5
  rw [HLZ.out]
  obtain ⟨y, hy⟩ : ∃ y, y = s.getD i 0 := ⟨_, rfl⟩
  have c0 : w5.cell? ⟨g, i, none⟩ = some (.int .u8 (y.toNat : Int)) := by rw [hB5.cell, hy]; exact hcell i (by rw [HLZ.out]; exact hiz)
  have f0 : w5.frozen? ⟨g, i, none⟩ = false := hB5.frozen i
  have hxor := xor_cell y x
  obtain ⟨yx, hyx⟩ : ∃ q, q = y ^^^ x := ⟨_, rfl⟩
  rw [← hyx] at hxor
  obtain ⟨l6, hl6⟩ : ∃ q, q = s.set i yx := ⟨_, rfl⟩
  have R6 : Hid (Rd (w5.setCell ⟨g, i, none⟩ (.int .u8 (yx.toNat : Int))) (some ⟨g, 0, none⟩) m c5 l6) := by
    have := rd_set yx hB5 (by rw [HLZ.out]; exact hc5) hm5 hcell (show i < s.length by rw [HLZ.out]; exact hiz)
    rw [HLZ.out] at this
    rw [hl6]
    exact this
  have X6 := Lib.hid (X5.out.setCell (p := ⟨g, i, none⟩) hgb (.int .u8 (yx.toNat : Int)))
  clear hB5 hcell hy hyx hl6 O5 X5
  go_upto_region 9 with (fail)
  clear c0 f0 hxor
  generalize w5.setCell ⟨g, i, none⟩ (.int .u8 (yx.toNat : Int)) = w6 at *
  have W6 := Lib.hid (W1.out.trans (X6.out.mono W1.out.size))
  clear X6 W1 RA ei ei2 hiz d1 d2 d3 d4
  go_wp2_with fail
  go_loopw [11] (fun v wr => ∃ k : Nat, k ≤ q ∧ v = .int .i64 k ∧ Hid (Rd wr (some ⟨g, 0, none⟩) m c5 l6) ∧ Hid (Below w.heap.size w wr)) (fun i _ => q - (intOf i).toNat)
  case atStart => exact ⟨0, by omega, rfl, R6, W6⟩
  case round =>
    clear R6 W6
    obtain ⟨k, hk, rfl, RA, WK⟩ := hrel
    by_cases hlt : k < q
    · have hlb : (k : Int) < (q : Int) := by omega
      obtain ⟨a0, ha0⟩ : ∃ z, z = (Rc.sealKey l6 (k : Int)).map cellOf := ⟨_, rfl⟩
      obtain ⟨km, hkm⟩ : ∃ z, z = (Rc.markKey l6).map cellOf := ⟨_, rfl⟩
      obtain ⟨kl, hkl⟩ : ∃ z, z = (Rc.labelKey l6).map cellOf := ⟨_, rfl⟩
      have LA0 : Hid (a0.length = 32) := by unfold Hid; rw [ha0, List.length_map, Rc.sealKey_length]
      have LKM : Hid (km.length = 32) := by unfold Hid; rw [hkm, List.length_map, Rc.markKey_length]
      have LKL : Hid (kl.length = 32) := by unfold Hid; rw [hkl, List.length_map, Rc.labelKey_length]
      have I32 : ∀ l : List Value, l.length = 32 → (Tryd.prog.info? 26).map (·.size) = some l.length := fun l h => by rw [h]; kernel_rfl
      have I96 : ∀ l : List Value, l.length = 96 → (Tryd.prog.info? 28).map (·.size) = some l.length := fun l h => by rw [h]; kernel_rfl
      have J96 : ∀ l : List Value, l.length = 96 → (Tryd.prog.info? 30).map (·.size) = some l.length := fun l h => by rw [h]; kernel_rfl
      have IA0 := Lib.hid (I32 a0 LA0.out)
      have IKM := Lib.hid (I32 km LKM.out)
      have IKL := Lib.hid (I32 kl LKL.out)
      obtain ⟨k0, hk0⟩ : ∃ k, k = a0 ++ km ++ kl := ⟨_, rfl⟩
      have LK0 : Hid (k0.length = 96) := by unfold Hid; rw [hk0, List.length_append, List.length_append, LA0.out, LKM.out, LKL.out]
      have IK0 := Lib.hid (I96 k0 LK0.out)
      have JK0 := Lib.hid (J96 k0 LK0.out)
      have e0 : (Rc.keysOf l6 (k : Int)).map cellOf = k0 := by rw [hk0, ha0, hkm, hkl]; exact keys_parts l6 (k : Int)
      have OK0 : Hid (∀ v ∈ k0, v.oneCell' = true) := by unfold Hid; rw [← e0]; exact cells_u8 _
      have CK0 : Hid (∀ W : World, Gl W → Rd W (some ⟨g, 0, none⟩) m c5 l6 → Calls Tryd.prog 14 #[.slice (some ⟨g, 0, none⟩) m c5, .int .i64 (k : Int)] W fun e w' => e = .returned (.agg k0.toArray) ∧ Below W.heap.size W w') := fun W h1 h2 => by rw [← e0]; exact keys_any (k : Int) h1 h2 (by omega) (by omega) (by omega)
      have RK0 : Hid (∀ W : World, Rd W (some ⟨g, 0, none⟩) m c5 l6 → Calls Tryd.prog 15 #[.slice (some ⟨g, 0, none⟩) m c5, .int .i64 (k : Int)] W fun e w' => e = .returned (.agg k0.toArray) ∧ Below W.heap.size W w') := fun W h2 => by rw [← e0]; exact rkeys_any (k : Int) h2 (by omega) (by omega) (by omega)
      have Q0 : Hid (∀ W, (Op.equalIn 10000 26 (.agg a0.toArray) (.agg a0.toArray)).run Tryd.prog W = .ok true W) := fun W => by rw [ha0]; exact same_hash _ (Rc.sealKey_length _ _) W
      have Q2 : Hid (∀ W, (Op.equalIn 10000 26 (.agg km.toArray) (.agg km.toArray)).run Tryd.prog W = .ok true W) := fun W => by rw [hkm]; exact same_hash _ (Rc.markKey_length _) W
      have Q3 : Hid (∀ W, (Op.equalIn 10000 26 (.agg kl.toArray) (.agg kl.toArray)).run Tryd.prog W = .ok true W) := fun W => by rw [hkl]; exact same_hash _ (Rc.labelKey_length _) W
      have HK0 := Lib.hid hk0
      clear ha0 hkm hkl hk0 e0 I32 I96 J96
      obtain ⟨Z, hZ⟩ : ∃ Z, Z = List.replicate 96 (Value.int .u8 0) := ⟨_, rfl⟩
      have HZ : Hid (Tryd.zeroCells28 = Z.toArray) := by unfold Hid; rw [hZ]; exact zeros28
      have HZ' : Hid (Tryd.zeroCells30 = Z.toArray) := by unfold Hid; rw [hZ]; exact zeros30
      have LZ0 : Hid (Z.length = k0.length) := by unfold Hid; rw [hZ, LK0.out]; rfl
      clear hZ
      go_wp2_with fail
      refine (CK0.out wr (HG.out.below WK.out hsz) RA.out).mono ?_
      rintro e wa0 ⟨rfl, hY⟩
      have Wwa0 := Lib.hid (WK.out.trans (hY.mono WK.out.size))
      replace RA := Lib.hid (RA.out.below hY)
      clear hY CK0
      go_wp2_with fail
      refine (RK0.out wa0 RA.out).mono ?_
      rintro e wb0 ⟨rfl, hY⟩
      have Wwb0 := Lib.hid (Wwa0.out.trans (hY.mono Wwa0.out.size))
      replace RA := Lib.hid (RA.out.below hY)
      clear hY RK0
      have Z1 : Hid (Blk ((wb0.alloc (.cells Tryd.zeroCells28 28)).alloc (.cells Tryd.zeroCells30 30)) wb0.heap.size 28 Z) := (Blk.at_new _ _ 28 _ _ HZ.out rfl).alloc _
      have Z2 : Hid (Blk ((((wb0.alloc (.cells Tryd.zeroCells28 28)).alloc (.cells Tryd.zeroCells30 30)).setRow wb0.heap.size k0.toArray)) (wb0.heap.size + 1) 30 Z) := (Blk.at_new _ _ 30 _ _ HZ'.out (by simp)).rowFar (by omega) _
      have hs4 := Wwb0.out.size
      go_upto_region 13 with (first
        | (with_reducible refine storeAll_law rfl 28 (.tmp 12) (.tmp 53) rfl wb0.heap.size rfl k0 rfl 28 Z Z1.out IK0.out LZ0.out OK0.out ?_)
        | (with_reducible refine storeAll_law rfl 30 (.tmp 13) (.tmp 56) rfl (wb0.heap.size + 1) rfl k0 rfl 30 Z Z2.out JK0.out LZ0.out OK0.out ?_))
      have KB0 := Lib.hid ((Z1.out.row (cs' := k0)).rowFar (show wb0.heap.size ≠ wb0.heap.size + 1 by omega) k0.toArray)
      have RB0 := Lib.hid (Z2.out.row (cs' := k0))
      have Xwz0 : Hid (Below wb0.heap.size wb0 ((((wb0.alloc (.cells Tryd.zeroCells28 28)).alloc (.cells Tryd.zeroCells30 30)).setRow wb0.heap.size k0.toArray).setRow (wb0.heap.size + 1) k0.toArray)) := below_setRow (below_setRow (((Below.refl _ _).alloc (Nat.le_refl _) _).alloc (by simp) _) (Nat.le_refl _) _) (by omega) _
      have Wwz0 := Lib.hid (Wwb0.out.trans (Xwz0.out.mono Wwb0.out.size))
      replace RA := Lib.hid (RA.out.below Xwz0.out)
      clear Z1 Z2 Xwz0
      generalize (((wb0.alloc (.cells Tryd.zeroCells28 28)).alloc (.cells Tryd.zeroCells30 30)).setRow wb0.heap.size k0.toArray).setRow (wb0.heap.size + 1) k0.toArray = wz0 at *
      obtain ⟨g0, hg0⟩ : ∃ g, g = wb0.heap.size := ⟨_, rfl⟩
      rw [← hg0] at KB0 RB0 hs4
      rw [← hg0]
      clear hg0 hs4
      have F000 : Hid (∀ j v, a0[j]? = some v → wz0.cell? ⟨g0, 0 + j, none⟩ = some v) := Blk.front (b := km ++ kl) (by rw [← List.append_assoc, ← HK0.out]; exact KB0.out)
      have F001 : Hid (∀ j v, a0[j]? = some v → wz0.cell? ⟨g0 + 1, 0 + j, none⟩ = some v) := Blk.front (b := km ++ kl) (by rw [← List.append_assoc, ← HK0.out]; exact RB0.out)
      have F010 : Hid (∀ j v, km[j]? = some v → wz0.cell? ⟨g0, 32 + j, none⟩ = some v) := Blk.part (c := kl) (by rw [← HK0.out]; exact KB0.out) LA0.out
      have F011 : Hid (∀ j v, km[j]? = some v → wz0.cell? ⟨g0 + 1, 32 + j, none⟩ = some v) := Blk.part (c := kl) (by rw [← HK0.out]; exact RB0.out) LA0.out
      have F020 : Hid (∀ j v, kl[j]? = some v → wz0.cell? ⟨g0, 64 + j, none⟩ = some v) := Blk.part (a := a0 ++ km) (c := []) (by rw [List.append_nil, ← HK0.out]; exact KB0.out) (by rw [List.length_append, LA0.out, LKM.out])
      have F021 : Hid (∀ j v, kl[j]? = some v → wz0.cell? ⟨g0 + 1, 64 + j, none⟩ = some v) := Blk.part (a := a0 ++ km) (c := []) (by rw [List.append_nil, ← HK0.out]; exact RB0.out) (by rw [List.length_append, LA0.out, LKM.out])
      have q0 := Q0.out
      have q2 := Q2.out
      have q3 := Q3.out
      go_wp2_with (first
        | ((with_reducible refine loadW_law ?gd 26 (.tmp 57) rfl g0 0 ?hx a0 _ Tryd.underlying26 rfl IA0.out F000.out ?_); (case gd => rfl); (case hx => rfl))
        | ((with_reducible refine loadW_law ?gd 26 (.tmp 59) rfl (g0 + 1) 0 ?hx a0 _ Tryd.underlying26 rfl IA0.out F001.out ?_); (case gd => rfl); (case hx => rfl))
        | ((with_reducible refine loadW_law ?gd 26 (.tmp 63) rfl g0 32 ?hx km _ Tryd.underlying26 rfl IKM.out F010.out ?_); (case gd => rfl); (case hx => rfl))
        | ((with_reducible refine loadW_law ?gd 26 (.tmp 65) rfl (g0 + 1) 32 ?hx km _ Tryd.underlying26 rfl IKM.out F011.out ?_); (case gd => rfl); (case hx => rfl))
        | ((with_reducible refine loadW_law ?gd 26 (.tmp 70) rfl g0 64 ?hx kl _ Tryd.underlying26 rfl IKL.out F020.out ?_); (case gd => rfl); (case hx => rfl))
        | ((with_reducible refine loadW_law ?gd 26 (.tmp 72) rfl (g0 + 1) 64 ?hx kl _ Tryd.underlying26 rfl IKL.out F021.out ?_); (case gd => rfl); (case hx => rfl)))
      go_roundw
      case rel => exact ⟨k + 1, by omega, by go_num, RA, Wwz0⟩
      case measure => simp [intOf]; omega
    · have hlb : ¬ (k : Int) < (q : Int) := by omega
      go_wp2_with fail
      go_ret
      exact ⟨rfl, WK.out⟩
end Go.Proofs.YtijncclcdkgaoaaDoor.keysUnlike
