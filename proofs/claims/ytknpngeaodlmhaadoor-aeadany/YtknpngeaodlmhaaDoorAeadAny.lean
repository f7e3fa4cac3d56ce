/- The walk of AeadAny. -/
import Derived.Test.YtknpngeaodlmhaaDoorAeW
namespace Go.Proofs.YtknpngeaodlmhaaDoor.aeadAny
set_option linter.unusedVariables false
set_option linter.unusedSimpArgs false
open Go.RowKit

set_option maxRecDepth 100000 in
set_option maxHeartbeats 8000000 in
theorem walk (hA : AeOk) {A1 A2 A3 A4 A5 : Option Addr} {n1 c1 n2 c2 n3 c3 n4 c4 n5 c5 : Nat} {x1 x2 x3 x4 x5 : List UInt8} (at_ : Int) (x : UInt8) (w : World) (hg : Gl w) (hr1 : Rd w A1 n1 c1 x1) (hr2 : Rd w A2 n2 c2 x2) (hr3 : Rd w A3 n3 c3 x3) (hr4 : Rd w A4 n4 c4 x4) (hr5 : Rd w A5 n5 c5 x5) :
    Calls Tryd.prog 8 #[.slice A1 n1 c1, .slice A2 n2 c2, .slice A3 n3 c3, .slice A4 n4 c4, .slice A5 n5 c5, .int .i64 at_, .int .u8 (x.toNat : Int)] w fun e w' => e = .returned (.bool true) ∧ Below w.heap.size w w' := by
  have HG := Lib.hid hg
  have R1 := Lib.hid hr1
  have R2 := Lib.hid hr2
  have R3 := Lib.hid hr3
  have R4 := Lib.hid hr4
  have R5 := Lib.hid hr5
  clear hg hr1 hr2 hr3 hr4 hr5
  go_enter Tryd.func8, Tryd.ntmps8
  go_wp2_with (first | (go_at_call 14; refine (begun4_any hA HG.out).mono ?_; rintro e w1 ⟨rfl, HB⟩; have W1 := Lib.hid HB; clear HB))
  refine (short_any 30 (R3.out.below W1.out) (by omega)).mono ?_
  rintro e w' ⟨B3, m3, d3, rfl, hr, rfl⟩
  have S3 := Lib.hid hr
  have hl3 : m3 ≤ 30 := by rw [← hr.len, List.length_take]; omega
  obtain ⟨l3, hb3⟩ : ∃ l, l = x3.take 30 := ⟨_, rfl⟩
  rw [← hb3] at S3
  clear hb3 hr
  go_wp2_with fail
  refine (short_any 60 (R4.out.below W1.out) (by omega)).mono ?_
  rintro e w' ⟨B4, m4, d4, rfl, hr, rfl⟩
  have S4 := Lib.hid hr
  have hl4 : m4 ≤ 60 := by rw [← hr.len, List.length_take]; omega
  obtain ⟨l4, hb4⟩ : ∃ l, l = x4.take 60 := ⟨_, rfl⟩
  rw [← hb4] at S4
  clear hb4 hr
  go_wp2_with fail
  refine (short_any 60 (R5.out.below W1.out) (by omega)).mono ?_
  rintro e w' ⟨B5, m5, d5, rfl, hr, rfl⟩
  have S5 := Lib.hid hr
  have hl5 : m5 ≤ 60 := by rw [← hr.len, List.length_take]; omega
  obtain ⟨l5, hb5⟩ : ∃ l, l = x5.take 60 := ⟨_, rfl⟩
  rw [← hb5] at S5
  clear hb5 hr
  have K1 := Lib.hid (R1.out.below W1.out)
  have M1 := Lib.hid (R2.out.below W1.out)
  clear R1 R2 R3 R4 R5
  go_wp2_with fail
  refine (key_any K1.out).mono ?_
  rintro e w3 ⟨rfl, hX⟩
  have W3 := Lib.hid (W1.out.trans (hX.mono W1.out.size))
  have T3 := Lib.hid (S3.out.below hX)
  have T4 := Lib.hid (S4.out.below hX)
  have T5 := Lib.hid (S5.out.below hX)
  have M3 := Lib.hid (M1.out.below hX)
  obtain ⟨key, hkey⟩ : ∃ k, k = padTo 32 x1 := ⟨_, rfl⟩
  rw [← hkey]
  have LK : Hid (key.length = 32) := by unfold Hid; rw [hkey, padTo_length]
  clear hX hkey K1 M1 S3 S4 S5 W1
  go_wp2_with fail
  refine (nonce_any M3.out).mono ?_
  rintro e w4 ⟨rfl, hX⟩
  have W4 := Lib.hid (W3.out.trans (hX.mono W3.out.size))
  have U3 := Lib.hid (T3.out.below hX)
  have U4 := Lib.hid (T4.out.below hX)
  have U5 := Lib.hid (T5.out.below hX)
  obtain ⟨nonce, hnon⟩ : ∃ k, k = padTo 12 x2 := ⟨_, rfl⟩
  rw [← hnon]
  have LN : Hid (nonce.length = 12) := by unfold Hid; rw [hnon, padTo_length]
  obtain ⟨kc, hkc⟩ : ∃ c, c = key.map cellOf := ⟨_, rfl⟩
  obtain ⟨nc, hnc⟩ : ∃ c, c = nonce.map cellOf := ⟨_, rfl⟩
  rw [← hkc, ← hnc]
  obtain ⟨nC, hnC⟩ : ∃ m, m = m4 + 16 := ⟨_, rfl⟩
  obtain ⟨sl, hsl⟩ : ∃ l, l = Ae.sealed key nonce l3 l4 := ⟨_, rfl⟩
  have HLS : Hid (sl.length = nC) := by unfold Hid; rw [hsl, Ae.sealed_length, U4.out.len, hnC]
  have CS : Hid (∀ W, Rd W B3 m3 d3 l3 → Rd W B4 m4 d4 l4 → Calls Tryd.prog 26 #[.agg kc.toArray, .agg nc.toArray, .slice B3 m3 d3, .slice B4 m4 d4] W (RetR W sl)) := fun W h h' => by rw [hkc, hnc, hsl]; exact hA.s key nonce LK.out LN.out h h' (by omega) (by omega)
  have CM : Hid (∀ W A n c l, Rd W B3 m3 d3 l3 → Rd W A n c l → n ≤ 10000 → Calls Tryd.prog 29 #[.agg kc.toArray, .agg nc.toArray, .slice B3 m3 d3, .slice A n c] W fun e w' => e = .returned (.bool true) ∧ Below W.heap.size W w') := fun W A n c l h h' hn => by rw [hkc, hnc]; exact same4_any hA key nonce LK.out LN.out h h' (by omega) hn
  have hkl : kc.length = 32 := by rw [hkc, List.length_map, LK.out]
  have hnl : nc.length = 12 := by rw [hnc, List.length_map, LN.out]
  have IK : Hid ((Tryd.prog.info? 28).map (·.size) = some kc.length) := by unfold Hid; rw [hkl]; kernel_rfl
  have IN : Hid ((Tryd.prog.info? 30).map (·.size) = some nc.length) := by unfold Hid; rw [hnl]; kernel_rfl
  have ZK : Hid ((List.replicate 32 (Value.int .u8 0)).length = kc.length) := by unfold Hid; rw [hkl]; rfl
  have ZN : Hid ((List.replicate 12 (Value.int .u8 0)).length = nc.length) := by unfold Hid; rw [hnl]; rfl
  have OK' : Hid (∀ v ∈ kc, v.oneCell' = true) := by unfold Hid; rw [hkc]; exact cells_u8 _
  have ON' : Hid (∀ v ∈ nc, v.oneCell' = true) := by unfold Hid; rw [hnc]; exact cells_u8 _
  have hCb : nC ≤ 76 := by omega
  have hC0 : 0 < nC := by omega
  clear hX hnon hkc hnc hkl hnl M3 T3 T4 T5 W3 hsl hnC
  go_upto_region 6 with (first
    | ((with_reducible refine storeAll_law rfl 28 (.tmp 16) (.tmp 30) rfl w4.heap.size rfl kc rfl 28 (List.replicate 32 (.int .u8 0)) ?_ IK.out ZK.out OK'.out ?_); exact (Blk.at_new _ _ 28 _ _ (by rfl) rfl).alloc _)
    | ((with_reducible refine storeAll_law rfl 30 (.tmp 17) (.tmp 32) rfl (w4.heap.size + 1) rfl nc rfl 30 (List.replicate 12 (.int .u8 0)) ?_ IN.out ZN.out ON'.out ?_); exact (Blk.at_new _ _ 30 _ _ (by rfl) (by simp)).rowFar (by simp) _))
  obtain ⟨u4, hu4⟩ : ∃ u, u = (w4.alloc (.cells (List.replicate 32 (.int .u8 0)).toArray 28)).alloc (.cells (List.replicate 12 (.int .u8 0)).toArray 30) := ⟨_, rfl⟩
  have U0 : Blk u4 w4.heap.size 28 (List.replicate 32 (.int .u8 0)) := by rw [hu4]; exact (Blk.new w4 28 _).alloc _
  have U1 : Blk u4 (w4.heap.size + 1) 30 (List.replicate 12 (.int .u8 0)) := by rw [hu4]; exact Blk.at_new _ _ 30 _ _ rfl (by simp)
  have UX : Below w4.heap.size w4 u4 := by rw [hu4]; exact ((Below.refl _ _).alloc (Nat.le_refl _) _).alloc (by simp) _
  have B0 : Hid (Blk ((u4.setRow w4.heap.size kc.toArray).setRow (w4.heap.size + 1) nc.toArray) w4.heap.size 28 kc) := (Blk.row U0).rowFar (by simp) _
  have B1 : Hid (Blk ((u4.setRow w4.heap.size kc.toArray).setRow (w4.heap.size + 1) nc.toArray) (w4.heap.size + 1) 30 nc) := Blk.row (U1.rowFar (by simp) _)
  have X5 : Hid (Below w4.heap.size w4 ((u4.setRow w4.heap.size kc.toArray).setRow (w4.heap.size + 1) nc.toArray)) := below_setRow (below_setRow UX (Nat.le_refl _) _) (by omega) _
  clear U0 U1 UX
  change Code.wp _ _ _ _ ((((w4.alloc (.cells (List.replicate 32 (.int .u8 0)).toArray 28)).alloc (.cells (List.replicate 12 (.int .u8 0)).toArray 30)).setRow w4.heap.size kc.toArray).setRow (w4.heap.size + 1) nc.toArray)
  rw [← hu4]
  clear hu4
  obtain ⟨gn, hgn⟩ : ∃ g, g = w4.heap.size + 1 := ⟨_, rfl⟩
  obtain ⟨gk, hgk⟩ : ∃ g, g = w4.heap.size := ⟨_, rfl⟩
  have hgg : gn ≠ gk := by omega
  have hgl : w4.heap.size ≤ gk := by omega
  rw [← hgn] at B0 B1 X5
  rw [← hgn]
  generalize (u4.setRow w4.heap.size kc.toArray).setRow gn nc.toArray = w5 at *
  rw [← hgk] at B0
  rw [← hgk]
  clear hgn hgk
  have W5 := Lib.hid (W4.out.trans (X5.out.mono W4.out.size))
  have V3 := Lib.hid (U3.out.below X5.out)
  have V4 := Lib.hid (U4.out.below X5.out)
  have V5 := Lib.hid (U5.out.below X5.out)
  clear X5 W4 U3 U4 U5 ZK OK' ZN ON' LK LN hgl hgg
  go_wp2_with (first
    | ((with_reducible refine load_law rfl 28 (.tmp 16) rfl gk 0 rfl kc _ Tryd.underlying28 rfl IK.out B0.out.cells ?_))
    | ((with_reducible refine load_law rfl 30 (.tmp 17) rfl gn 0 rfl nc _ Tryd.underlying30 rfl IN.out B1.out.cells ?_)))
  refine (CS.out w5 V3.out V4.out).mono ?_
  rintro e w6 ⟨AC, nX, cC, rfl, hR, hX⟩
  obtain rfl : nC = nX := by rw [← hR.len, HLS.out]
  have W6 := Lib.hid (W5.out.trans (hX.mono W5.out.size))
  have C0 := Lib.hid (B0.out.below hX B0.out.lt)
  have C1 := Lib.hid (B1.out.below hX B1.out.lt)
  have P3 := Lib.hid (V3.out.below hX)
  have P5 := Lib.hid (V5.out.below hX)
  have PC := Lib.hid hR
  clear hX hR B0 B1 V3 V4 V5 W5 CS
  go_wp2_with (first
    | ((with_reducible refine load_law rfl 28 (.tmp 16) rfl gk 0 rfl kc _ Tryd.underlying28 rfl IK.out C0.out.cells ?_))
    | ((with_reducible refine load_law rfl 30 (.tmp 17) rfl gn 0 rfl nc _ Tryd.underlying30 rfl IN.out C1.out.cells ?_)))
  refine (CM.out w6 B5 m5 d5 l5 P3.out P5.out (by omega)).mono ?_
  rintro e w7 ⟨rfl, hX⟩
  have W7 := Lib.hid (W6.out.trans (hX.mono W6.out.size))
  have D0 := Lib.hid (C0.out.below hX C0.out.lt)
  have D1 := Lib.hid (C1.out.below hX C1.out.lt)
  have Q3 := Lib.hid (P3.out.below hX)
  have Q5 := Lib.hid (P5.out.below hX)
  have QC := Lib.hid (PC.out.below hX)
  clear hX C0 C1 P3 P5 PC W6
  by_cases ha : at_ < 0
  · have d1 : decide (at_ < 0) = true := by simpa using ha
    have d2 : decide ((nC : Int) > 0) = true := by simp; omega
    clear ha
    go_wp2_with (first
      | ((with_reducible refine load_when ?gd 28 (.tmp 16) rfl gk 0 rfl kc _ Tryd.underlying28 rfl IK.out D0.out.cells ?_); (case gd => rfl))
      | ((with_reducible refine load_when ?gd 30 (.tmp 17) rfl gn 0 rfl nc _ Tryd.underlying30 rfl IN.out D1.out.cells ?_); (case gd => rfl)))
    refine (CM.out w7 B5 m5 d5 l5 Q3.out Q5.out (by omega)).mono ?_
    rintro e w8 ⟨rfl, hX⟩
    have W8 := Lib.hid (W7.out.trans (hX.mono W7.out.size))
    clear hX D0 D1 Q3 Q5 QC W7 CM
    go_wp2_with fail
    go_ret
    exact ⟨rfl, W8.out⟩
  · have d1 : decide (at_ < 0) = false := by simpa using ha
    have d2 : ((nC : Int) == 0) = false := by simp; omega
    have E0 := Lib.hid (Ow.empty w7 w7.heap.size)
    have LN0 : Hid (([] : List UInt8).length + nC ≤ 140737488355328) := by unfold Hid; simp; omega
    go_upto_region 10 with (first
      | (at_builtin; refine onto_law rfl (.const (.slice none 0 0)) (.tmp 67) rfl rfl rfl QC.out E0.out LN0.out (Nat.le_refl _) (Below.refl _ _) ?_; intro v8 w8 O8 X8))
    rw [List.nil_append] at O8
    obtain ⟨gd, cD, cur, rfl, hgb, hB, hlc, hcm, hcells⟩ := own_blk O8.out (by rw [HLS.out]; exact hC0)
    obtain ⟨k, hk, hkn⟩ := rem_at at_ nC (by omega) hC0
    obtain ⟨s, hs⟩ : ∃ s, s = sl.getD k 0 := ⟨_, rfl⟩
    have cs : w8.cell? ⟨gd, k, none⟩ = some (.int .u8 (s.toNat : Int)) := by
      rw [hB.cell, hcells k (by rw [HLS.out]; exact hkn), ← hs]
      rfl
    have fs : w8.frozen? ⟨gd, k, none⟩ = false := hB.frozen k
    have HRS := Lib.hid (rd_set (s ^^^ x) hB hlc hcm hcells (show k < sl.length by rw [HLS.out]; exact hkn))
    rw [HLS.out] at HRS
    rw [HLS.out]
    have BC := Lib.hid (X8.out.setCell (p := ⟨gd, k, none⟩) hgb (cellOf (s ^^^ x)))
    have hxs := xor_cell s x
    have hkb : (k : Int) < (nC : Int) := by omega
    have hcapC := QC.out.cap
    have hcut := fun W => slice_h AC nC cC k (by omega) W
    have W9 := Lib.hid (W7.out.trans (BC.out.mono W7.out.size))
    obtain ⟨w9, hw9⟩ : ∃ W, W = w8.setCell ⟨gd, k, none⟩ (cellOf (s ^^^ x)) := ⟨_, rfl⟩
    rw [← hw9] at HRS BC W9
    have F3 := Lib.hid (Q3.out.below BC.out)
    have F5 := Lib.hid (Q5.out.below BC.out)
    have FC := Lib.hid (QC.out.below BC.out)
    have G0 := Lib.hid (D0.out.below BC.out D0.out.lt)
    have G1 := Lib.hid (D1.out.below BC.out D1.out.lt)
    have Hw9 := Lib.hid hw9
    clear hB hlc hcm hcells hs O8 X8 E0 LN0 D0 D1 Q3 Q5 QC W7 BC hgb hw9
    go_upto_region 11 with (fail)
    have hcv : (Value.int IntKind.u8 ((s.toNat ^^^ x.toNat : Nat) : Int)) = cellOf (s ^^^ x) := by unfold cellOf; rw [UInt8.toNat_xor]
    rw [hcv]
    change Code.wp _ _ _ _ (w8.setCell ⟨gd, k, none⟩ (cellOf (s ^^^ x)))
    rw [← Hw9.out]
    clear hcv hxs cs fs Hw9
    have WA : Hid (Below w.heap.size w w9.drew) := W9.out.drew
    have E3 : Hid (Rd w9.drew B3 m3 d3 l3) := F3.out.drew
    have E5 : Hid (Rd w9.drew B5 m5 d5 l5) := F5.out.drew
    have EC : Hid (Rd w9.drew AC nC cC sl) := FC.out.drew
    have ES : Hid (Rd w9.drew (some ⟨gd, 0, none⟩) nC cD (sl.set k (s ^^^ x))) := HRS.out.drew
    have EK : Hid (Blk w9.drew gk 28 kc) := G0.out.drew
    have EN : Hid (Blk w9.drew gn 30 nc) := G1.out.drew
    have RK : Hid (∀ W, Rd W AC nC cC sl → Rd W (cutA AC cC 0) k cC (sl.take k)) := fun W h => by
      have := h.cut (k := 0) (e := k) (by omega) (by omega)
      rw [List.drop_zero, Nat.sub_zero, Nat.sub_zero] at this
      exact this
    have hnz : ¬ nC = 0 := by omega
    have LE0 : Hid (([] : List UInt8).length + nC ≤ 140737488355328) := by unfold Hid; simp; omega
    have LE1 : Hid (sl.length + m5 ≤ 140737488355328) := by unfold Hid; rw [HLS.out]; omega
    have LE2 : Hid ((sl ++ l5).length ≤ 10000) := by unfold Hid; rw [List.length_append, HLS.out, E5.out.len]; omega
    clear W9 F3 F5 FC HRS G0 G1
    refine wp_region_any (by kernel_rfl) ?_
    change wpAny _ _ _ _ _ _ _ (World.drew _)
    generalize w9.drew = wA at *
    refine wpAny_take (i := 2) (oi := ?oi1) (v := .slice B3 m3 d3) ?hi1 (by kernel_rfl) (by kernel_rfl) (by kernel_rfl) ?hQ1 ?hy1 ?rest1
    case hi1 => simp only [List.getElem?_toArray, List.getElem?_cons_succ, List.getElem?_cons_zero]; rfl
    case hQ1 => exact fun _ _ _ h => h
    case hy1 => exact Or.inl ⟨by rfl, by intro w; go_simp⟩
    try simp only [Act.put, List.setIfInBounds_toArray, List.set_cons_zero, List.set_cons_succ]
    refine wpAny_take (i := 3) (oi := ?oi2) (v := .slice (some ⟨gd, 0, none⟩) nC cD) ?hi2 (by kernel_rfl) (by kernel_rfl) (by kernel_rfl) ?hQ2 ?hy2 ?rest2
    case hi2 => simp only [List.getElem?_toArray, List.getElem?_cons_succ, List.getElem?_cons_zero]; rfl
    case hQ2 => exact fun _ _ _ h => h
    case hy2 => exact Or.inl ⟨by rfl, by intro w; go_simp⟩
    try simp only [Act.put, List.setIfInBounds_toArray, List.set_cons_zero, List.set_cons_succ]
    refine phase (fun i => if i = 4 then [0, 1] else []) (fun d a w' => ∃ x79 x80 x83 : Value, a = { tmps := #[.slice A1 n1 c1, .slice A2 n2 c2, .slice B3 m3 d3, .slice B4 m4 d4, .slice B5 m5 d5, .int .i64 at_, .int .u8 (x.toNat : Int), undef, undef, undef, undef, undef, undef, undef, .bool false, .bool true, .pointer (some ⟨gk, 0, none⟩), .pointer (some ⟨gn, 0, none⟩), .slice AC nC cC, .slice (some ⟨gd, 0, none⟩) nC cD, .bool true, .bool true, .bool false, .slice A3 n3 c3, .slice B3 m3 d3, .slice A4 n4 c4, .slice B4 m4 d4, .slice A5 n5 c5, .slice B5 m5 d5, .slice A1 n1 c1, .agg kc.toArray, .slice A2 n2 c2, .agg nc.toArray, .agg kc.toArray, .agg nc.toArray, .slice B3 m3 d3, .slice B4 m4 d4, .slice AC nC cC, .agg kc.toArray, .agg nc.toArray, .slice B3 m3 d3, .slice B5 m5 d5, .bool true, .bool false, .bool false, .int .i64 at_, .bool false, .bool false, .bool false, .slice AC nC cC, .int .i64 (nC : Int), .bool false, .bool false, undef, undef, undef, undef, undef, undef, undef, undef, undef, undef, undef, undef, undef, undef, .slice AC nC cC, .slice (some ⟨gd, 0, none⟩) nC cD, .slice (some ⟨gd, 0, none⟩) nC cD, .int .i64 at_, .slice (some ⟨gd, 0, none⟩) nC cD, .int .i64 (nC : Int), .int .i64 (k : Int), .pointer (some ⟨gd, k, none⟩), .int .u8 (s.toNat : Int), .int .u8 (x.toNat : Int), cellOf (s ^^^ x), .pointer (some ⟨gd, k, none⟩), x79, x80, .slice B3 m3 d3, .slice (some ⟨gd, 0, none⟩) nC cD, x83, undef, undef, undef, undef, undef, undef, undef, undef, undef, undef, undef, undef, undef, undef, undef, undef, undef, undef, undef, undef, undef, undef], defers := [] } ∧ Hid (Below wA.heap.size wA w')
      ∧ (d 0 = true → x79 = .agg kc.toArray) ∧ (d 1 = true → x80 = .agg nc.toArray) ∧ (d 4 = true → x83 = .bool true)) [0, 1, 4] ?step4 23 3 [0, 1, 4] _ _ _ rfl (by decide) (fun _ h => h) (by kernel_rfl) ?init4 ?fin4
    case init4 =>
      refine ⟨_, _, _, rfl, Below.refl _ _, ?_, ?_, ?_⟩ <;> (intro h; exact absurd h (by decide))
    case step4 =>
      intro i hi d a wB hI hdi hdeps
      obtain ⟨x79, x80, x83, rfl, BW, h0, h1, h8⟩ := hI
      have hsz := BW.out.size
      simp only [List.mem_cons, List.not_mem_nil, or_false] at hi
      rcases hi with rfl | rfl | rfl
      · refine wpOp_step (o := ?os3) ?hos3 (fun K' hK => ?_)
        case hos3 => simp only [List.getElem?_toArray, List.getElem?_cons_succ, List.getElem?_cons_zero]; rfl
        refine step_loadW rfl 28 (.tmp 16) rfl gk 0 rfl kc _ Tryd.underlying28 rfl IK.out (EK.out.below BW.out EK.out.lt).cells (hK _ _ ?_)
        clear hK K'
        try simp only [Act.put, List.setIfInBounds_toArray, List.set_cons_zero, List.set_cons_succ]
        exact ⟨_, x80, x83, rfl, BW, fun _ => rfl, fun a => h1 (by simpa using a), fun a => h8 (by simpa using a)⟩
      · refine wpOp_step (o := ?os4) ?hos4 (fun K' hK => ?_)
        case hos4 => simp only [List.getElem?_toArray, List.getElem?_cons_succ, List.getElem?_cons_zero]; rfl
        refine step_loadW rfl 30 (.tmp 17) rfl gn 0 rfl nc _ Tryd.underlying30 rfl IN.out (EN.out.below BW.out EN.out.lt).cells (hK _ _ ?_)
        clear hK K'
        try simp only [Act.put, List.setIfInBounds_toArray, List.set_cons_zero, List.set_cons_succ]
        exact ⟨x79, _, x83, rfl, BW, fun a => h0 (by simpa using a), fun _ => rfl, fun a => h8 (by simpa using a)⟩
      · obtain rfl := h0 (hdeps 0 (by simp))
        obtain rfl := h1 (hdeps 1 (by simp))
        refine wpOp_step (o := ?os5) ?hos5 (fun K' hK => ?_)
        case hos5 => simp only [List.getElem?_toArray, List.getElem?_cons_succ, List.getElem?_cons_zero]; rfl
        clear h8
        go_simp
        refine (CM.out wB _ nC cD _ (E3.out.below BW.out) (ES.out.below BW.out) (by omega)).mono ?_
        rintro e wC ⟨rfl, hX⟩
        refine hK _ _ ?_
        clear hK K'
        try simp only [Act.put, List.setIfInBounds_toArray, List.set_cons_zero, List.set_cons_succ]
        exact ⟨_, _, _, rfl, BW.out.trans (hX.mono hsz), fun _ => rfl, fun _ => rfl, fun _ => rfl⟩
    case fin4 =>
      intro a wB hI
      obtain ⟨x79, x80, x83, rfl, BW, h0, h1, h8⟩ := hI
      obtain rfl := h8 (by decide)
      clear h8
      have WB := Lib.hid (WA.out.trans (BW.out.mono WA.out.size))
      have H3 := Lib.hid (E3.out.below BW.out)
      have H5 := Lib.hid (E5.out.below BW.out)
      have HC := Lib.hid (EC.out.below BW.out)
      have J0 := Lib.hid (EK.out.below BW.out EK.out.lt)
      have J1 := Lib.hid (EN.out.below BW.out EN.out.lt)
      clear h0 h1 BW WA E3 E5 EC ES EK EN
      dsimp only
      refine wpAny_take (i := 5) (oi := ?oi6) (v := .bool true) ?hi6 (by kernel_rfl) (by kernel_rfl) (by kernel_rfl) ?hQ6 ?hy6 ?rest6
      case hi6 => simp only [List.getElem?_toArray, List.getElem?_cons_succ, List.getElem?_cons_zero]; rfl
      case hQ6 => exact fun _ _ _ h => h
      case hy6 => exact Or.inl ⟨by rfl, by intro w; go_simp⟩
      try simp only [Act.put, List.setIfInBounds_toArray, List.set_cons_zero, List.set_cons_succ]
      refine wpAny_take (i := 8) (oi := ?oi7) (v := .slice B3 m3 d3) ?hi7 (by kernel_rfl) (by kernel_rfl) (by kernel_rfl) ?hQ7 ?hy7 ?rest7
      case hi7 => simp only [List.getElem?_toArray, List.getElem?_cons_succ, List.getElem?_cons_zero]; rfl
      case hQ7 => exact fun _ _ _ h => h
      case hy7 => exact Or.inl ⟨by rfl, by intro w; go_simp⟩
      try simp only [Act.put, List.setIfInBounds_toArray, List.set_cons_zero, List.set_cons_succ]
      refine wpAny_take (i := 9) (oi := ?oi8) (v := .slice AC nC cC) ?hi8 (by kernel_rfl) (by kernel_rfl) (by kernel_rfl) ?hQ8 ?hy8 ?rest8
      case hi8 => simp only [List.getElem?_toArray, List.getElem?_cons_succ, List.getElem?_cons_zero]; rfl
      case hQ8 => exact fun _ _ _ h => h
      case hy8 => exact Or.inl ⟨by rfl, by intro w; go_simp⟩
      try simp only [Act.put, List.setIfInBounds_toArray, List.set_cons_zero, List.set_cons_succ]
      refine wpAny_take (i := 10) (oi := ?oi9) (v := .int .i64 at_) ?hi9 (by kernel_rfl) (by kernel_rfl) (by kernel_rfl) ?hQ9 ?hy9 ?rest9
      case hi9 => simp only [List.getElem?_toArray, List.getElem?_cons_succ, List.getElem?_cons_zero]; rfl
      case hQ9 => exact fun _ _ _ h => h
      case hy9 => exact Or.inl ⟨by rfl, by intro w; go_simp⟩
      try simp only [Act.put, List.setIfInBounds_toArray, List.set_cons_zero, List.set_cons_succ]
      refine wpAny_take (i := 11) (oi := ?oi10) (v := .slice AC nC cC) ?hi10 (by kernel_rfl) (by kernel_rfl) (by kernel_rfl) ?hQ10 ?hy10 ?rest10
      case hi10 => simp only [List.getElem?_toArray, List.getElem?_cons_succ, List.getElem?_cons_zero]; rfl
      case hQ10 => exact fun _ _ _ h => h
      case hy10 => exact Or.inl ⟨by rfl, by intro w; go_simp⟩
      try simp only [Act.put, List.setIfInBounds_toArray, List.set_cons_zero, List.set_cons_succ]
      refine wpAny_take (i := 12) (oi := ?oi11) (v := .int .i64 (nC : Int)) ?hi11 (by kernel_rfl) (by kernel_rfl) (by kernel_rfl) ?hQ11 ?hy11 ?rest11
      case hi11 => simp only [List.getElem?_toArray, List.getElem?_cons_succ, List.getElem?_cons_zero]; rfl
      case hQ11 => exact fun _ _ _ h => h
      case hy11 => exact Or.inl ⟨by rfl, by intro w; go_simp⟩
      try simp only [Act.put, List.setIfInBounds_toArray, List.set_cons_zero, List.set_cons_succ]
      refine wpAny_take (i := 13) (oi := ?oi12) (v := .int .i64 (k : Int)) ?hi12 (by kernel_rfl) (by kernel_rfl) (by kernel_rfl) ?hQ12 ?hy12 ?rest12
      case hi12 => simp only [List.getElem?_toArray, List.getElem?_cons_succ, List.getElem?_cons_zero]; rfl
      case hQ12 => exact fun _ _ _ h => h
      case hy12 => exact Or.inl ⟨by rfl, by intro w; go_simp⟩
      try simp only [Act.put, List.setIfInBounds_toArray, List.set_cons_zero, List.set_cons_succ]
      refine wpAny_take (i := 14) (oi := ?oi13) (v := .slice (cutA AC cC 0) k cC) ?hi13 (by kernel_rfl) (by kernel_rfl) (by kernel_rfl) ?hQ13 ?hy13 ?rest13
      case hi13 => simp only [List.getElem?_toArray, List.getElem?_cons_succ, List.getElem?_cons_zero]; rfl
      case hQ13 => exact fun _ _ _ h => h
      case hy13 => exact Or.inl ⟨by rfl, by intro w; go_simp⟩
      try simp only [Act.put, List.setIfInBounds_toArray, List.set_cons_zero, List.set_cons_succ]
      refine phase (fun i => if i = 15 then [6, 7] else []) (fun d a w' => ∃ x85 x86 x94 : Value, a = { tmps := #[.slice A1 n1 c1, .slice A2 n2 c2, .slice B3 m3 d3, .slice B4 m4 d4, .slice B5 m5 d5, .int .i64 at_, .int .u8 (x.toNat : Int), undef, undef, undef, undef, undef, undef, undef, .bool false, .bool true, .pointer (some ⟨gk, 0, none⟩), .pointer (some ⟨gn, 0, none⟩), .slice AC nC cC, .slice (some ⟨gd, 0, none⟩) nC cD, .bool true, .bool true, .bool false, .slice A3 n3 c3, .slice B3 m3 d3, .slice A4 n4 c4, .slice B4 m4 d4, .slice A5 n5 c5, .slice B5 m5 d5, .slice A1 n1 c1, .agg kc.toArray, .slice A2 n2 c2, .agg nc.toArray, .agg kc.toArray, .agg nc.toArray, .slice B3 m3 d3, .slice B4 m4 d4, .slice AC nC cC, .agg kc.toArray, .agg nc.toArray, .slice B3 m3 d3, .slice B5 m5 d5, .bool true, .bool false, .bool false, .int .i64 at_, .bool false, .bool false, .bool false, .slice AC nC cC, .int .i64 (nC : Int), .bool false, .bool false, undef, undef, undef, undef, undef, undef, undef, undef, undef, undef, undef, undef, undef, undef, .slice AC nC cC, .slice (some ⟨gd, 0, none⟩) nC cD, .slice (some ⟨gd, 0, none⟩) nC cD, .int .i64 at_, .slice (some ⟨gd, 0, none⟩) nC cD, .int .i64 (nC : Int), .int .i64 (k : Int), .pointer (some ⟨gd, k, none⟩), .int .u8 (s.toNat : Int), .int .u8 (x.toNat : Int), cellOf (s ^^^ x), .pointer (some ⟨gd, k, none⟩), x79, x80, .slice B3 m3 d3, .slice (some ⟨gd, 0, none⟩) nC cD, .bool true, .bool true, x85, x86, .slice B3 m3 d3, .slice AC nC cC, .int .i64 at_, .slice AC nC cC, .int .i64 (nC : Int), .int .i64 (k : Int), .slice (cutA AC cC 0) k cC, x94, undef, undef, undef, undef, undef, undef, undef, undef, undef, undef, undef], defers := [] } ∧ Hid (Below wB.heap.size wB w')
        ∧ (d 6 = true → x85 = .agg kc.toArray) ∧ (d 7 = true → x86 = .agg nc.toArray) ∧ (d 15 = true → x94 = .bool true)) [6, 7, 15] ?step15 12 3 [6, 7, 15] _ _ _ rfl (by decide) (fun _ h => h) (by kernel_rfl) ?init15 ?fin15
      case init15 =>
        refine ⟨_, _, _, rfl, Below.refl _ _, ?_, ?_, ?_⟩ <;> (intro h; exact absurd h (by decide))
      case step15 =>
        intro i hi d a wD hI hdi hdeps
        obtain ⟨x85, x86, x94, rfl, BW, h0, h1, h8⟩ := hI
        have hsz := BW.out.size
        simp only [List.mem_cons, List.not_mem_nil, or_false] at hi
        rcases hi with rfl | rfl | rfl
        · refine wpOp_step (o := ?os14) ?hos14 (fun K' hK => ?_)
          case hos14 => simp only [List.getElem?_toArray, List.getElem?_cons_succ, List.getElem?_cons_zero]; rfl
          refine step_loadW rfl 28 (.tmp 16) rfl gk 0 rfl kc _ Tryd.underlying28 rfl IK.out (J0.out.below BW.out J0.out.lt).cells (hK _ _ ?_)
          clear hK K'
          try simp only [Act.put, List.setIfInBounds_toArray, List.set_cons_zero, List.set_cons_succ]
          exact ⟨_, x86, x94, rfl, BW, fun _ => rfl, fun a => h1 (by simpa using a), fun a => h8 (by simpa using a)⟩
        · refine wpOp_step (o := ?os15) ?hos15 (fun K' hK => ?_)
          case hos15 => simp only [List.getElem?_toArray, List.getElem?_cons_succ, List.getElem?_cons_zero]; rfl
          refine step_loadW rfl 30 (.tmp 17) rfl gn 0 rfl nc _ Tryd.underlying30 rfl IN.out (J1.out.below BW.out J1.out.lt).cells (hK _ _ ?_)
          clear hK K'
          try simp only [Act.put, List.setIfInBounds_toArray, List.set_cons_zero, List.set_cons_succ]
          exact ⟨x85, _, x94, rfl, BW, fun a => h0 (by simpa using a), fun _ => rfl, fun a => h8 (by simpa using a)⟩
        · obtain rfl := h0 (hdeps 6 (by simp))
          obtain rfl := h1 (hdeps 7 (by simp))
          refine wpOp_step (o := ?os16) ?hos16 (fun K' hK => ?_)
          case hos16 => simp only [List.getElem?_toArray, List.getElem?_cons_succ, List.getElem?_cons_zero]; rfl
          clear h8
          go_simp
          refine (CM.out wD _ k cC _ (H3.out.below BW.out) ((RK.out _ HC.out).below BW.out) (by omega)).mono ?_
          rintro e wE ⟨rfl, hX⟩
          refine hK _ _ ?_
          clear hK K'
          try simp only [Act.put, List.setIfInBounds_toArray, List.set_cons_zero, List.set_cons_succ]
          exact ⟨_, _, _, rfl, BW.out.trans (hX.mono hsz), fun _ => rfl, fun _ => rfl, fun _ => rfl⟩
      case fin15 =>
        intro a wD hI
        obtain ⟨x85, x86, x94, rfl, BW, h0, h1, h8⟩ := hI
        obtain rfl := h8 (by decide)
        clear h8
        have WD := Lib.hid (WB.out.trans (BW.out.mono WB.out.size))
        have N3 := Lib.hid (H3.out.below BW.out)
        have NA := Lib.hid (H5.out.below BW.out)
        have NC := Lib.hid (HC.out.below BW.out)
        have L0 := Lib.hid (J0.out.below BW.out J0.out.lt)
        have L1 := Lib.hid (J1.out.below BW.out J1.out.lt)
        clear h0 h1 BW WB H3 H5 HC J0 J1
        dsimp only
        refine wpAny_take (i := 16) (oi := ?oi17) (v := .bool true) ?hi17 (by kernel_rfl) (by kernel_rfl) (by kernel_rfl) ?hQ17 ?hy17 ?rest17
        case hi17 => simp only [List.getElem?_toArray, List.getElem?_cons_succ, List.getElem?_cons_zero]; rfl
        case hQ17 => exact fun _ _ _ h => h
        case hy17 => exact Or.inl ⟨by rfl, by intro w; go_simp⟩
        try simp only [Act.put, List.setIfInBounds_toArray, List.set_cons_zero, List.set_cons_succ]
        refine wpAny_take (i := 17) (oi := ?oi18) (v := .bool true) ?hi18 (by kernel_rfl) (by kernel_rfl) (by kernel_rfl) ?hQ18 ?hy18 ?rest18
        case hi18 => simp only [List.getElem?_toArray, List.getElem?_cons_succ, List.getElem?_cons_zero]; rfl
        case hQ18 => exact fun _ _ _ h => h
        case hy18 => exact Or.inl ⟨by rfl, by intro w; go_simp⟩
        try simp only [Act.put, List.setIfInBounds_toArray, List.set_cons_zero, List.set_cons_succ]
        refine wpAny_take (i := 20) (oi := ?oi19) (v := .slice B3 m3 d3) ?hi19 (by kernel_rfl) (by kernel_rfl) (by kernel_rfl) ?hQ19 ?hy19 ?rest19
        case hi19 => simp only [List.getElem?_toArray, List.getElem?_cons_succ, List.getElem?_cons_zero]; rfl
        case hQ19 => exact fun _ _ _ h => h
        case hy19 => exact Or.inl ⟨by rfl, by intro w; go_simp⟩
        try simp only [Act.put, List.setIfInBounds_toArray, List.set_cons_zero, List.set_cons_succ]
        refine wpAny_take (i := 21) (oi := ?oi20) (v := .slice AC nC cC) ?hi20 (by kernel_rfl) (by kernel_rfl) (by kernel_rfl) ?hQ20 ?hy20 ?rest20
        case hi20 => simp only [List.getElem?_toArray, List.getElem?_cons_succ, List.getElem?_cons_zero]; rfl
        case hQ20 => exact fun _ _ _ h => h
        case hy20 => exact Or.inl ⟨by rfl, by intro w; go_simp⟩
        try simp only [Act.put, List.setIfInBounds_toArray, List.set_cons_zero, List.set_cons_succ]
        refine wpAny_take (i := 23) (oi := ?oi21) (v := .slice B5 m5 d5) ?hi21 (by kernel_rfl) (by kernel_rfl) (by kernel_rfl) ?hQ21 ?hy21 ?rest21
        case hi21 => simp only [List.getElem?_toArray, List.getElem?_cons_succ, List.getElem?_cons_zero]; rfl
        case hQ21 => exact fun _ _ _ h => h
        case hy21 => exact Or.inl ⟨by rfl, by intro w; go_simp⟩
        try simp only [Act.put, List.setIfInBounds_toArray, List.set_cons_zero, List.set_cons_succ]
        refine phase (fun i => if i = 24 then [22] else if i = 25 then [18, 19, 24] else []) (fun d a w' => ∃ x97 x98 x101 x103 x104 : Value, a = { tmps := #[.slice A1 n1 c1, .slice A2 n2 c2, .slice B3 m3 d3, .slice B4 m4 d4, .slice B5 m5 d5, .int .i64 at_, .int .u8 (x.toNat : Int), undef, undef, undef, undef, undef, undef, undef, .bool false, .bool true, .pointer (some ⟨gk, 0, none⟩), .pointer (some ⟨gn, 0, none⟩), .slice AC nC cC, .slice (some ⟨gd, 0, none⟩) nC cD, .bool true, .bool true, .bool false, .slice A3 n3 c3, .slice B3 m3 d3, .slice A4 n4 c4, .slice B4 m4 d4, .slice A5 n5 c5, .slice B5 m5 d5, .slice A1 n1 c1, .agg kc.toArray, .slice A2 n2 c2, .agg nc.toArray, .agg kc.toArray, .agg nc.toArray, .slice B3 m3 d3, .slice B4 m4 d4, .slice AC nC cC, .agg kc.toArray, .agg nc.toArray, .slice B3 m3 d3, .slice B5 m5 d5, .bool true, .bool false, .bool false, .int .i64 at_, .bool false, .bool false, .bool false, .slice AC nC cC, .int .i64 (nC : Int), .bool false, .bool false, undef, undef, undef, undef, undef, undef, undef, undef, undef, undef, undef, undef, undef, undef, .slice AC nC cC, .slice (some ⟨gd, 0, none⟩) nC cD, .slice (some ⟨gd, 0, none⟩) nC cD, .int .i64 at_, .slice (some ⟨gd, 0, none⟩) nC cD, .int .i64 (nC : Int), .int .i64 (k : Int), .pointer (some ⟨gd, k, none⟩), .int .u8 (s.toNat : Int), .int .u8 (x.toNat : Int), cellOf (s ^^^ x), .pointer (some ⟨gd, k, none⟩), x79, x80, .slice B3 m3 d3, .slice (some ⟨gd, 0, none⟩) nC cD, .bool true, .bool true, x85, x86, .slice B3 m3 d3, .slice AC nC cC, .int .i64 at_, .slice AC nC cC, .int .i64 (nC : Int), .int .i64 (k : Int), .slice (cutA AC cC 0) k cC, .bool true, .bool true, .bool true, x97, x98, .slice B3 m3 d3, .slice AC nC cC, x101, .slice B5 m5 d5, x103, x104, undef], defers := [] } ∧ Hid (Below wD.heap.size wD w')
          ∧ (d 18 = true → x97 = .agg kc.toArray) ∧ (d 19 = true → x98 = .agg nc.toArray) ∧ (d 24 = true → d 22 = true) ∧ (d 25 = true → d 24 = true) ∧ (d 22 = true → d 24 = false → Hid (Ow w' wD.heap.size x101 sl)) ∧ (d 24 = true → d 25 = false → Hid (∃ A n c, x103 = .slice A n c ∧ n ≤ 10000 ∧ Rd w' A n c (sl ++ l5))) ∧ (d 25 = true → x104 = .bool true)) [18, 19, 22, 24, 25] ?step25 2 5 [18, 19, 22, 24, 25] _ _ _ rfl (by decide) (fun _ h => h) (by kernel_rfl) ?init25 ?fin25
        case init25 =>
          refine ⟨_, _, _, _, _, rfl, Below.refl _ _, ?_, ?_, ?_, ?_, ?_, ?_, ?_⟩ <;> (intro h; exact absurd h (by decide))
        case step25 =>
          intro i hi d a wF hI hdi hdeps
          obtain ⟨x97, x98, x101, x103, x104, rfl, BW, h0, h1, g24, g25, h22, h24, h25⟩ := hI
          have hsz := BW.out.size
          simp only [List.mem_cons, List.not_mem_nil, or_false] at hi
          rcases hi with rfl | rfl | rfl | rfl | rfl
          · refine wpOp_step (o := ?os22) ?hos22 (fun K' hK => ?_)
            case hos22 => simp only [List.getElem?_toArray, List.getElem?_cons_succ, List.getElem?_cons_zero]; rfl
            refine step_loadW rfl 28 (.tmp 16) rfl gk 0 rfl kc _ Tryd.underlying28 rfl IK.out (L0.out.below BW.out L0.out.lt).cells (hK _ _ ?_)
            clear hK K'
            try simp only [Act.put, List.setIfInBounds_toArray, List.set_cons_zero, List.set_cons_succ]
            exact ⟨_, x98, x101, x103, x104, rfl, BW, fun _ => rfl, fun a => h1 (by simpa using a), fun a => by simpa using g24 (by simpa using a), fun a => by simpa using g25 (by simpa using a), fun a b => h22 (by simpa using a) (by simpa using b), fun a b => h24 (by simpa using a) (by simpa using b), fun a => h25 (by simpa using a)⟩
          · refine wpOp_step (o := ?os23) ?hos23 (fun K' hK => ?_)
            case hos23 => simp only [List.getElem?_toArray, List.getElem?_cons_succ, List.getElem?_cons_zero]; rfl
            refine step_loadW rfl 30 (.tmp 17) rfl gn 0 rfl nc _ Tryd.underlying30 rfl IN.out (L1.out.below BW.out L1.out.lt).cells (hK _ _ ?_)
            clear hK K'
            try simp only [Act.put, List.setIfInBounds_toArray, List.set_cons_zero, List.set_cons_succ]
            exact ⟨x97, _, x101, x103, x104, rfl, BW, fun a => h0 (by simpa using a), fun _ => rfl, fun a => by simpa using g24 (by simpa using a), fun a => by simpa using g25 (by simpa using a), fun a b => h22 (by simpa using a) (by simpa using b), fun a b => h24 (by simpa using a) (by simpa using b), fun a => h25 (by simpa using a)⟩
          · have n24 : d 24 = false := by
              cases e : d 24 with
              | false => rfl
              | true => rw [g24 e] at hdi; cases hdi
            have n25 : d 25 = false := by
              cases e : d 25 with
              | false => rfl
              | true => rw [g25 e] at n24; cases n24
            refine wpOp_step (o := ?os24) ?hos24 (fun K' hK => ?_)
            case hos24 => simp only [List.getElem?_toArray, List.getElem?_cons_succ, List.getElem?_cons_zero]; rfl
            refine step_any rfl (.const (.slice none 0 0)) (.tmp 100) rfl rfl rfl (NC.out.below BW.out) (Ow.empty wF wD.heap.size) LE0.out hsz BW.out (fun v' wG O' X' => hK _ _ ?_)
            clear hK K'
            rw [List.nil_append] at O'
            try simp only [Act.put, List.setIfInBounds_toArray, List.set_cons_zero, List.set_cons_succ]
            exact ⟨x97, x98, _, x103, x104, rfl, X', fun a => h0 (by simpa using a), fun a => h1 (by simpa using a), fun a => by simp [n24] at a, fun a => by simp [n25] at a, fun _ _ => O', fun a => by simp [n24] at a, fun a => by simp [n25] at a⟩
          · have n25 : d 25 = false := by
              cases e : d 25 with
              | false => rfl
              | true => rw [g25 e] at hdi; cases hdi
            have y22 : d 22 = true := hdeps 22 (by simp)
            have O1 := Lib.hid (h22 y22 hdi).out
            refine wpOp_step (o := ?os25) ?hos25 (fun K' hK => ?_)
            case hos25 => simp only [List.getElem?_toArray, List.getElem?_cons_succ, List.getElem?_cons_zero]; rfl
            refine step_any rfl (.tmp 101) (.tmp 102) rfl rfl rfl (NA.out.below BW.out) O1.out LE1.out hsz BW.out (fun v' wG O' X' => hK _ _ ?_)
            clear hK K'
            obtain ⟨A, c, rfl, hRd, _⟩ := O'.out.value
            try simp only [Act.put, List.setIfInBounds_toArray, List.set_cons_zero, List.set_cons_succ]
            exact ⟨x97, x98, x101, _, x104, rfl, X', fun a => h0 (by simpa using a), fun a => h1 (by simpa using a), fun _ => by simp [y22], fun a => by simp [n25] at a, fun _ a => by simp at a, fun _ _ => ⟨_, _, _, rfl, LE2.out, hRd⟩, fun a => by simp [n25] at a⟩
          · obtain rfl := h0 (hdeps 18 (by simp))
            obtain rfl := h1 (hdeps 19 (by simp))
            have y24 : d 24 = true := hdeps 24 (by simp)
            have y22 := g24 y24
            obtain ⟨A, n, c, rfl, hnn, hRd⟩ := (h24 y24 hdi).out
            have HRd := Lib.hid hRd
            refine wpOp_step (o := ?os26) ?hos26 (fun K' hK => ?_)
            case hos26 => simp only [List.getElem?_toArray, List.getElem?_cons_succ, List.getElem?_cons_zero]; rfl
            clear h22 h24 h25 hRd
            go_simp
            refine (CM.out wF A n c _ (N3.out.below BW.out) HRd.out hnn).mono ?_
            rintro e wG ⟨rfl, hX⟩
            refine hK _ _ ?_
            clear hK K'
            try simp only [Act.put, List.setIfInBounds_toArray, List.set_cons_zero, List.set_cons_succ]
            exact ⟨_, _, _, _, _, rfl, BW.out.trans (hX.mono hsz), fun _ => rfl, fun _ => rfl, fun _ => by simp [y22], fun _ => by simp [y24], fun _ a => by simp [y24] at a, fun _ a => by simp at a, fun _ => rfl⟩
        case fin25 =>
          intro a wF hI
          obtain ⟨x97, x98, x101, x103, x104, rfl, BW, h0, h1, g24, g25, h22, h24, h25⟩ := hI
          obtain rfl := h25 (by decide)
          have WF := Lib.hid (WD.out.trans (BW.out.mono WD.out.size))
          clear h0 h1 g24 g25 h22 h24 h25 BW
          dsimp only
          refine wpAny_take (i := 26) (oi := ?oi27) (v := .bool true) ?hi27 (by kernel_rfl) (by kernel_rfl) (by kernel_rfl) ?hQ27 ?hy27 ?rest27
          case hi27 => simp only [List.getElem?_toArray, List.getElem?_cons_succ, List.getElem?_cons_zero]; rfl
          case hQ27 => exact fun _ _ _ h => h
          case hy27 => exact Or.inl ⟨by rfl, by intro w; go_simp⟩
          try simp only [Act.put, List.setIfInBounds_toArray, List.set_cons_zero, List.set_cons_succ]
          refine wpAny_take (i := 27) (oi := ?oi28) (v := .bool true) ?hi28 (by kernel_rfl) (by kernel_rfl) (by kernel_rfl) ?hQ28 ?hy28 ?rest28
          case hi28 => simp only [List.getElem?_toArray, List.getElem?_cons_succ, List.getElem?_cons_zero]; rfl
          case hQ28 => exact fun _ _ _ h => h
          case hy28 => exact Or.inl ⟨by rfl, by intro w; go_simp⟩
          try simp only [Act.put, List.setIfInBounds_toArray, List.set_cons_zero, List.set_cons_succ]
          refine wpAny_done (by kernel_rfl) ?_ _
          go_wp2_with fail
          go_ret
          exact ⟨rfl, WF.out⟩
end Go.Proofs.YtknpngeaodlmhaaDoor.aeadAny
