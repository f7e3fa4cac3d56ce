/- The walk of AeadLens. -/
import Derived.Test.YtknpngeaodlmhaaDoorAeSame
namespace Go.Proofs.YtknpngeaodlmhaaDoor.aeadLens
set_option linter.unusedVariables false
set_option linter.unusedSimpArgs false
open Go.RowKit

set_option maxRecDepth 100000 in
set_option maxHeartbeats 4000000 in
theorem walk (hA : AeOk) {A1 A2 A3 : Option Addr} {n1 c1 n2 c2 n3 c3 : Nat} {x1 x2 x3 : List UInt8} (cut : Int) (w : World) (hg : Gl w) (hr1 : Rd w A1 n1 c1 x1) (hr2 : Rd w A2 n2 c2 x2) (hr3 : Rd w A3 n3 c3 x3) :
    Calls Tryd.prog 13 #[.slice A1 n1 c1, .slice A2 n2 c2, .slice A3 n3 c3, .int .i64 cut] w fun e w' => e = .returned (.bool true) ∧ Below w.heap.size w w' := by
  have HG := Lib.hid hg
  have R1 := Lib.hid hr1
  have R2 := Lib.hid hr2
  have R3 := Lib.hid hr3
  clear hg hr1 hr2 hr3
  go_enter Tryd.func13, Tryd.ntmps13
  go_wp2_with (first | (go_at_call 14; refine (begun4_any hA HG.out).mono ?_; rintro e w1 ⟨rfl, HB⟩; have W1 := Lib.hid HB; clear HB))
  refine (short_any 80 (R3.out.below W1.out) (by omega)).mono ?_
  rintro e w' ⟨A4, n4, c4, rfl, hr4, rfl⟩
  have R4 := Lib.hid hr4
  have hl4 : n4 ≤ 80 := by rw [← hr4.len, List.length_take]; omega
  have hcap := hr4.cap
  obtain ⟨b, hb⟩ : ∃ l, l = x3.take 80 := ⟨_, rfl⟩
  rw [← hb] at R4
  clear hb hr4
  by_cases hc0 : cut < 0
  · have d1 : decide (cut < 0) = true := by simpa using hc0
    go_wp2_with fail
    go_ret
    exact ⟨rfl, W1.out⟩
  by_cases hc1 : (n4 : Int) < cut
  · have d1 : decide (cut < 0) = false := by simp; omega
    have d2 : decide (cut > (n4 : Int)) = true := by simpa using hc1
    go_wp2_with fail
    go_ret
    exact ⟨rfl, W1.out⟩
  · obtain ⟨N, rfl⟩ : ∃ N : Nat, cut = (N : Int) := ⟨cut.toNat, by omega⟩
    have hN : N ≤ n4 := by omega
    have d1 : decide ((N : Int) < 0) = false := decide_eq_false (by omega)
    have d2 : decide ((N : Int) > (n4 : Int)) = false := decide_eq_false (by omega)
    have d3 : decide (n4 < N) = false := decide_eq_false (by omega)
    clear hc0 hc1
    have K1 := Lib.hid (R1.out.below W1.out)
    have M1 := Lib.hid (R2.out.below W1.out)
    clear R1 R2 R3
    go_wp2_with fail
    refine (key_any K1.out).mono ?_
    rintro e w3 ⟨rfl, hX⟩
    have W3 := Lib.hid (W1.out.trans (hX.mono W1.out.size))
    have R5 := Lib.hid (R4.out.below hX)
    have M3 := Lib.hid (M1.out.below hX)
    obtain ⟨key, hkey⟩ : ∃ k, k = padTo 32 x1 := ⟨_, rfl⟩
    rw [← hkey]
    have LK : Hid (key.length = 32) := by unfold Hid; rw [hkey, padTo_length]
    clear hX hkey K1 M1 R4 W1
    go_wp2_with fail
    refine (nonce_any M3.out).mono ?_
    rintro e w4 ⟨rfl, hX⟩
    have W4 := Lib.hid (W3.out.trans (hX.mono W3.out.size))
    have R6 := Lib.hid (R5.out.below hX)
    obtain ⟨nonce, hnon⟩ : ∃ k, k = padTo 12 x2 := ⟨_, rfl⟩
    rw [← hnon]
    have LN : Hid (nonce.length = 12) := by unfold Hid; rw [hnon, padTo_length]
    obtain ⟨kc, hkc⟩ : ∃ c, c = key.map cellOf := ⟨_, rfl⟩
    obtain ⟨nc, hnc⟩ : ∃ c, c = nonce.map cellOf := ⟨_, rfl⟩
    rw [← hkc, ← hnc]
    obtain ⟨K, hK⟩ : ∃ K, K = n4 - N := ⟨_, rfl⟩
    obtain ⟨nC, hnC⟩ : ∃ m, m = K + 16 := ⟨_, rfl⟩
    obtain ⟨sl, hsl⟩ : ∃ l, l = Ae.sealed key nonce (b.take N) (b.drop N) := ⟨_, rfl⟩
    have lsl : sl.length = nC := by rw [hsl, Ae.sealed_length, List.length_drop, R6.out.len, hnC, hK]
    obtain ⟨ok, hok⟩ : ∃ o, o = Ae.opens key nonce b sl := ⟨_, rfl⟩
    obtain ⟨ot, hot⟩ : ∃ o, o = Ae.opened key nonce b sl := ⟨_, rfl⟩
    have RF : Hid (∀ W, Rd W A4 n4 c4 b → Rd W (cutA A4 c4 0) N c4 (b.take N)) := fun W h => by
      have := h.cut (k := 0) (e := N) (by omega) hN
      rw [List.drop_zero, Nat.sub_zero, Nat.sub_zero] at this
      exact this
    have RT : Hid (∀ W, Rd W A4 n4 c4 b → Rd W (cutA A4 c4 N) K (c4 - N) (b.drop N)) := fun W h => by
      have := h.cut (k := N) (e := n4) hN (Nat.le_refl _)
      rw [← hK, List.take_of_length_le (by rw [List.length_drop, R6.out.len]; omega)] at this
      exact this
    have CS : Hid (∀ W, Rd W A4 n4 c4 b → Calls Tryd.prog 26 #[.agg kc.toArray, .agg nc.toArray, .slice (cutA A4 c4 0) N c4, .slice (cutA A4 c4 N) K (c4 - N)] W (RetR W sl)) := fun W h => by rw [hkc, hnc, hsl]; exact hA.s key nonce LK.out LN.out (RF.out W h) (RT.out W h) (by omega) (by omega)
    have CO : Hid (∀ W AC cC, Rd W A4 n4 c4 b → Rd W AC nC cC sl → Calls Tryd.prog 27 #[.agg kc.toArray, .agg nc.toArray, .slice A4 n4 c4, .slice AC nC cC] W (RetO W ot ok)) := fun W AC cC h h' => by rw [hkc, hnc, hot, hok]; exact hA.o key nonce LK.out LN.out h h' (by omega) (by omega)
    have CR : Hid (∀ W AC cC, Rd W A4 n4 c4 b → Rd W AC nC cC sl → Calls Tryd.prog 30 #[.agg kc.toArray, .agg nc.toArray, .slice A4 n4 c4, .slice AC nC cC] W (RetO W ot ok)) := fun W AC cC h h' => by rw [hkc, hnc, hot, hok]; exact ropen_any key nonce LK.out LN.out h h' (by omega) (by omega)
    have HLS := Lib.hid lsl
    have hkl : kc.length = 32 := by rw [hkc, List.length_map, LK.out]
    have hnl : nc.length = 12 := by rw [hnc, List.length_map, LN.out]
    have IK : Hid ((Tryd.prog.info? 28).map (·.size) = some kc.length) := by unfold Hid; rw [hkl]; kernel_rfl
    have IN : Hid ((Tryd.prog.info? 30).map (·.size) = some nc.length) := by unfold Hid; rw [hnl]; kernel_rfl
    have ZK : Hid ((List.replicate 32 (Value.int .u8 0)).length = kc.length) := by unfold Hid; rw [hkl]; rfl
    have ZN : Hid ((List.replicate 12 (Value.int .u8 0)).length = nc.length) := by unfold Hid; rw [hnl]; rfl
    have OK' : Hid (∀ v ∈ kc, v.oneCell' = true) := by unfold Hid; rw [hkc]; exact cells_u8 _
    have ON' : Hid (∀ v ∈ nc, v.oneCell' = true) := by unfold Hid; rw [hnc]; exact cells_u8 _
    have hcut1 := fun W => slice_h A4 n4 c4 N (by omega) W
    have hcut2 := fun W => slice_l A4 n4 c4 N hN W
    rw [← hK] at hcut2
    have eS : (n4 : Int) - (N : Int) = (K : Int) := by omega
    have eT : (K : Int) + 16 = (nC : Int) := by omega
    have hKb : K ≤ 80 := by omega
    have hCb : nC ≤ 96 := by omega
    clear hX hnon hkc hnc hkl hnl M3 R5 W3 hsl lsl hok hot RF RT hK hnC
    go_upto_region 8 with (first
      | ((with_reducible refine storeAll_law rfl 28 (.tmp 10) (.tmp 31) rfl w4.heap.size rfl kc rfl 28 (List.replicate 32 (.int .u8 0)) ?_ IK.out ZK.out OK'.out ?_); exact (Blk.at_new _ _ 28 _ _ (by rfl) rfl).alloc _)
      | ((with_reducible refine storeAll_law rfl 30 (.tmp 11) (.tmp 33) rfl (w4.heap.size + 1) rfl nc rfl 30 (List.replicate 12 (.int .u8 0)) ?_ IN.out ZN.out ON'.out ?_); exact (Blk.at_new _ _ 30 _ _ (by rfl) (by simp)).rowFar (by simp) _))
    obtain ⟨u4, hu4⟩ : ∃ u, u = (w4.alloc (.cells (List.replicate 32 (.int .u8 0)).toArray 28)).alloc (.cells (List.replicate 12 (.int .u8 0)).toArray 30) := ⟨_, rfl⟩
    have U0 : Blk u4 w4.heap.size 28 (List.replicate 32 (.int .u8 0)) := by rw [hu4]; exact (Blk.new w4 28 _).alloc _
    have U1 : Blk u4 (w4.heap.size + 1) 30 (List.replicate 12 (.int .u8 0)) := by rw [hu4]; exact Blk.at_new _ _ 30 _ _ rfl (by simp)
    have UX : Below w4.heap.size w4 u4 := by rw [hu4]; exact ((Below.refl _ _).alloc (Nat.le_refl _) _).alloc (by simp) _
    have B0 : Hid (Blk ((u4.setRow w4.heap.size kc.toArray).setRow (w4.heap.size + 1) nc.toArray) w4.heap.size 28 kc) := (Blk.row U0).rowFar (by simp) _
    have B1 : Hid (Blk ((u4.setRow w4.heap.size kc.toArray).setRow (w4.heap.size + 1) nc.toArray) (w4.heap.size + 1) 30 nc) := Blk.row (U1.rowFar (by simp) _)
    have X5 : Hid (Below w4.heap.size w4 ((u4.setRow w4.heap.size kc.toArray).setRow (w4.heap.size + 1) nc.toArray)) := below_setRow (below_setRow UX (Nat.le_refl _) _) (by omega) _
    clear U0 U1 UX
    change Code.wp _ _ _ _ ((((w4.alloc (.cells (List.replicate 32 (.int .u8 0)).toArray 28)).alloc (.cells (List.replicate 12 (.int .u8 0)).toArray 30)).setRow w4.heap.size kc.toArray).setRow (w4.heap.size + 1) nc.toArray)
    rw [← hu4]
    clear hu4
    obtain ⟨gn, hgn⟩ : ∃ g, g = w4.heap.size + 1 := ⟨_, rfl⟩
    obtain ⟨gk, hgk⟩ : ∃ g, g = w4.heap.size := ⟨_, rfl⟩
    have hgg : gn ≠ gk := by omega
    have hgl : w4.heap.size ≤ gk := by omega
    rw [← hgn] at B0 B1 X5
    rw [← hgn]
    generalize (u4.setRow w4.heap.size kc.toArray).setRow gn nc.toArray = w5 at *
    rw [← hgk] at B0
    rw [← hgk]
    clear hgn hgk
    have W5 : Hid (Below w.heap.size w w5.drew) := (W4.out.trans (X5.out.mono W4.out.size)).drew
    have R7 : Hid (Rd w5.drew A4 n4 c4 b) := (R6.out.below X5.out).drew
    have K6 : Hid (Blk w5.drew gk 28 kc) := B0.out.drew
    have N6 : Hid (Blk w5.drew gn 30 nc) := B1.out.drew
    clear X5 W4 R6 ZK OK' ZN ON' LK LN B0 B1 hgl hgg
    refine wp_region_any (by kernel_rfl) ?_
    change wpAny _ _ _ _ _ _ _ (World.drew _)
    generalize w5.drew = w6 at *
    refine wpAny_take (i := 2) (oi := ?oi1) (v := .slice A4 n4 c4) ?hi1 (by kernel_rfl) (by kernel_rfl) (by kernel_rfl) ?hQ1 ?hy1 ?rest1
    case hi1 => simp only [List.getElem?_toArray, List.getElem?_cons_succ, List.getElem?_cons_zero]; rfl
    case hQ1 => exact fun _ _ _ h => h
    case hy1 => exact Or.inl ⟨by rfl, by intro w; go_simp⟩
    try simp only [Act.put, List.setIfInBounds_toArray, List.set_cons_zero, List.set_cons_succ]
    refine wpAny_take (i := 3) (oi := ?oi2) (v := .int .i64 (N : Int)) ?hi2 (by kernel_rfl) (by kernel_rfl) (by kernel_rfl) ?hQ2 ?hy2 ?rest2
    case hi2 => simp only [List.getElem?_toArray, List.getElem?_cons_succ, List.getElem?_cons_zero]; rfl
    case hQ2 => exact fun _ _ _ h => h
    case hy2 => exact Or.inl ⟨by rfl, by intro w; go_simp⟩
    try simp only [Act.put, List.setIfInBounds_toArray, List.set_cons_zero, List.set_cons_succ]
    refine wpAny_take (i := 4) (oi := ?oi3) (v := .slice (cutA A4 c4 0) N c4) ?hi3 (by kernel_rfl) (by kernel_rfl) (by kernel_rfl) ?hQ3 ?hy3 ?rest3
    case hi3 => simp only [List.getElem?_toArray, List.getElem?_cons_succ, List.getElem?_cons_zero]; rfl
    case hQ3 => exact fun _ _ _ h => h
    case hy3 => exact Or.inl ⟨by rfl, by intro w; go_simp⟩
    try simp only [Act.put, List.setIfInBounds_toArray, List.set_cons_zero, List.set_cons_succ]
    refine wpAny_take (i := 5) (oi := ?oi4) (v := .slice A4 n4 c4) ?hi4 (by kernel_rfl) (by kernel_rfl) (by kernel_rfl) ?hQ4 ?hy4 ?rest4
    case hi4 => simp only [List.getElem?_toArray, List.getElem?_cons_succ, List.getElem?_cons_zero]; rfl
    case hQ4 => exact fun _ _ _ h => h
    case hy4 => exact Or.inl ⟨by rfl, by intro w; go_simp⟩
    try simp only [Act.put, List.setIfInBounds_toArray, List.set_cons_zero, List.set_cons_succ]
    refine wpAny_take (i := 6) (oi := ?oi5) (v := .int .i64 (N : Int)) ?hi5 (by kernel_rfl) (by kernel_rfl) (by kernel_rfl) ?hQ5 ?hy5 ?rest5
    case hi5 => simp only [List.getElem?_toArray, List.getElem?_cons_succ, List.getElem?_cons_zero]; rfl
    case hQ5 => exact fun _ _ _ h => h
    case hy5 => exact Or.inl ⟨by rfl, by intro w; go_simp⟩
    try simp only [Act.put, List.setIfInBounds_toArray, List.set_cons_zero, List.set_cons_succ]
    refine wpAny_take (i := 7) (oi := ?oi6) (v := .slice (cutA A4 c4 N) K (c4 - N)) ?hi6 (by kernel_rfl) (by kernel_rfl) (by kernel_rfl) ?hQ6 ?hy6 ?rest6
    case hi6 => simp only [List.getElem?_toArray, List.getElem?_cons_succ, List.getElem?_cons_zero]; rfl
    case hQ6 => exact fun _ _ _ h => h
    case hy6 => exact Or.inl ⟨by rfl, by intro w; go_simp⟩
    try simp only [Act.put, List.setIfInBounds_toArray, List.set_cons_zero, List.set_cons_succ]
    refine phase (fun i => if i = 8 then [0, 1] else []) (fun d a w' => ∃ x34 x35 x42 : Value, a = { tmps := #[.slice A1 n1 c1, .slice A2 n2 c2, .slice A4 n4 c4, .int .i64 (N : Int), undef, undef, undef, undef, .bool false, .bool true, .pointer (some ⟨gk, 0, none⟩), .pointer (some ⟨gn, 0, none⟩), undef, undef, undef, undef, undef, .bool true, .bool true, .bool false, .slice A3 n3 c3, .slice A4 n4 c4, .int .i64 (N : Int), .bool false, .bool false, .int .i64 (N : Int), .slice A4 n4 c4, .int .i64 (n4 : Int), .bool false, .bool false, .slice A1 n1 c1, .agg kc.toArray, .slice A2 n2 c2, .agg nc.toArray, x34, x35, .slice A4 n4 c4, .int .i64 (N : Int), .slice (cutA A4 c4 0) N c4, .slice A4 n4 c4, .int .i64 (N : Int), .slice (cutA A4 c4 N) K (c4 - N), x42, undef, undef, undef, undef, undef, undef, undef, undef, undef, undef, undef, undef, undef, undef, undef, undef, undef, undef, undef, undef, undef, undef, undef, undef, undef, undef, undef, undef, undef], defers := [] } ∧ Hid (Below w6.heap.size w6 w')
      ∧ (d 0 = true → x34 = .agg kc.toArray) ∧ (d 1 = true → x35 = .agg nc.toArray) ∧ (d 8 = true → Hid (∃ AC cC, x42 = .slice AC nC cC ∧ Rd w' AC nC cC sl))) [0, 1, 8] ?step 1 3 [0, 1, 8] _ _ _ rfl (by decide) (fun _ h => h) (by kernel_rfl) ?init ?fin
    case init =>
      refine ⟨_, _, _, rfl, Below.refl _ _, ?_, ?_, ?_⟩ <;> (intro h; exact absurd h (by decide))
    case step =>
      intro i hi d a w7 hI hdi hdeps
      obtain ⟨x34, x35, x42, rfl, BW, h0, h1, h8⟩ := hI
      have hs7 := BW.out.size
      simp only [List.mem_cons, List.not_mem_nil, or_false] at hi
      rcases hi with rfl | rfl | rfl
      · refine wpOp_step (o := ?os7) ?hos7 (fun K' hK => ?_)
        case hos7 => simp only [List.getElem?_toArray, List.getElem?_cons_succ, List.getElem?_cons_zero]; rfl
        refine step_loadW rfl 28 (.tmp 10) rfl gk 0 rfl kc _ Tryd.underlying28 rfl IK.out (K6.out.below BW.out K6.out.lt).cells (hK _ _ ?_)
        clear hK K'
        try simp only [Act.put, List.setIfInBounds_toArray, List.set_cons_zero, List.set_cons_succ]
        exact ⟨_, x35, x42, rfl, BW, fun _ => rfl, fun a => h1 (by simpa using a), fun a => h8 (by simpa using a)⟩
      · refine wpOp_step (o := ?os8) ?hos8 (fun K' hK => ?_)
        case hos8 => simp only [List.getElem?_toArray, List.getElem?_cons_succ, List.getElem?_cons_zero]; rfl
        refine step_loadW rfl 30 (.tmp 11) rfl gn 0 rfl nc _ Tryd.underlying30 rfl IN.out (N6.out.below BW.out N6.out.lt).cells (hK _ _ ?_)
        clear hK K'
        try simp only [Act.put, List.setIfInBounds_toArray, List.set_cons_zero, List.set_cons_succ]
        exact ⟨x34, _, x42, rfl, BW, fun a => h0 (by simpa using a), fun _ => rfl, fun a => h8 (by simpa using a)⟩
      · obtain rfl := h0 (hdeps 0 (by simp))
        obtain rfl := h1 (hdeps 1 (by simp))
        refine wpOp_step (o := ?os9) ?hos9 (fun K' hK => ?_)
        case hos9 => simp only [List.getElem?_toArray, List.getElem?_cons_succ, List.getElem?_cons_zero]; rfl
        clear h8
        go_simp
        refine (CS.out w7 (R7.out.below BW.out)).mono ?_
        rintro e w8 ⟨AC, nX, cC, rfl, hR, hX⟩
        obtain rfl : nX = nC := by rw [← hR.len, HLS.out]
        refine hK _ _ ?_
        clear hK K'
        try simp only [Act.put, List.setIfInBounds_toArray, List.set_cons_zero, List.set_cons_succ]
        exact ⟨_, _, _, rfl, BW.out.trans (hX.mono hs7), fun _ => rfl, fun _ => rfl, fun _ => ⟨_, _, rfl, hR⟩⟩
    case fin =>
      intro a w7 hI
      obtain ⟨x34, x35, x42, rfl, BW, h0, h1, h8⟩ := hI
      obtain ⟨AC, cC, rfl, hR⟩ := (h8 (by decide)).out
      have W7 := Lib.hid (W5.out.trans (BW.out.mono W5.out.size))
      have C0 := Lib.hid (K6.out.below BW.out K6.out.lt)
      have C1 := Lib.hid (N6.out.below BW.out N6.out.lt)
      have R8 := Lib.hid (R7.out.below BW.out)
      have RC := Lib.hid hR
      clear h0 h1 h8 BW hR W5 K6 N6 R7 CS
      dsimp only
      refine wpAny_take (i := 9) (oi := ?oi10) (v := .slice AC nC cC) ?hi10 (by kernel_rfl) (by kernel_rfl) (by kernel_rfl) ?hQ10 ?hy10 ?rest10
      case hi10 => simp only [List.getElem?_toArray, List.getElem?_cons_succ, List.getElem?_cons_zero]; rfl
      case hQ10 => exact fun _ _ _ h => h
      case hy10 => exact Or.inl ⟨by rfl, by intro w; go_simp⟩
      try simp only [Act.put, List.setIfInBounds_toArray, List.set_cons_zero, List.set_cons_succ]
      refine wpAny_done (by kernel_rfl) ?_ _
      go_wp2_with (first
        | ((with_reducible refine load_law rfl 28 (.tmp 10) rfl gk 0 rfl kc _ Tryd.underlying28 rfl IK.out C0.out.cells ?_))
        | ((with_reducible refine load_law rfl 30 (.tmp 11) rfl gn 0 rfl nc _ Tryd.underlying30 rfl IN.out C1.out.cells ?_)))
      refine (CO.out w7 AC cC R8.out RC.out).mono ?_
      rintro e w8 ⟨A5, n5, c5, rfl, _, hX⟩
      have W8 := Lib.hid (W7.out.trans (hX.mono W7.out.size))
      have D0 := Lib.hid (C0.out.below hX C0.out.lt)
      have D1 := Lib.hid (C1.out.below hX C1.out.lt)
      have R9 := Lib.hid (R8.out.below hX)
      have RD := Lib.hid (RC.out.below hX)
      clear hX C0 C1 R8 RC W7
      go_wp2_with (first
        | ((with_reducible refine load_law rfl 28 (.tmp 10) rfl gk 0 rfl kc _ Tryd.underlying28 rfl IK.out D0.out.cells ?_))
        | ((with_reducible refine load_law rfl 30 (.tmp 11) rfl gn 0 rfl nc _ Tryd.underlying30 rfl IN.out D1.out.cells ?_)))
      refine (CR.out w8 AC cC R9.out RD.out).mono ?_
      rintro e w9 ⟨A6, n6, c6, rfl, _, hX⟩
      have W9 := Lib.hid (W8.out.trans (hX.mono W8.out.size))
      have hbe : (ok == ok) = true := by simp
      clear hX D0 D1 R9 RD W8 CO CR
      go_wp2_with fail
      go_ret
      exact ⟨rfl, W9.out⟩
end Go.Proofs.YtknpngeaodlmhaaDoor.aeadLens
