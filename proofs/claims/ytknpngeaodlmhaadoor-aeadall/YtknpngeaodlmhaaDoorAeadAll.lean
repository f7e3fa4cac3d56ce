/- The walk of AeadAll. -/
import Derived.Test.YtknpngeaodlmhaaDoorAeW
namespace Go.Proofs.YtknpngeaodlmhaaDoor.aeadAll
set_option linter.unusedVariables false
set_option linter.unusedSimpArgs false
open Go.RowKit

set_option maxRecDepth 100000 in
set_option maxHeartbeats 16000000 in
theorem walk (hA : AeOk) {A1 A2 A3 A4 : Option Addr} {n1 c1 n2 c2 n3 c3 n4 c4 : Nat} {x1 x2 x3 x4 : List UInt8} (turn : Int) (x : UInt8) (w : World) (hg : Gl w) (hr1 : Rd w A1 n1 c1 x1) (hr2 : Rd w A2 n2 c2 x2) (hr3 : Rd w A3 n3 c3 x3) (hr4 : Rd w A4 n4 c4 x4) :
    Calls Tryd.prog 7 #[.slice A1 n1 c1, .slice A2 n2 c2, .slice A3 n3 c3, .slice A4 n4 c4, .int .i64 turn, .int .u8 (x.toNat : Int)] w fun e w' => e = .returned (.bool true) ∧ Below w.heap.size w w' := by
  have HG := Lib.hid hg
  have R1 := Lib.hid hr1
  have R2 := Lib.hid hr2
  have R3 := Lib.hid hr3
  have R4 := Lib.hid hr4
  clear hg hr1 hr2 hr3 hr4
  go_enter Tryd.func7, Tryd.ntmps7
  go_wp2_with (first | (go_at_call 14; refine (begun4_any hA HG.out).mono ?_; rintro e w1 ⟨rfl, HB⟩; have W1 := Lib.hid HB; clear HB))
  refine (short_any 40 (R3.out.below W1.out) (by omega)).mono ?_
  rintro e w' ⟨B3, m3, d3, rfl, hr, rfl⟩
  have S3 := Lib.hid hr
  have hl3 : m3 ≤ 40 := by rw [← hr.len, List.length_take]; omega
  obtain ⟨l3, hb3⟩ : ∃ l, l = x3.take 40 := ⟨_, rfl⟩
  rw [← hb3] at S3
  clear hb3 hr
  go_wp2_with fail
  refine (short_any 100 (R4.out.below W1.out) (by omega)).mono ?_
  rintro e w' ⟨B4, m4, d4, rfl, hr, rfl⟩
  have S4 := Lib.hid hr
  have hl4 : m4 ≤ 100 := by rw [← hr.len, List.length_take]; omega
  obtain ⟨l4, hb4⟩ : ∃ l, l = x4.take 100 := ⟨_, rfl⟩
  rw [← hb4] at S4
  clear hb4 hr
  have K1 := Lib.hid (R1.out.below W1.out)
  have M1 := Lib.hid (R2.out.below W1.out)
  clear R1 R2 R3 R4
  go_wp2_with fail
  refine (key_any K1.out).mono ?_
  rintro e w3 ⟨rfl, hX⟩
  have W3 := Lib.hid (W1.out.trans (hX.mono W1.out.size))
  have T3 := Lib.hid (S3.out.below hX)
  have T4 := Lib.hid (S4.out.below hX)
  have M3 := Lib.hid (M1.out.below hX)
  obtain ⟨key, hkey⟩ : ∃ k, k = padTo 32 x1 := ⟨_, rfl⟩
  rw [← hkey]
  have LK : Hid (key.length = 32) := by unfold Hid; rw [hkey, padTo_length]
  clear hX hkey K1 M1 S3 S4 W1
  go_wp2_with fail
  refine (nonce_any M3.out).mono ?_
  rintro e w4 ⟨rfl, hX⟩
  have W4 := Lib.hid (W3.out.trans (hX.mono W3.out.size))
  have U3 := Lib.hid (T3.out.below hX)
  have U4 := Lib.hid (T4.out.below hX)
  obtain ⟨nonce, hnon⟩ : ∃ k, k = padTo 12 x2 := ⟨_, rfl⟩
  rw [← hnon]
  have LN : Hid (nonce.length = 12) := by unfold Hid; rw [hnon, padTo_length]
  obtain ⟨kc, hkc⟩ : ∃ c, c = key.map cellOf := ⟨_, rfl⟩
  obtain ⟨nc, hnc⟩ : ∃ c, c = nonce.map cellOf := ⟨_, rfl⟩
  rw [← hkc, ← hnc]
  obtain ⟨nC, hnC⟩ : ∃ m, m = m4 + 16 := ⟨_, rfl⟩
  obtain ⟨sl, hsl⟩ : ∃ l, l = Ae.sealed key nonce l3 l4 := ⟨_, rfl⟩
  have HLS : Hid (sl.length = nC) := by unfold Hid; rw [hsl, Ae.sealed_length, U4.out.len, hnC]
  have CS : Hid (∀ W, Rd W B3 m3 d3 l3 → Rd W B4 m4 d4 l4 → Calls Tryd.prog 26 #[.agg kc.toArray, .agg nc.toArray, .slice B3 m3 d3, .slice B4 m4 d4] W (RetR W sl)) := fun W h h' => by rw [hkc, hnc, hsl]; exact hA.s key nonce LK.out LN.out h h' (by omega) (by omega)
  have CRS : Hid (∀ W, Rd W B3 m3 d3 l3 → Rd W B4 m4 d4 l4 → Calls Tryd.prog 28 #[.agg kc.toArray, .agg nc.toArray, .slice B3 m3 d3, .slice B4 m4 d4] W (RetB W sl)) := fun W h h' => by rw [hkc, hnc, hsl]; exact rseal_any key nonce LK.out LN.out h h' (by omega) (by omega)
  have CO : Hid (∀ W A c, Rd W B3 m3 d3 l3 → Rd W A nC c sl → Calls Tryd.prog 27 #[.agg kc.toArray, .agg nc.toArray, .slice B3 m3 d3, .slice A nC c] W (RetO W l4 true)) := fun W A c h h' => by
    have := hA.o key nonce LK.out LN.out h h' (by omega) (by omega)
    rw [hsl, opened_sealed, Ae.opens_sealed, ← hkc, ← hnc] at this
    exact this
  have CM : Hid (∀ (K N : List UInt8) W A n c l A' n' c' l', K.length = 32 → N.length = 12 → Rd W A n c l → Rd W A' n' c' l' → n ≤ 10000 → n' ≤ 10000 → Calls Tryd.prog 29 #[.agg (K.map cellOf).toArray, .agg (N.map cellOf).toArray, .slice A n c, .slice A' n' c'] W fun e w' => e = .returned (.bool true) ∧ Below W.heap.size W w') := fun K N W A n c l A' n' c' l' h1 h2 h h' hn hn' => same4_any hA K N h1 h2 h h' hn hn'
  have hkl : kc.length = 32 := by rw [hkc, List.length_map, LK.out]
  have hnl : nc.length = 12 := by rw [hnc, List.length_map, LN.out]
  have IK : Hid ((Tryd.prog.info? 28).map (·.size) = some kc.length) := by unfold Hid; rw [hkl]; kernel_rfl
  have IN : Hid ((Tryd.prog.info? 30).map (·.size) = some nc.length) := by unfold Hid; rw [hnl]; kernel_rfl
  have ZK : Hid ((List.replicate 32 (Value.int .u8 0)).length = kc.length) := by unfold Hid; rw [hkl]; rfl
  have ZN : Hid ((List.replicate 12 (Value.int .u8 0)).length = nc.length) := by unfold Hid; rw [hnl]; rfl
  have OK' : Hid (∀ v ∈ kc, v.oneCell' = true) := by unfold Hid; rw [hkc]; exact cells_u8 _
  have ON' : Hid (∀ v ∈ nc, v.oneCell' = true) := by unfold Hid; rw [hnc]; exact cells_u8 _
  have hCb : nC ≤ 116 := by omega
  have HKC := Lib.hid hkc
  have HNC := Lib.hid hnc
  clear hX hnon hkc hnc hkl hnl M3 T3 T4 W3 hsl hnC
  go_upto_region 6 with (first
    | ((with_reducible refine storeAll_law rfl 28 (.tmp 14) (.tmp 29) rfl w4.heap.size rfl kc rfl 28 (List.replicate 32 (.int .u8 0)) ?_ IK.out ZK.out OK'.out ?_); exact (Blk.at_new _ _ 28 _ _ (by rfl) rfl).alloc _)
    | ((with_reducible refine storeAll_law rfl 30 (.tmp 15) (.tmp 31) rfl (w4.heap.size + 1) rfl nc rfl 30 (List.replicate 12 (.int .u8 0)) ?_ IN.out ZN.out ON'.out ?_); exact (Blk.at_new _ _ 30 _ _ (by rfl) (by simp)).rowFar (by simp) _))
  obtain ⟨u4, hu4⟩ : ∃ u, u = (w4.alloc (.cells (List.replicate 32 (.int .u8 0)).toArray 28)).alloc (.cells (List.replicate 12 (.int .u8 0)).toArray 30) := ⟨_, rfl⟩
  have U0 : Blk u4 w4.heap.size 28 (List.replicate 32 (.int .u8 0)) := by rw [hu4]; exact (Blk.new w4 28 _).alloc _
  have U1 : Blk u4 (w4.heap.size + 1) 30 (List.replicate 12 (.int .u8 0)) := by rw [hu4]; exact Blk.at_new _ _ 30 _ _ rfl (by simp)
  have UX : Below w4.heap.size w4 u4 := by rw [hu4]; exact ((Below.refl _ _).alloc (Nat.le_refl _) _).alloc (by simp) _
  have B0 : Hid (Blk ((u4.setRow w4.heap.size kc.toArray).setRow (w4.heap.size + 1) nc.toArray) w4.heap.size 28 kc) := (Blk.row U0).rowFar (by simp) _
  have B1 : Hid (Blk ((u4.setRow w4.heap.size kc.toArray).setRow (w4.heap.size + 1) nc.toArray) (w4.heap.size + 1) 30 nc) := Blk.row (U1.rowFar (by simp) _)
  have X5 : Hid (Below w4.heap.size w4 ((u4.setRow w4.heap.size kc.toArray).setRow (w4.heap.size + 1) nc.toArray)) := below_setRow (below_setRow UX (Nat.le_refl _) _) (by omega) _
  clear U0 U1 UX
  change Code.wp _ _ _ _ ((((w4.alloc (.cells (List.replicate 32 (.int .u8 0)).toArray 28)).alloc (.cells (List.replicate 12 (.int .u8 0)).toArray 30)).setRow w4.heap.size kc.toArray).setRow (w4.heap.size + 1) nc.toArray)
  rw [← hu4]
  clear hu4
  obtain ⟨gn, hgn⟩ : ∃ g, g = w4.heap.size + 1 := ⟨_, rfl⟩
  obtain ⟨gk, hgk⟩ : ∃ g, g = w4.heap.size := ⟨_, rfl⟩
  have hgg : gn ≠ gk := by omega
  have hgl : w4.heap.size ≤ gk := by omega
  rw [← hgn] at B0 B1 X5
  rw [← hgn]
  generalize (u4.setRow w4.heap.size kc.toArray).setRow gn nc.toArray = w5 at *
  rw [← hgk] at B0
  rw [← hgk]
  clear hgn hgk
  have W5 := Lib.hid (W4.out.trans (X5.out.mono W4.out.size))
  have V3 := Lib.hid (U3.out.below X5.out)
  have V4 := Lib.hid (U4.out.below X5.out)
  clear X5 W4 U3 U4 hgl hgg
  go_wp2_with (first
    | ((with_reducible refine load_law rfl 28 (.tmp 14) rfl gk 0 rfl kc _ Tryd.underlying28 rfl IK.out B0.out.cells ?_))
    | ((with_reducible refine load_law rfl 30 (.tmp 15) rfl gn 0 rfl nc _ Tryd.underlying30 rfl IN.out B1.out.cells ?_)))
  refine (CS.out w5 V3.out V4.out).mono ?_
  rintro e w6 ⟨AC, nX, cC, rfl, hR, hX⟩
  obtain rfl : nC = nX := by rw [← hR.len, HLS.out]
  have W6 := Lib.hid (W5.out.trans (hX.mono W5.out.size))
  have C0 := Lib.hid (B0.out.below hX B0.out.lt)
  have C1 := Lib.hid (B1.out.below hX B1.out.lt)
  have P3 := Lib.hid (V3.out.below hX)
  have P4 := Lib.hid (V4.out.below hX)
  have PC := Lib.hid hR
  clear hX hR B0 B1 V3 V4 W5 CS
  go_wp2_with (first
    | ((with_reducible refine load_law rfl 28 (.tmp 14) rfl gk 0 rfl kc _ Tryd.underlying28 rfl IK.out C0.out.cells ?_))
    | ((with_reducible refine load_law rfl 30 (.tmp 15) rfl gn 0 rfl nc _ Tryd.underlying30 rfl IN.out C1.out.cells ?_)))
  refine (CO.out w6 AC cC P3.out PC.out).mono ?_
  rintro e w7 ⟨AO, nO, cO, rfl, hR, hX⟩
  have W7 := Lib.hid (W6.out.trans (hX.mono W6.out.size))
  have D0 := Lib.hid (C0.out.below hX C0.out.lt)
  have D1 := Lib.hid (C1.out.below hX C1.out.lt)
  have Q3 := Lib.hid (P3.out.below hX)
  have Q4 := Lib.hid (P4.out.below hX)
  have QC := Lib.hid (PC.out.below hX)
  have QO := Lib.hid hR
  clear hX hR C0 C1 P3 P4 PC W6 CO
  go_upto_region 8 with (fail)
  have WA : Hid (Below w.heap.size w w7.drew) := W7.out.drew
  have E3 : Hid (Rd w7.drew B3 m3 d3 l3) := Q3.out.drew
  have E4 : Hid (Rd w7.drew B4 m4 d4 l4) := Q4.out.drew
  have EC : Hid (Rd w7.drew AC nC cC sl) := QC.out.drew
  have EO : Hid (Rd w7.drew AO nO cO l4) := QO.out.drew
  have EK : Hid (Blk w7.drew gk 28 kc) := D0.out.drew
  have EN : Hid (Blk w7.drew gn 30 nc) := D1.out.drew
  clear W7 Q3 Q4 QC QO D0 D1
  refine wp_region_any (by kernel_rfl) ?_
  change wpAny _ _ _ _ _ _ _ (World.drew _)
  generalize w7.drew = wA at *
  refine wpAny_take (i := 0) (oi := ?oi1) (v := .slice AC nC cC) ?hi1 (by kernel_rfl) (by kernel_rfl) (by kernel_rfl) ?hQ1 ?hy1 ?rest1
  case hi1 => simp only [List.getElem?_toArray, List.getElem?_cons_succ, List.getElem?_cons_zero]; rfl
  case hQ1 => exact fun _ _ _ h => h
  case hy1 => exact Or.inl ⟨by rfl, by intro w; go_simp⟩
  try simp only [Act.put, List.setIfInBounds_toArray, List.set_cons_zero, List.set_cons_succ]
  refine wpAny_take (i := 4) (oi := ?oi2) (v := .slice B3 m3 d3) ?hi2 (by kernel_rfl) (by kernel_rfl) (by kernel_rfl) ?hQ2 ?hy2 ?rest2
  case hi2 => simp only [List.getElem?_toArray, List.getElem?_cons_succ, List.getElem?_cons_zero]; rfl
  case hQ2 => exact fun _ _ _ h => h
  case hy2 => exact Or.inl ⟨by rfl, by intro w; go_simp⟩
  try simp only [Act.put, List.setIfInBounds_toArray, List.set_cons_zero, List.set_cons_succ]
  refine wpAny_take (i := 5) (oi := ?oi3) (v := .slice B4 m4 d4) ?hi3 (by kernel_rfl) (by kernel_rfl) (by kernel_rfl) ?hQ3 ?hy3 ?rest3
  case hi3 => simp only [List.getElem?_toArray, List.getElem?_cons_succ, List.getElem?_cons_zero]; rfl
  case hQ3 => exact fun _ _ _ h => h
  case hy3 => exact Or.inl ⟨by rfl, by intro w; go_simp⟩
  try simp only [Act.put, List.setIfInBounds_toArray, List.set_cons_zero, List.set_cons_succ]
  refine phase (fun i => if i = 6 then [2, 3] else if i = 7 then [6] else []) (fun d a w' => ∃ x46 x47 x48 x51 x52 : Value, a = { tmps := #[.slice A1 n1 c1, .slice A2 n2 c2, .slice B3 m3 d3, .slice B4 m4 d4, .int .i64 turn, .int .u8 (x.toNat : Int), undef, undef, undef, undef, undef, undef, .bool false, .bool true, .pointer (some ⟨gk, 0, none⟩), .pointer (some ⟨gn, 0, none⟩), .slice AC nC cC, .slice AO nO cO, .bool true, undef, undef, .bool true, .bool true, .bool false, .slice A3 n3 c3, .slice B3 m3 d3, .slice A4 n4 c4, .slice B4 m4 d4, .slice A1 n1 c1, .agg kc.toArray, .slice A2 n2 c2, .agg nc.toArray, .agg kc.toArray, .agg nc.toArray, .slice B3 m3 d3, .slice B4 m4 d4, .slice AC nC cC, .tuple #[.slice AO nO cO, .bool true], .agg kc.toArray, .agg nc.toArray, .slice B3 m3 d3, .slice AC nC cC, .tuple #[.slice AO nO cO, .bool true], .slice AO nO cO, .bool true, .slice AC nC cC, x46, x47, x48, .slice B3 m3 d3, .slice B4 m4 d4, x51, x52, undef, undef, undef, undef, undef, undef, undef, undef, undef, undef, undef, undef, undef, undef, undef, undef, undef, undef, undef, undef, undef, undef, undef, undef, undef, undef, undef, undef, undef, undef, undef, undef, undef, undef, undef, undef, undef, undef, undef, undef, undef, undef, undef, undef, undef, undef, undef, undef, undef, undef, undef, undef, undef, undef, undef, undef, undef, undef, undef, undef, undef, undef, undef, undef, undef, undef, undef, undef, undef, undef, undef, undef, undef, undef, undef, undef, undef, undef], defers := [] } ∧ Hid (Below wA.heap.size wA w')
    ∧ (d 1 = true → x46 = .string ⟨sl.toArray⟩) ∧ (d 2 = true → x47 = .agg kc.toArray) ∧ (d 3 = true → x48 = .agg nc.toArray) ∧ (d 6 = true → Hid (∃ A n c, x51 = .slice A n c ∧ Rd w' A n c sl)) ∧ (d 7 = true → x52 = .string ⟨sl.toArray⟩)) [1, 2, 3, 6, 7] ?stepx46 16 5 [1, 2, 3, 6, 7] _ _ _ rfl (by decide) (fun _ h => h) (by kernel_rfl) ?initx46 ?finx46
  case initx46 =>
    refine ⟨_, _, _, _, _, rfl, Below.refl _ _, ?_, ?_, ?_, ?_, ?_⟩ <;> (intro h; exact absurd h (by decide))
  case stepx46 =>
    intro i hi d a wB hI hdi hdeps
    obtain ⟨x46, x47, x48, x51, x52, rfl, BW, hc, h0, h1, h6, h7⟩ := hI
    have hsz := BW.out.size
    simp only [List.mem_cons, List.not_mem_nil, or_false] at hi
    rcases hi with rfl | rfl | rfl | rfl | rfl
    · have hcv := conv_bytes (EC.out.below BW.out)
      refine wpOp_step (o := ?os4) ?hos4 (fun K' hK => ?_)
      case hos4 => simp only [List.getElem?_toArray, List.getElem?_cons_succ, List.getElem?_cons_zero]; rfl
      go_simp
      refine hK _ _ ?_
      clear hK K'
      try simp only [Act.put, List.setIfInBounds_toArray, List.set_cons_zero, List.set_cons_succ]
      exact ⟨_, x47, x48, x51, x52, rfl, BW, fun _ => rfl, fun a => h0 (by simpa using a), fun a => h1 (by simpa using a), fun a => h6 (by simpa using a), fun a => h7 (by simpa using a)⟩
    · refine wpOp_step (o := ?os5) ?hos5 (fun K' hK => ?_)
      case hos5 => simp only [List.getElem?_toArray, List.getElem?_cons_succ, List.getElem?_cons_zero]; rfl
      refine step_loadW rfl 28 (.tmp 14) rfl gk 0 rfl kc _ Tryd.underlying28 rfl IK.out (EK.out.below BW.out EK.out.lt).cells (hK _ _ ?_)
      clear hK K'
      try simp only [Act.put, List.setIfInBounds_toArray, List.set_cons_zero, List.set_cons_succ]
      exact ⟨x46, _, x48, x51, x52, rfl, BW, fun a => hc (by simpa using a), fun _ => rfl, fun a => h1 (by simpa using a), fun a => h6 (by simpa using a), fun a => h7 (by simpa using a)⟩
    · refine wpOp_step (o := ?os6) ?hos6 (fun K' hK => ?_)
      case hos6 => simp only [List.getElem?_toArray, List.getElem?_cons_succ, List.getElem?_cons_zero]; rfl
      refine step_loadW rfl 30 (.tmp 15) rfl gn 0 rfl nc _ Tryd.underlying30 rfl IN.out (EN.out.below BW.out EN.out.lt).cells (hK _ _ ?_)
      clear hK K'
      try simp only [Act.put, List.setIfInBounds_toArray, List.set_cons_zero, List.set_cons_succ]
      exact ⟨x46, x47, _, x51, x52, rfl, BW, fun a => hc (by simpa using a), fun a => h0 (by simpa using a), fun _ => rfl, fun a => h6 (by simpa using a), fun a => h7 (by simpa using a)⟩
    · obtain rfl := h0 (hdeps 2 (by simp))
      obtain rfl := h1 (hdeps 3 (by simp))
      refine wpOp_step (o := ?os7) ?hos7 (fun K' hK => ?_)
      case hos7 => simp only [List.getElem?_toArray, List.getElem?_cons_succ, List.getElem?_cons_zero]; rfl
      clear h6
      go_simp
      refine (CRS.out wB (E3.out.below BW.out) (E4.out.below BW.out)).mono ?_
      rintro e wC ⟨v, rfl, hO, hX⟩
      obtain ⟨A, c, rfl, hRd, _⟩ := hO.value
      refine hK _ _ ?_
      clear hK K'
      try simp only [Act.put, List.setIfInBounds_toArray, List.set_cons_zero, List.set_cons_succ]
      exact ⟨x46, _, _, _, x52, rfl, BW.out.trans (hX.mono hsz), fun a => hc (by simpa using a), fun _ => rfl, fun _ => rfl, fun _ => ⟨_, _, _, rfl, hRd⟩, fun a => h7 (by simpa using a)⟩
    · obtain ⟨A, n, c, rfl, hRd⟩ := (h6 (hdeps 6 (by simp))).out
      have hcv := conv_bytes hRd
      refine wpOp_step (o := ?os8) ?hos8 (fun K' hK => ?_)
      case hos8 => simp only [List.getElem?_toArray, List.getElem?_cons_succ, List.getElem?_cons_zero]; rfl
      clear h6
      go_simp
      refine hK _ _ ?_
      clear hK K'
      try simp only [Act.put, List.setIfInBounds_toArray, List.set_cons_zero, List.set_cons_succ]
      exact ⟨x46, x47, x48, _, _, rfl, BW, fun a => hc (by simpa using a), fun a => h0 (by simpa using a), fun a => h1 (by simpa using a), fun _ => ⟨_, _, _, rfl, hRd⟩, fun _ => rfl⟩
  case finx46 =>
    intro a wB hI
    obtain ⟨x46, x47, x48, x51, x52, rfl, BW, hc, h0, h1, h6, h7⟩ := hI
    obtain rfl := hc (by decide)
    obtain rfl := h7 (by decide)
    have WB := Lib.hid (WA.out.trans (BW.out.mono WA.out.size))
    have G3 := Lib.hid (E3.out.below BW.out)
    have G4 := Lib.hid (E4.out.below BW.out)
    have GC := Lib.hid (EC.out.below BW.out)
    have GO := Lib.hid (EO.out.below BW.out)
    have GK := Lib.hid (EK.out.below BW.out EK.out.lt)
    have GN := Lib.hid (EN.out.below BW.out EN.out.lt)
    clear hc h0 h1 h6 h7 BW WA E3 E4 EC EO EK EN
    dsimp only
    refine wpAny_take (i := 8) (oi := ?oi9) (v := .bool false) ?hi9 (by kernel_rfl) (by kernel_rfl) (by kernel_rfl) ?hQ9 ?hy9 ?rest9
    case hi9 => simp only [List.getElem?_toArray, List.getElem?_cons_succ, List.getElem?_cons_zero]; rfl
    case hQ9 => exact fun _ _ _ h => h
    case hy9 => exact Or.inl ⟨by rfl, by intro w; go_simp⟩
    try simp only [Act.put, List.setIfInBounds_toArray, List.set_cons_zero, List.set_cons_succ]
    refine wpAny_take (i := 9) (oi := ?oi10) (v := .bool false) ?hi10 (by kernel_rfl) (by kernel_rfl) (by kernel_rfl) ?hQ10 ?hy10 ?rest10
    case hi10 => simp only [List.getElem?_toArray, List.getElem?_cons_succ, List.getElem?_cons_zero]; rfl
    case hQ10 => exact fun _ _ _ h => h
    case hy10 => exact Or.inl ⟨by rfl, by intro w; go_simp⟩
    try simp only [Act.put, List.setIfInBounds_toArray, List.set_cons_zero, List.set_cons_succ]
    refine wpAny_take (i := 10) (oi := ?oi11) (v := .bool true) ?hi11 (by kernel_rfl) (by kernel_rfl) (by kernel_rfl) ?hQ11 ?hy11 ?rest11
    case hi11 => simp only [List.getElem?_toArray, List.getElem?_cons_succ, List.getElem?_cons_zero]; rfl
    case hQ11 => exact fun _ _ _ h => h
    case hy11 => exact Or.inl ⟨by rfl, by intro w; go_simp⟩
    try simp only [Act.put, List.setIfInBounds_toArray, List.set_cons_zero, List.set_cons_succ]
    refine wpAny_take (i := 11) (oi := ?oi12) (v := .bool false) ?hi12 (by kernel_rfl) (by kernel_rfl) (by kernel_rfl) ?hQ12 ?hy12 ?rest12
    case hi12 => simp only [List.getElem?_toArray, List.getElem?_cons_succ, List.getElem?_cons_zero]; rfl
    case hQ12 => exact fun _ _ _ h => h
    case hy12 => exact Or.inl ⟨by rfl, by intro w; go_simp⟩
    try simp only [Act.put, List.setIfInBounds_toArray, List.set_cons_zero, List.set_cons_succ]
    refine wpAny_take (i := 12) (oi := ?oi13) (v := .bool false) ?hi13 (by kernel_rfl) (by kernel_rfl) (by kernel_rfl) ?hQ13 ?hy13 ?rest13
    case hi13 => simp only [List.getElem?_toArray, List.getElem?_cons_succ, List.getElem?_cons_zero]; rfl
    case hQ13 => exact fun _ _ _ h => h
    case hy13 => exact Or.inl ⟨by rfl, by intro w; go_simp⟩
    try simp only [Act.put, List.setIfInBounds_toArray, List.set_cons_zero, List.set_cons_succ]
    refine wpAny_take (i := 13) (oi := ?oi14) (v := .bool false) ?hi14 (by kernel_rfl) (by kernel_rfl) (by kernel_rfl) ?hQ14 ?hy14 ?rest14
    case hi14 => simp only [List.getElem?_toArray, List.getElem?_cons_succ, List.getElem?_cons_zero]; rfl
    case hQ14 => exact fun _ _ _ h => h
    case hy14 => exact Or.inl ⟨by rfl, by intro w; go_simp⟩
    try simp only [Act.put, List.setIfInBounds_toArray, List.set_cons_zero, List.set_cons_succ]
    refine wpAny_take (i := 14) (oi := ?oi15) (v := .slice AO nO cO) ?hi15 (by kernel_rfl) (by kernel_rfl) (by kernel_rfl) ?hQ15 ?hy15 ?rest15
    case hi15 => simp only [List.getElem?_toArray, List.getElem?_cons_succ, List.getElem?_cons_zero]; rfl
    case hQ15 => exact fun _ _ _ h => h
    case hy15 => exact Or.inl ⟨by rfl, by intro w; go_simp⟩
    try simp only [Act.put, List.setIfInBounds_toArray, List.set_cons_zero, List.set_cons_succ]
    refine wpAny_take (i := 16) (oi := ?oi16) (v := .slice B4 m4 d4) ?hi16 (by kernel_rfl) (by kernel_rfl) (by kernel_rfl) ?hQ16 ?hy16 ?rest16
    case hi16 => simp only [List.getElem?_toArray, List.getElem?_cons_succ, List.getElem?_cons_zero]; rfl
    case hQ16 => exact fun _ _ _ h => h
    case hy16 => exact Or.inl ⟨by rfl, by intro w; go_simp⟩
    try simp only [Act.put, List.setIfInBounds_toArray, List.set_cons_zero, List.set_cons_succ]
    refine phase (fun _ => []) (fun d a w' => ∃ x60 x62 : Value, a = { tmps := #[.slice A1 n1 c1, .slice A2 n2 c2, .slice B3 m3 d3, .slice B4 m4 d4, .int .i64 turn, .int .u8 (x.toNat : Int), undef, undef, undef, undef, undef, undef, .bool false, .bool true, .pointer (some ⟨gk, 0, none⟩), .pointer (some ⟨gn, 0, none⟩), .slice AC nC cC, .slice AO nO cO, .bool true, undef, undef, .bool true, .bool true, .bool false, .slice A3 n3 c3, .slice B3 m3 d3, .slice A4 n4 c4, .slice B4 m4 d4, .slice A1 n1 c1, .agg kc.toArray, .slice A2 n2 c2, .agg nc.toArray, .agg kc.toArray, .agg nc.toArray, .slice B3 m3 d3, .slice B4 m4 d4, .slice AC nC cC, .tuple #[.slice AO nO cO, .bool true], .agg kc.toArray, .agg nc.toArray, .slice B3 m3 d3, .slice AC nC cC, .tuple #[.slice AO nO cO, .bool true], .slice AO nO cO, .bool true, .slice AC nC cC, .string ⟨sl.toArray⟩, x47, x48, .slice B3 m3 d3, .slice B4 m4 d4, x51, .string ⟨sl.toArray⟩, .bool false, .bool false, .bool true, .bool false, .bool false, .bool false, .slice AO nO cO, x60, .slice B4 m4 d4, x62, undef, undef, undef, undef, undef, undef, undef, undef, undef, undef, undef, undef, undef, undef, undef, undef, undef, undef, undef, undef, undef, undef, undef, undef, undef, undef, undef, undef, undef, undef, undef, undef, undef, undef, undef, undef, undef, undef, undef, undef, undef, undef, undef, undef, undef, undef, undef, undef, undef, undef, undef, undef, undef, undef, undef, undef, undef, undef, undef, undef, undef, undef, undef, undef, undef, undef, undef, undef], defers := [] } ∧ Hid (Below wB.heap.size wB w')
      ∧ (d 15 = true → x60 = .string ⟨l4.toArray⟩) ∧ (d 17 = true → x62 = .string ⟨l4.toArray⟩)) [15, 17] ?stepx60 6 2 [15, 17] _ _ _ rfl (by decide) (fun _ h => h) (by kernel_rfl) ?initx60 ?finx60
    case initx60 =>
      refine ⟨_, _, rfl, Below.refl _ _, ?_, ?_⟩ <;> (intro h; exact absurd h (by decide))
    case stepx60 =>
      intro i hi d a wC hI hdi hdeps
      obtain ⟨x60, x62, rfl, BW, h0, h1⟩ := hI
      simp only [List.mem_cons, List.not_mem_nil, or_false] at hi
      rcases hi with rfl | rfl
      · have hcv := conv_bytes (GO.out.below BW.out)
        refine wpOp_step (o := ?os17) ?hos17 (fun K' hK => ?_)
        case hos17 => simp only [List.getElem?_toArray, List.getElem?_cons_succ, List.getElem?_cons_zero]; rfl
        go_simp
        refine hK _ _ ?_
        clear hK K'
        try simp only [Act.put, List.setIfInBounds_toArray, List.set_cons_zero, List.set_cons_succ]
        exact ⟨_, x62, rfl, BW, fun _ => rfl, fun a => h1 (by simpa using a)⟩
      · have hcv := conv_bytes (G4.out.below BW.out)
        refine wpOp_step (o := ?os18) ?hos18 (fun K' hK => ?_)
        case hos18 => simp only [List.getElem?_toArray, List.getElem?_cons_succ, List.getElem?_cons_zero]; rfl
        go_simp
        refine hK _ _ ?_
        clear hK K'
        try simp only [Act.put, List.setIfInBounds_toArray, List.set_cons_zero, List.set_cons_succ]
        exact ⟨x60, _, rfl, BW, fun a => h0 (by simpa using a), fun _ => rfl⟩
    case finx60 =>
      intro a wC hI
      obtain ⟨x60, x62, rfl, BW, h0, h1⟩ := hI
      obtain rfl := h0 (by decide)
      obtain rfl := h1 (by decide)
      have WC := Lib.hid (WB.out.trans (BW.out.mono WB.out.size))
      have H3 := Lib.hid (G3.out.below BW.out)
      have H4 := Lib.hid (G4.out.below BW.out)
      have HC := Lib.hid (GC.out.below BW.out)
      have HO := Lib.hid (GO.out.below BW.out)
      have HK := Lib.hid (GK.out.below BW.out GK.out.lt)
      have HN := Lib.hid (GN.out.below BW.out GN.out.lt)
      clear h0 h1 BW WB G3 G4 GC GO GK GN
      dsimp only
      by_cases ht : turn < 0
      · have d1 : decide (turn < 0) = true := by simpa using ht
        clear ht
        refine wpAny_take (i := 18) (oi := ?oi19) (v := .bool false) ?hi19 (by kernel_rfl) (by kernel_rfl) (by kernel_rfl) ?hQ19 ?hy19 ?rest19
        case hi19 => simp only [List.getElem?_toArray, List.getElem?_cons_succ, List.getElem?_cons_zero]; rfl
        case hQ19 => exact fun _ _ _ h => h
        case hy19 => exact Or.inl ⟨by rfl, by intro w; go_simp⟩
        try simp only [Act.put, List.setIfInBounds_toArray, List.set_cons_zero, List.set_cons_succ]
        refine wpAny_take (i := 19) (oi := ?oi20) (v := .bool false) ?hi20 (by kernel_rfl) (by kernel_rfl) (by kernel_rfl) ?hQ20 ?hy20 ?rest20
        case hi20 => simp only [List.getElem?_toArray, List.getElem?_cons_succ, List.getElem?_cons_zero]; rfl
        case hQ20 => exact fun _ _ _ h => h
        case hy20 => exact Or.inl ⟨by rfl, by intro w; go_simp⟩
        try simp only [Act.put, List.setIfInBounds_toArray, List.set_cons_zero, List.set_cons_succ]
        refine wpAny_take (i := 20) (oi := ?oi21) (v := .bool false) ?hi21 (by kernel_rfl) (by kernel_rfl) (by kernel_rfl) ?hQ21 ?hy21 ?rest21
        case hi21 => simp only [List.getElem?_toArray, List.getElem?_cons_succ, List.getElem?_cons_zero]; rfl
        case hQ21 => exact fun _ _ _ h => h
        case hy21 => exact Or.inl ⟨by rfl, by intro w; go_simp⟩
        try simp only [Act.put, List.setIfInBounds_toArray, List.set_cons_zero, List.set_cons_succ]
        refine wpAny_take (i := 21) (oi := ?oi22) (v := .int .i64 turn) ?hi22 (by kernel_rfl) (by kernel_rfl) (by kernel_rfl) ?hQ22 ?hy22 ?rest22
        case hi22 => simp only [List.getElem?_toArray, List.getElem?_cons_succ, List.getElem?_cons_zero]; rfl
        case hQ22 => exact fun _ _ _ h => h
        case hy22 => exact Or.inl ⟨by rfl, by intro w; go_simp⟩
        try simp only [Act.put, List.setIfInBounds_toArray, List.set_cons_zero, List.set_cons_succ]
        refine wpAny_take (i := 22) (oi := ?oi23) (v := .bool true) ?hi23 (by kernel_rfl) (by kernel_rfl) (by kernel_rfl) ?hQ23 ?hy23 ?rest23
        case hi23 => simp only [List.getElem?_toArray, List.getElem?_cons_succ, List.getElem?_cons_zero]; rfl
        case hQ23 => exact fun _ _ _ h => h
        case hy23 => exact Or.inl ⟨by rfl, by intro w; go_simp⟩
        try simp only [Act.put, List.setIfInBounds_toArray, List.set_cons_zero, List.set_cons_succ]
        refine wpAny_take (i := 23) (oi := ?oi24) (v := .bool true) ?hi24 (by kernel_rfl) (by kernel_rfl) (by kernel_rfl) ?hQ24 ?hy24 ?rest24
        case hi24 => simp only [List.getElem?_toArray, List.getElem?_cons_succ, List.getElem?_cons_zero]; rfl
        case hQ24 => exact fun _ _ _ h => h
        case hy24 => exact Or.inl ⟨by rfl, by intro w; go_simp⟩
        try simp only [Act.put, List.setIfInBounds_toArray, List.set_cons_zero, List.set_cons_succ]
        refine wpAny_done (by kernel_rfl) ?_ _
        go_upto_region 9 with (fail)
        have WA : Hid (Below w.heap.size w wC.drew) := WC.out.drew
        have E3 : Hid (Rd wC.drew B3 m3 d3 l3) := H3.out.drew
        have E4 : Hid (Rd wC.drew B4 m4 d4 l4) := H4.out.drew
        have EC : Hid (Rd wC.drew AC nC cC sl) := HC.out.drew
        have EO : Hid (Rd wC.drew AO nO cO l4) := HO.out.drew
        have EK : Hid (Blk wC.drew gk 28 kc) := HK.out.drew
        have EN : Hid (Blk wC.drew gn 30 nc) := HN.out.drew
        clear WC H3 H4 HC HO HK HN
        refine wp_region_any (by kernel_rfl) ?_
        change wpAny _ _ _ _ _ _ _ (World.drew _)
        generalize wC.drew = wD at *
        refine wpAny_take (i := 0) (oi := ?oi25) (v := .bool true) ?hi25 (by kernel_rfl) (by kernel_rfl) (by kernel_rfl) ?hQ25 ?hy25 ?rest25
        case hi25 => simp only [List.getElem?_toArray, List.getElem?_cons_succ, List.getElem?_cons_zero]; rfl
        case hQ25 => exact fun _ _ _ h => h
        case hy25 => exact Or.inl ⟨by rfl, by intro w; go_simp⟩
        try simp only [Act.put, List.setIfInBounds_toArray, List.set_cons_zero, List.set_cons_succ]
        refine wpAny_take (i := 1) (oi := ?oi26) (v := .bool true) ?hi26 (by kernel_rfl) (by kernel_rfl) (by kernel_rfl) ?hQ26 ?hy26 ?rest26
        case hi26 => simp only [List.getElem?_toArray, List.getElem?_cons_succ, List.getElem?_cons_zero]; rfl
        case hQ26 => exact fun _ _ _ h => h
        case hy26 => exact Or.inl ⟨by rfl, by intro w; go_simp⟩
        try simp only [Act.put, List.setIfInBounds_toArray, List.set_cons_zero, List.set_cons_succ]
        refine wpAny_take (i := 2) (oi := ?oi27) (v := .slice AO nO cO) ?hi27 (by kernel_rfl) (by kernel_rfl) (by kernel_rfl) ?hQ27 ?hy27 ?rest27
        case hi27 => simp only [List.getElem?_toArray, List.getElem?_cons_succ, List.getElem?_cons_zero]; rfl
        case hQ27 => exact fun _ _ _ h => h
        case hy27 => exact Or.inl ⟨by rfl, by intro w; go_simp⟩
        try simp only [Act.put, List.setIfInBounds_toArray, List.set_cons_zero, List.set_cons_succ]
        refine wpAny_take (i := 4) (oi := ?oi28) (v := .slice B4 m4 d4) ?hi28 (by kernel_rfl) (by kernel_rfl) (by kernel_rfl) ?hQ28 ?hy28 ?rest28
        case hi28 => simp only [List.getElem?_toArray, List.getElem?_cons_succ, List.getElem?_cons_zero]; rfl
        case hQ28 => exact fun _ _ _ h => h
        case hy28 => exact Or.inl ⟨by rfl, by intro w; go_simp⟩
        try simp only [Act.put, List.setIfInBounds_toArray, List.set_cons_zero, List.set_cons_succ]
        refine phase (fun _ => []) (fun d a w' => ∃ x72 x74 : Value, a = { tmps := #[.slice A1 n1 c1, .slice A2 n2 c2, .slice B3 m3 d3, .slice B4 m4 d4, .int .i64 turn, .int .u8 (x.toNat : Int), undef, undef, undef, undef, undef, undef, .bool false, .bool true, .pointer (some ⟨gk, 0, none⟩), .pointer (some ⟨gn, 0, none⟩), .slice AC nC cC, .slice AO nO cO, .bool true, undef, undef, .bool true, .bool true, .bool false, .slice A3 n3 c3, .slice B3 m3 d3, .slice A4 n4 c4, .slice B4 m4 d4, .slice A1 n1 c1, .agg kc.toArray, .slice A2 n2 c2, .agg nc.toArray, .agg kc.toArray, .agg nc.toArray, .slice B3 m3 d3, .slice B4 m4 d4, .slice AC nC cC, .tuple #[.slice AO nO cO, .bool true], .agg kc.toArray, .agg nc.toArray, .slice B3 m3 d3, .slice AC nC cC, .tuple #[.slice AO nO cO, .bool true], .slice AO nO cO, .bool true, .slice AC nC cC, .string ⟨sl.toArray⟩, x47, x48, .slice B3 m3 d3, .slice B4 m4 d4, x51, .string ⟨sl.toArray⟩, .bool false, .bool false, .bool true, .bool false, .bool false, .bool false, .slice AO nO cO, .string ⟨l4.toArray⟩, .slice B4 m4 d4, .string ⟨l4.toArray⟩, .bool false, .bool false, .bool false, .int .i64 turn, .bool true, .bool true, .bool true, .bool true, .slice AO nO cO, x72, .slice B4 m4 d4, x74, undef, undef, undef, undef, undef, undef, undef, undef, undef, undef, undef, undef, undef, undef, undef, undef, undef, undef, undef, undef, undef, undef, undef, undef, undef, undef, undef, undef, undef, undef, undef, undef, undef, undef, undef, undef, undef, undef, undef, undef, undef, undef, undef, undef, undef, undef, undef, undef, undef, undef, undef, undef, undef, undef, undef, undef], defers := [] } ∧ Hid (Below wD.heap.size wD w')
          ∧ (d 3 = true → x72 = .string ⟨l4.toArray⟩) ∧ (d 5 = true → x74 = .string ⟨l4.toArray⟩)) [3, 5] ?stepx72 18 2 [3, 5] _ _ _ rfl (by decide) (fun _ h => h) (by kernel_rfl) ?initx72 ?finx72
        case initx72 =>
          refine ⟨_, _, rfl, Below.refl _ _, ?_, ?_⟩ <;> (intro h; exact absurd h (by decide))
        case stepx72 =>
          intro i hi d a wE hI hdi hdeps
          obtain ⟨x72, x74, rfl, BW, h0, h1⟩ := hI
          simp only [List.mem_cons, List.not_mem_nil, or_false] at hi
          rcases hi with rfl | rfl
          · have hcv := conv_bytes (EO.out.below BW.out)
            refine wpOp_step (o := ?os29) ?hos29 (fun K' hK => ?_)
            case hos29 => simp only [List.getElem?_toArray, List.getElem?_cons_succ, List.getElem?_cons_zero]; rfl
            go_simp
            refine hK _ _ ?_
            clear hK K'
            try simp only [Act.put, List.setIfInBounds_toArray, List.set_cons_zero, List.set_cons_succ]
            exact ⟨_, x74, rfl, BW, fun _ => rfl, fun a => h1 (by simpa using a)⟩
          · have hcv := conv_bytes (E4.out.below BW.out)
            refine wpOp_step (o := ?os30) ?hos30 (fun K' hK => ?_)
            case hos30 => simp only [List.getElem?_toArray, List.getElem?_cons_succ, List.getElem?_cons_zero]; rfl
            go_simp
            refine hK _ _ ?_
            clear hK K'
            try simp only [Act.put, List.setIfInBounds_toArray, List.set_cons_zero, List.set_cons_succ]
            exact ⟨x72, _, rfl, BW, fun a => h0 (by simpa using a), fun _ => rfl⟩
        case finx72 =>
          intro a wE hI
          obtain ⟨x72, x74, rfl, BW, h0, h1⟩ := hI
          obtain rfl := h0 (by decide)
          obtain rfl := h1 (by decide)
          have WE := Lib.hid (WA.out.trans (BW.out.mono WA.out.size))
          have G3 := Lib.hid (E3.out.below BW.out)
          have G4 := Lib.hid (E4.out.below BW.out)
          have GC := Lib.hid (EC.out.below BW.out)
          have GK := Lib.hid (EK.out.below BW.out EK.out.lt)
          have GN := Lib.hid (EN.out.below BW.out EN.out.lt)
          clear h0 h1 BW WA E3 E4 EC EO EK EN
          dsimp only
          refine wpAny_take (i := 6) (oi := ?oi31) (v := .bool true) ?hi31 (by kernel_rfl) (by kernel_rfl) (by kernel_rfl) ?hQ31 ?hy31 ?rest31
          case hi31 => simp only [List.getElem?_toArray, List.getElem?_cons_succ, List.getElem?_cons_zero]; rfl
          case hQ31 => exact fun _ _ _ h => h
          case hy31 => exact Or.inl ⟨by rfl, by intro w; go_simp⟩
          try simp only [Act.put, List.setIfInBounds_toArray, List.set_cons_zero, List.set_cons_succ]
          refine wpAny_take (i := 7) (oi := ?oi32) (v := .bool true) ?hi32 (by kernel_rfl) (by kernel_rfl) (by kernel_rfl) ?hQ32 ?hy32 ?rest32
          case hi32 => simp only [List.getElem?_toArray, List.getElem?_cons_succ, List.getElem?_cons_zero]; rfl
          case hQ32 => exact fun _ _ _ h => h
          case hy32 => exact Or.inl ⟨by rfl, by intro w; go_simp⟩
          try simp only [Act.put, List.setIfInBounds_toArray, List.set_cons_zero, List.set_cons_succ]
          refine wpAny_take (i := 8) (oi := ?oi33) (v := .bool true) ?hi33 (by kernel_rfl) (by kernel_rfl) (by kernel_rfl) ?hQ33 ?hy33 ?rest33
          case hi33 => simp only [List.getElem?_toArray, List.getElem?_cons_succ, List.getElem?_cons_zero]; rfl
          case hQ33 => exact fun _ _ _ h => h
          case hy33 => exact Or.inl ⟨by rfl, by intro w; go_simp⟩
          try simp only [Act.put, List.setIfInBounds_toArray, List.set_cons_zero, List.set_cons_succ]
          refine wpAny_take (i := 9) (oi := ?oi34) (v := .int .i64 turn) ?hi34 (by kernel_rfl) (by kernel_rfl) (by kernel_rfl) ?hQ34 ?hy34 ?rest34
          case hi34 => simp only [List.getElem?_toArray, List.getElem?_cons_succ, List.getElem?_cons_zero]; rfl
          case hQ34 => exact fun _ _ _ h => h
          case hy34 => exact Or.inl ⟨by rfl, by intro w; go_simp⟩
          try simp only [Act.put, List.setIfInBounds_toArray, List.set_cons_zero, List.set_cons_succ]
          refine wpAny_take (i := 10) (oi := ?oi35) (v := .bool true) ?hi35 (by kernel_rfl) (by kernel_rfl) (by kernel_rfl) ?hQ35 ?hy35 ?rest35
          case hi35 => simp only [List.getElem?_toArray, List.getElem?_cons_succ, List.getElem?_cons_zero]; rfl
          case hQ35 => exact fun _ _ _ h => h
          case hy35 => exact Or.inl ⟨by rfl, by intro w; go_simp⟩
          try simp only [Act.put, List.setIfInBounds_toArray, List.set_cons_zero, List.set_cons_succ]
          refine wpAny_take (i := 11) (oi := ?oi36) (v := .bool true) ?hi36 (by kernel_rfl) (by kernel_rfl) (by kernel_rfl) ?hQ36 ?hy36 ?rest36
          case hi36 => simp only [List.getElem?_toArray, List.getElem?_cons_succ, List.getElem?_cons_zero]; rfl
          case hQ36 => exact fun _ _ _ h => h
          case hy36 => exact Or.inl ⟨by rfl, by intro w; go_simp⟩
          try simp only [Act.put, List.setIfInBounds_toArray, List.set_cons_zero, List.set_cons_succ]
          refine wpAny_take (i := 12) (oi := ?oi37) (v := .bool true) ?hi37 (by kernel_rfl) (by kernel_rfl) (by kernel_rfl) ?hQ37 ?hy37 ?rest37
          case hi37 => simp only [List.getElem?_toArray, List.getElem?_cons_succ, List.getElem?_cons_zero]; rfl
          case hQ37 => exact fun _ _ _ h => h
          case hy37 => exact Or.inl ⟨by rfl, by intro w; go_simp⟩
          try simp only [Act.put, List.setIfInBounds_toArray, List.set_cons_zero, List.set_cons_succ]
          refine wpAny_take (i := 13) (oi := ?oi38) (v := .slice AC nC cC) ?hi38 (by kernel_rfl) (by kernel_rfl) (by kernel_rfl) ?hQ38 ?hy38 ?rest38
          case hi38 => simp only [List.getElem?_toArray, List.getElem?_cons_succ, List.getElem?_cons_zero]; rfl
          case hQ38 => exact fun _ _ _ h => h
          case hy38 => exact Or.inl ⟨by rfl, by intro w; go_simp⟩
          try simp only [Act.put, List.setIfInBounds_toArray, List.set_cons_zero, List.set_cons_succ]
          refine wpAny_take (i := 17) (oi := ?oi39) (v := .slice B3 m3 d3) ?hi39 (by kernel_rfl) (by kernel_rfl) (by kernel_rfl) ?hQ39 ?hy39 ?rest39
          case hi39 => simp only [List.getElem?_toArray, List.getElem?_cons_succ, List.getElem?_cons_zero]; rfl
          case hQ39 => exact fun _ _ _ h => h
          case hy39 => exact Or.inl ⟨by rfl, by intro w; go_simp⟩
          try simp only [Act.put, List.setIfInBounds_toArray, List.set_cons_zero, List.set_cons_succ]
          refine wpAny_take (i := 18) (oi := ?oi40) (v := .slice B4 m4 d4) ?hi40 (by kernel_rfl) (by kernel_rfl) (by kernel_rfl) ?hQ40 ?hy40 ?rest40
          case hi40 => simp only [List.getElem?_toArray, List.getElem?_cons_succ, List.getElem?_cons_zero]; rfl
          case hQ40 => exact fun _ _ _ h => h
          case hy40 => exact Or.inl ⟨by rfl, by intro w; go_simp⟩
          try simp only [Act.put, List.setIfInBounds_toArray, List.set_cons_zero, List.set_cons_succ]
          refine phase (fun i => if i = 19 then [15, 16] else if i = 20 then [19] else []) (fun d a w' => ∃ x83 x84 x85 x88 x89 : Value, a = { tmps := #[.slice A1 n1 c1, .slice A2 n2 c2, .slice B3 m3 d3, .slice B4 m4 d4, .int .i64 turn, .int .u8 (x.toNat : Int), undef, undef, undef, undef, undef, undef, .bool false, .bool true, .pointer (some ⟨gk, 0, none⟩), .pointer (some ⟨gn, 0, none⟩), .slice AC nC cC, .slice AO nO cO, .bool true, undef, undef, .bool true, .bool true, .bool false, .slice A3 n3 c3, .slice B3 m3 d3, .slice A4 n4 c4, .slice B4 m4 d4, .slice A1 n1 c1, .agg kc.toArray, .slice A2 n2 c2, .agg nc.toArray, .agg kc.toArray, .agg nc.toArray, .slice B3 m3 d3, .slice B4 m4 d4, .slice AC nC cC, .tuple #[.slice AO nO cO, .bool true], .agg kc.toArray, .agg nc.toArray, .slice B3 m3 d3, .slice AC nC cC, .tuple #[.slice AO nO cO, .bool true], .slice AO nO cO, .bool true, .slice AC nC cC, .string ⟨sl.toArray⟩, x47, x48, .slice B3 m3 d3, .slice B4 m4 d4, x51, .string ⟨sl.toArray⟩, .bool false, .bool false, .bool true, .bool false, .bool false, .bool false, .slice AO nO cO, .string ⟨l4.toArray⟩, .slice B4 m4 d4, .string ⟨l4.toArray⟩, .bool false, .bool false, .bool false, .int .i64 turn, .bool true, .bool true, .bool true, .bool true, .slice AO nO cO, .string ⟨l4.toArray⟩, .slice B4 m4 d4, .string ⟨l4.toArray⟩, .bool true, .bool true, .bool true, .int .i64 turn, .bool true, .bool true, .bool true, .slice AC nC cC, x83, x84, x85, .slice B3 m3 d3, .slice B4 m4 d4, x88, x89, undef, undef, undef, undef, undef, undef, undef, undef, undef, undef, undef, undef, undef, undef, undef, undef, undef, undef, undef, undef, undef, undef, undef, undef, undef, undef, undef, undef, undef, undef, undef, undef, undef, undef, undef, undef, undef, undef, undef, undef, undef], defers := [] } ∧ Hid (Below wE.heap.size wE w')
            ∧ (d 14 = true → x83 = .string ⟨sl.toArray⟩) ∧ (d 15 = true → x84 = .agg kc.toArray) ∧ (d 16 = true → x85 = .agg nc.toArray) ∧ (d 19 = true → Hid (∃ A n c, x88 = .slice A n c ∧ Rd w' A n c sl)) ∧ (d 20 = true → x89 = .string ⟨sl.toArray⟩)) [14, 15, 16, 19, 20] ?stepx83 3 5 [14, 15, 16, 19, 20] _ _ _ rfl (by decide) (fun _ h => h) (by kernel_rfl) ?initx83 ?finx83
          case initx83 =>
            refine ⟨_, _, _, _, _, rfl, Below.refl _ _, ?_, ?_, ?_, ?_, ?_⟩ <;> (intro h; exact absurd h (by decide))
          case stepx83 =>
            intro i hi d a wF hI hdi hdeps
            obtain ⟨x83, x84, x85, x88, x89, rfl, BW, hc, h0, h1, h6, h7⟩ := hI
            have hsz := BW.out.size
            simp only [List.mem_cons, List.not_mem_nil, or_false] at hi
            rcases hi with rfl | rfl | rfl | rfl | rfl
            · have hcv := conv_bytes (GC.out.below BW.out)
              refine wpOp_step (o := ?os41) ?hos41 (fun K' hK => ?_)
              case hos41 => simp only [List.getElem?_toArray, List.getElem?_cons_succ, List.getElem?_cons_zero]; rfl
              go_simp
              refine hK _ _ ?_
              clear hK K'
              try simp only [Act.put, List.setIfInBounds_toArray, List.set_cons_zero, List.set_cons_succ]
              exact ⟨_, x84, x85, x88, x89, rfl, BW, fun _ => rfl, fun a => h0 (by simpa using a), fun a => h1 (by simpa using a), fun a => h6 (by simpa using a), fun a => h7 (by simpa using a)⟩
            · refine wpOp_step (o := ?os42) ?hos42 (fun K' hK => ?_)
              case hos42 => simp only [List.getElem?_toArray, List.getElem?_cons_succ, List.getElem?_cons_zero]; rfl
              refine step_loadW rfl 28 (.tmp 14) rfl gk 0 rfl kc _ Tryd.underlying28 rfl IK.out (GK.out.below BW.out GK.out.lt).cells (hK _ _ ?_)
              clear hK K'
              try simp only [Act.put, List.setIfInBounds_toArray, List.set_cons_zero, List.set_cons_succ]
              exact ⟨x83, _, x85, x88, x89, rfl, BW, fun a => hc (by simpa using a), fun _ => rfl, fun a => h1 (by simpa using a), fun a => h6 (by simpa using a), fun a => h7 (by simpa using a)⟩
            · refine wpOp_step (o := ?os43) ?hos43 (fun K' hK => ?_)
              case hos43 => simp only [List.getElem?_toArray, List.getElem?_cons_succ, List.getElem?_cons_zero]; rfl
              refine step_loadW rfl 30 (.tmp 15) rfl gn 0 rfl nc _ Tryd.underlying30 rfl IN.out (GN.out.below BW.out GN.out.lt).cells (hK _ _ ?_)
              clear hK K'
              try simp only [Act.put, List.setIfInBounds_toArray, List.set_cons_zero, List.set_cons_succ]
              exact ⟨x83, x84, _, x88, x89, rfl, BW, fun a => hc (by simpa using a), fun a => h0 (by simpa using a), fun _ => rfl, fun a => h6 (by simpa using a), fun a => h7 (by simpa using a)⟩
            · obtain rfl := h0 (hdeps 15 (by simp))
              obtain rfl := h1 (hdeps 16 (by simp))
              refine wpOp_step (o := ?os44) ?hos44 (fun K' hK => ?_)
              case hos44 => simp only [List.getElem?_toArray, List.getElem?_cons_succ, List.getElem?_cons_zero]; rfl
              clear h6
              go_simp
              refine (CRS.out wF (G3.out.below BW.out) (G4.out.below BW.out)).mono ?_
              rintro e wG ⟨v, rfl, hO, hX⟩
              obtain ⟨A, c, rfl, hRd, _⟩ := hO.value
              refine hK _ _ ?_
              clear hK K'
              try simp only [Act.put, List.setIfInBounds_toArray, List.set_cons_zero, List.set_cons_succ]
              exact ⟨x83, _, _, _, x89, rfl, BW.out.trans (hX.mono hsz), fun a => hc (by simpa using a), fun _ => rfl, fun _ => rfl, fun _ => ⟨_, _, _, rfl, hRd⟩, fun a => h7 (by simpa using a)⟩
            · obtain ⟨A, n, c, rfl, hRd⟩ := (h6 (hdeps 19 (by simp))).out
              have hcv := conv_bytes hRd
              refine wpOp_step (o := ?os45) ?hos45 (fun K' hK => ?_)
              case hos45 => simp only [List.getElem?_toArray, List.getElem?_cons_succ, List.getElem?_cons_zero]; rfl
              clear h6
              go_simp
              refine hK _ _ ?_
              clear hK K'
              try simp only [Act.put, List.setIfInBounds_toArray, List.set_cons_zero, List.set_cons_succ]
              exact ⟨x83, x84, x85, _, _, rfl, BW, fun a => hc (by simpa using a), fun a => h0 (by simpa using a), fun a => h1 (by simpa using a), fun _ => ⟨_, _, _, rfl, hRd⟩, fun _ => rfl⟩
          case finx83 =>
            intro a wF hI
            obtain ⟨x83, x84, x85, x88, x89, rfl, BW, hc, h0, h1, h6, h7⟩ := hI
            obtain rfl := hc (by decide)
            obtain rfl := h7 (by decide)
            have WF := Lib.hid (WE.out.trans (BW.out.mono WE.out.size))
            clear hc h0 h1 h6 h7 BW WE G3 G4 GC GK GN
            dsimp only
            refine wpAny_take (i := 21) (oi := ?oi46) (v := .bool true) ?hi46 (by kernel_rfl) (by kernel_rfl) (by kernel_rfl) ?hQ46 ?hy46 ?rest46
            case hi46 => simp only [List.getElem?_toArray, List.getElem?_cons_succ, List.getElem?_cons_zero]; rfl
            case hQ46 => exact fun _ _ _ h => h
            case hy46 => exact Or.inl ⟨by rfl, by intro w; go_simp⟩
            try simp only [Act.put, List.setIfInBounds_toArray, List.set_cons_zero, List.set_cons_succ]
            refine wpAny_take (i := 22) (oi := ?oi47) (v := .bool true) ?hi47 (by kernel_rfl) (by kernel_rfl) (by kernel_rfl) ?hQ47 ?hy47 ?rest47
            case hi47 => simp only [List.getElem?_toArray, List.getElem?_cons_succ, List.getElem?_cons_zero]; rfl
            case hQ47 => exact fun _ _ _ h => h
            case hy47 => exact Or.inl ⟨by rfl, by intro w; go_simp⟩
            try simp only [Act.put, List.setIfInBounds_toArray, List.set_cons_zero, List.set_cons_succ]
            refine wpAny_take (i := 23) (oi := ?oi48) (v := .bool true) ?hi48 (by kernel_rfl) (by kernel_rfl) (by kernel_rfl) ?hQ48 ?hy48 ?rest48
            case hi48 => simp only [List.getElem?_toArray, List.getElem?_cons_succ, List.getElem?_cons_zero]; rfl
            case hQ48 => exact fun _ _ _ h => h
            case hy48 => exact Or.inl ⟨by rfl, by intro w; go_simp⟩
            try simp only [Act.put, List.setIfInBounds_toArray, List.set_cons_zero, List.set_cons_succ]
            refine wpAny_done (by kernel_rfl) ?_ _
            go_wp2_with fail
            go_ret
            exact ⟨rfl, WF.out⟩
      · obtain ⟨t, rfl⟩ := Int.eq_ofNat_of_zero_le (show 0 ≤ turn by omega)
        have d1 : decide ((t : Int) < 0) = false := by simp
        clear ht
        refine wpAny_take (i := 18) (oi := ?oi49) (v := .bool false) ?hi49 (by kernel_rfl) (by kernel_rfl) (by kernel_rfl) ?hQ49 ?hy49 ?rest49
        case hi49 => simp only [List.getElem?_toArray, List.getElem?_cons_succ, List.getElem?_cons_zero]; rfl
        case hQ49 => exact fun _ _ _ h => h
        case hy49 => exact Or.inl ⟨by rfl, by intro w; go_simp⟩
        try simp only [Act.put, List.setIfInBounds_toArray, List.set_cons_zero, List.set_cons_succ]
        refine wpAny_take (i := 19) (oi := ?oi50) (v := .bool false) ?hi50 (by kernel_rfl) (by kernel_rfl) (by kernel_rfl) ?hQ50 ?hy50 ?rest50
        case hi50 => simp only [List.getElem?_toArray, List.getElem?_cons_succ, List.getElem?_cons_zero]; rfl
        case hQ50 => exact fun _ _ _ h => h
        case hy50 => exact Or.inl ⟨by rfl, by intro w; go_simp⟩
        try simp only [Act.put, List.setIfInBounds_toArray, List.set_cons_zero, List.set_cons_succ]
        refine wpAny_take (i := 20) (oi := ?oi51) (v := .bool false) ?hi51 (by kernel_rfl) (by kernel_rfl) (by kernel_rfl) ?hQ51 ?hy51 ?rest51
        case hi51 => simp only [List.getElem?_toArray, List.getElem?_cons_succ, List.getElem?_cons_zero]; rfl
        case hQ51 => exact fun _ _ _ h => h
        case hy51 => exact Or.inl ⟨by rfl, by intro w; go_simp⟩
        try simp only [Act.put, List.setIfInBounds_toArray, List.set_cons_zero, List.set_cons_succ]
        refine wpAny_take (i := 21) (oi := ?oi52) (v := .int .i64 (t : Int)) ?hi52 (by kernel_rfl) (by kernel_rfl) (by kernel_rfl) ?hQ52 ?hy52 ?rest52
        case hi52 => simp only [List.getElem?_toArray, List.getElem?_cons_succ, List.getElem?_cons_zero]; rfl
        case hQ52 => exact fun _ _ _ h => h
        case hy52 => exact Or.inl ⟨by rfl, by intro w; go_simp⟩
        try simp only [Act.put, List.setIfInBounds_toArray, List.set_cons_zero, List.set_cons_succ]
        refine wpAny_take (i := 22) (oi := ?oi53) (v := .bool false) ?hi53 (by kernel_rfl) (by kernel_rfl) (by kernel_rfl) ?hQ53 ?hy53 ?rest53
        case hi53 => simp only [List.getElem?_toArray, List.getElem?_cons_succ, List.getElem?_cons_zero]; rfl
        case hQ53 => exact fun _ _ _ h => h
        case hy53 => exact Or.inl ⟨by rfl, by intro w; go_simp⟩
        try simp only [Act.put, List.setIfInBounds_toArray, List.set_cons_zero, List.set_cons_succ]
        refine wpAny_take (i := 23) (oi := ?oi54) (v := .bool false) ?hi54 (by kernel_rfl) (by kernel_rfl) (by kernel_rfl) ?hQ54 ?hy54 ?rest54
        case hi54 => simp only [List.getElem?_toArray, List.getElem?_cons_succ, List.getElem?_cons_zero]; rfl
        case hQ54 => exact fun _ _ _ h => h
        case hy54 => exact Or.inl ⟨by rfl, by intro w; go_simp⟩
        try simp only [Act.put, List.setIfInBounds_toArray, List.set_cons_zero, List.set_cons_succ]
        refine wpAny_done (by kernel_rfl) ?_ _
        go_upto_region 10 with (fail)
        have WA : Hid (Below w.heap.size w wC.drew) := WC.out.drew
        have E3 : Hid (Rd wC.drew B3 m3 d3 l3) := H3.out.drew
        have EC : Hid (Rd wC.drew AC nC cC sl) := HC.out.drew
        have EK : Hid (Blk wC.drew gk 28 kc) := HK.out.drew
        have EN : Hid (Blk wC.drew gn 30 nc) := HN.out.drew
        clear WC H3 H4 HC HO HK HN CRS
        refine wp_region_any (by kernel_rfl) ?_
        change wpAny _ _ _ _ _ _ _ (World.drew _)
        generalize wC.drew = wD at *
        refine phase (fun i => if i = 4 then [0, 2] else if i = 5 then [1, 3, 4] else []) (fun d a w' => ∃ x92 x93 x19 x20 : Value, a = { tmps := #[.slice A1 n1 c1, .slice A2 n2 c2, .slice B3 m3 d3, .slice B4 m4 d4, .int .i64 (t : Int), .int .u8 (x.toNat : Int), undef, undef, undef, undef, undef, undef, .bool false, .bool true, .pointer (some ⟨gk, 0, none⟩), .pointer (some ⟨gn, 0, none⟩), .slice AC nC cC, .slice AO nO cO, .bool true, x19, x20, .bool true, .bool true, .bool false, .slice A3 n3 c3, .slice B3 m3 d3, .slice A4 n4 c4, .slice B4 m4 d4, .slice A1 n1 c1, .agg kc.toArray, .slice A2 n2 c2, .agg nc.toArray, .agg kc.toArray, .agg nc.toArray, .slice B3 m3 d3, .slice B4 m4 d4, .slice AC nC cC, .tuple #[.slice AO nO cO, .bool true], .agg kc.toArray, .agg nc.toArray, .slice B3 m3 d3, .slice AC nC cC, .tuple #[.slice AO nO cO, .bool true], .slice AO nO cO, .bool true, .slice AC nC cC, .string ⟨sl.toArray⟩, x47, x48, .slice B3 m3 d3, .slice B4 m4 d4, x51, .string ⟨sl.toArray⟩, .bool false, .bool false, .bool true, .bool false, .bool false, .bool false, .slice AO nO cO, .string ⟨l4.toArray⟩, .slice B4 m4 d4, .string ⟨l4.toArray⟩, .bool false, .bool false, .bool false, .int .i64 (t : Int), .bool false, .bool false, undef, undef, undef, undef, undef, undef, undef, undef, undef, undef, undef, undef, undef, undef, undef, undef, undef, undef, undef, undef, undef, undef, undef, x92, x93, undef, undef, undef, undef, undef, undef, undef, undef, undef, undef, undef, undef, undef, undef, undef, undef, undef, undef, undef, undef, undef, undef, undef, undef, undef, undef, undef, undef, undef, undef, undef, undef, undef, undef, undef, undef, undef], defers := [] } ∧ Hid (Below wD.heap.size wD w')
          ∧ (d 0 = true → x92 = .agg kc.toArray) ∧ (d 1 = true → x93 = .agg nc.toArray) ∧ (d 4 = true → d 2 = true) ∧ (d 5 = true → d 3 = true)
          ∧ (d 2 = true → Hid (∃ g, x19 = .pointer (some ⟨g, 0, none⟩) ∧ wD.heap.size ≤ g ∧ Blk w' g 28 (if d 4 = true then kc else (List.replicate 32 (Value.int .u8 0)))))
          ∧ (d 3 = true → Hid (∃ g, x20 = .pointer (some ⟨g, 0, none⟩) ∧ wD.heap.size ≤ g ∧ Blk w' g 30 (if d 5 = true then nc else (List.replicate 12 (Value.int .u8 0)))))) [0, 1, 2, 3, 4, 5] ?step19 0 6 [0, 1, 2, 3, 4, 5] _ _ _ rfl (by decide) (fun _ h => h) (by kernel_rfl) ?init19 ?fin19
        case init19 =>
          refine ⟨_, _, _, _, rfl, Below.refl _ _, ?_, ?_, ?_, ?_, ?_, ?_⟩ <;> (intro h; exact absurd h (by decide))
        case step19 =>
          intro i hi d a wE hI hdi hdeps
          obtain ⟨x92, x93, x19, x20, rfl, BW, h0, h1, g4, g5, h2, h3⟩ := hI
          have hsz := BW.out.size
          simp only [List.mem_cons, List.not_mem_nil, or_false] at hi
          rcases hi with rfl | rfl | rfl | rfl | rfl | rfl
          · refine wpOp_step (o := ?os55) ?hos55 (fun K' hK => ?_)
            case hos55 => simp only [List.getElem?_toArray, List.getElem?_cons_succ, List.getElem?_cons_zero]; rfl
            refine step_loadW rfl 28 (.tmp 14) rfl gk 0 rfl kc _ Tryd.underlying28 rfl IK.out (EK.out.below BW.out EK.out.lt).cells (hK _ _ ?_)
            clear hK K'
            try simp only [Act.put, List.setIfInBounds_toArray, List.set_cons_zero, List.set_cons_succ]
            exact ⟨_, x93, x19, x20, rfl, BW, fun _ => rfl, fun a => h1 (by simpa using a), fun a => by simpa using g4 (by simpa using a), fun a => by simpa using g5 (by simpa using a), fun a => by simpa using h2 (by simpa using a), fun a => by simpa using h3 (by simpa using a)⟩
          · refine wpOp_step (o := ?os56) ?hos56 (fun K' hK => ?_)
            case hos56 => simp only [List.getElem?_toArray, List.getElem?_cons_succ, List.getElem?_cons_zero]; rfl
            refine step_loadW rfl 30 (.tmp 15) rfl gn 0 rfl nc _ Tryd.underlying30 rfl IN.out (EN.out.below BW.out EN.out.lt).cells (hK _ _ ?_)
            clear hK K'
            try simp only [Act.put, List.setIfInBounds_toArray, List.set_cons_zero, List.set_cons_succ]
            exact ⟨x92, _, x19, x20, rfl, BW, fun a => h0 (by simpa using a), fun _ => rfl, fun a => by simpa using g4 (by simpa using a), fun a => by simpa using g5 (by simpa using a), fun a => by simpa using h2 (by simpa using a), fun a => by simpa using h3 (by simpa using a)⟩
          · have n4 : d 4 = false := by
              cases e : d 4 with
              | false => rfl
              | true => rw [g4 e] at hdi; cases hdi
            have hX : Below wE.heap.size wE (wE.alloc (.cells (List.replicate 32 (Value.int .u8 0)).toArray 28)) := (Below.refl wE.heap.size wE).alloc (Nat.le_refl _) _
            have HX := Lib.hid hX
            have NB := Lib.hid (Blk.new wE 28 (List.replicate 32 (Value.int .u8 0)))
            have H3' : Hid (d 3 = true → Hid (∃ g, x20 = .pointer (some ⟨g, 0, none⟩) ∧ wD.heap.size ≤ g ∧ Blk (wE.alloc (.cells (List.replicate 32 (Value.int .u8 0)).toArray 28)) g 30 (if d 5 = true then nc else (List.replicate 12 (Value.int .u8 0))))) := fun a => by obtain ⟨g, e, hg, hb⟩ := (h3 a).out; exact ⟨g, e, hg, hb.below hX hb.lt⟩
            clear h2 h3 hX
            refine wpOp_step (o := ?os57) ?hos57 (fun K' hK => ?_)
            case hos57 => simp only [List.getElem?_toArray, List.getElem?_cons_succ, List.getElem?_cons_zero]; rfl
            go_simp
            refine hK _ _ ?_
            clear hK K'
            change ∃ _, _
            try simp only [Act.put, List.setIfInBounds_toArray, List.set_cons_zero, List.set_cons_succ]
            refine ⟨x92, x93, _, x20, rfl, BW.out.trans (HX.out.mono hsz), fun a => h0 (by simpa using a), fun a => h1 (by simpa using a), fun a => by simp [n4] at a, fun a => by simpa using g5 (by simpa using a), fun _ => ⟨_, rfl, hsz, ?_⟩, fun a => by simpa using H3'.out (by simpa using a)⟩
            rw [if_neg (by simp [n4])]
            exact NB.out
          · have n5 : d 5 = false := by
              cases e : d 5 with
              | false => rfl
              | true => rw [g5 e] at hdi; cases hdi
            have hX : Below wE.heap.size wE (wE.alloc (.cells (List.replicate 12 (Value.int .u8 0)).toArray 30)) := (Below.refl wE.heap.size wE).alloc (Nat.le_refl _) _
            have HX := Lib.hid hX
            have NB := Lib.hid (Blk.new wE 30 (List.replicate 12 (Value.int .u8 0)))
            have H2' : Hid (d 2 = true → Hid (∃ g, x19 = .pointer (some ⟨g, 0, none⟩) ∧ wD.heap.size ≤ g ∧ Blk (wE.alloc (.cells (List.replicate 12 (Value.int .u8 0)).toArray 30)) g 28 (if d 4 = true then kc else (List.replicate 32 (Value.int .u8 0))))) := fun a => by obtain ⟨g, e, hg, hb⟩ := (h2 a).out; exact ⟨g, e, hg, hb.below hX hb.lt⟩
            clear h2 h3 hX
            refine wpOp_step (o := ?os58) ?hos58 (fun K' hK => ?_)
            case hos58 => simp only [List.getElem?_toArray, List.getElem?_cons_succ, List.getElem?_cons_zero]; rfl
            go_simp
            refine hK _ _ ?_
            clear hK K'
            change ∃ _, _
            try simp only [Act.put, List.setIfInBounds_toArray, List.set_cons_zero, List.set_cons_succ]
            refine ⟨x92, x93, x19, _, rfl, BW.out.trans (HX.out.mono hsz), fun a => h0 (by simpa using a), fun a => h1 (by simpa using a), fun a => by simpa using g4 (by simpa using a), fun a => by simp [n5] at a, fun a => by simpa using H2'.out (by simpa using a), fun _ => ⟨_, rfl, hsz, ?_⟩⟩
            rw [if_neg (by simp [n5])]
            exact NB.out
          · have y2 := hdeps 2 (by simp)
            obtain rfl := h0 (hdeps 0 (by simp))
            obtain ⟨g, rfl, hg, hb⟩ := (h2 y2).out
            rw [if_neg (by simp [hdi])] at hb
            have HB := Lib.hid hb
            refine wpOp_step (o := ?os59) ?hos59 (fun K' hK => ?_)
            case hos59 => simp only [List.getElem?_toArray, List.getElem?_cons_succ, List.getElem?_cons_zero]; rfl
            refine step_storeAll rfl 28 (.tmp 19) (.tmp 92) rfl g rfl kc rfl 28 (List.replicate 32 (Value.int .u8 0)) HB.out IK.out ZK.out OK'.out (hK _ _ ?_)
            clear hK K'
            try simp only [Act.put, List.setIfInBounds_toArray, List.set_cons_zero, List.set_cons_succ]
            refine ⟨_, x93, _, x20, rfl, below_setRow BW.out hg _, fun _ => rfl, fun a => h1 (by simpa using a), fun _ => by simp [y2], fun a => by simpa using g5 (by simpa using a), fun _ => ⟨g, rfl, hg, ?_⟩, fun a => ?_⟩
            · rw [if_pos (by simp)]
              exact Blk.row HB.out
            · obtain ⟨g', e', hg', hb'⟩ := (h3 (by simpa using a)).out
              refine ⟨g', e', hg', ?_⟩
              have := hb'.rowFar (k := g) (blks_apart hb' HB.out (by decide)) kc.toArray
              simpa using this
          · have y3 := hdeps 3 (by simp)
            have y4 := hdeps 4 (by simp)
            obtain rfl := h1 (hdeps 1 (by simp))
            obtain ⟨g, rfl, hg, hb⟩ := (h3 y3).out
            rw [if_neg (by simp [hdi])] at hb
            have HB := Lib.hid hb
            refine wpOp_step (o := ?os60) ?hos60 (fun K' hK => ?_)
            case hos60 => simp only [List.getElem?_toArray, List.getElem?_cons_succ, List.getElem?_cons_zero]; rfl
            refine step_storeAll rfl 30 (.tmp 20) (.tmp 93) rfl g rfl nc rfl 30 (List.replicate 12 (Value.int .u8 0)) HB.out IN.out ZN.out ON'.out (hK _ _ ?_)
            clear hK K'
            try simp only [Act.put, List.setIfInBounds_toArray, List.set_cons_zero, List.set_cons_succ]
            refine ⟨x92, _, x19, _, rfl, below_setRow BW.out hg _, fun a => h0 (by simpa using a), fun _ => rfl, fun a => by simpa using g4 (by simpa using a), fun _ => by simp [y3], fun a => ?_, fun _ => ⟨g, rfl, hg, ?_⟩⟩
            · obtain ⟨g', e', hg', hb'⟩ := (h2 (by simpa using a)).out
              refine ⟨g', e', hg', ?_⟩
              have := hb'.rowFar (k := g) (blks_apart hb' HB.out (by decide)) nc.toArray
              simpa using this
            · rw [if_pos (by simp)]
              exact Blk.row HB.out
        case fin19 =>
          intro a wE hI
          obtain ⟨x92, x93, x19, x20, rfl, BW, h0, h1, g4, g5, h2, h3⟩ := hI
          obtain rfl := h0 (by decide)
          obtain rfl := h1 (by decide)
          obtain ⟨gl, rfl, hgl, hbl⟩ := (h2 (by decide)).out
          obtain ⟨gm, rfl, hgm, hbm⟩ := (h3 (by decide)).out
          rw [if_pos (by decide)] at hbl hbm
          have lm := blks_apart hbl hbm (by decide)
          have L6 := Lib.hid hbl
          have M6 := Lib.hid hbm
          have ltk := EK.out.lt
          have ltn := EN.out.lt
          have hzz := WA.out.size
          have W6 := Lib.hid (WA.out.trans (BW.out.mono WA.out.size))
          have K6 := Lib.hid (EK.out.below BW.out EK.out.lt)
          have N6 := Lib.hid (EN.out.below BW.out EN.out.lt)
          have Y6 := Lib.hid BW.out
          clear h0 h1 g4 g5 h2 h3 BW hbl hbm WA EK EN ZK ZN OK' ON'
          dsimp only
          refine wpAny_done (by kernel_rfl) ?_ _
          obtain ⟨j, hj⟩ : ∃ j, j = t % 32 := ⟨_, rfl⟩
          obtain ⟨i, hi⟩ : ∃ i, i = t % 12 := ⟨_, rfl⟩
          have hj1 : (t : Int) % 32 = (j : Int) := by omega
          have hi1 : (t : Int) % 12 = (i : Int) := by omega
          have hjl : j < 32 := by omega
          have hil : i < 12 := by omega
          have bj : (j : Int) < 32 := by omega
          have bi : (i : Int) < 12 := by omega
          clear hj hi
          obtain ⟨z, hz⟩ : ∃ z, z = key.getD j 0 := ⟨_, rfl⟩
          have e0 : wE.cell? ⟨gl, j, none⟩ = some (.int .u8 (z.toNat : Int)) := by rw [L6.out.cell, HKC.out, hz]; exact bytes_at key j (by rw [LK.out]; exact hjl)
          have f0 : wE.frozen? ⟨gl, j, none⟩ = false := L6.out.frozen _
          clear hz
          go_upto_region 12 with (fail)
          have hcv : (Value.int IntKind.u8 ((z.toNat ^^^ x.toNat : Nat) : Int)) = cellOf (z ^^^ x) := by unfold cellOf; rw [UInt8.toNat_xor]
          try rw [xor_cell]
          try rw [hcv]
          try rw [show (Value.int IntKind.u8 ((z ^^^ x).toNat : Int)) = cellOf (z ^^^ x) from rfl]
          obtain ⟨key2, hk2⟩ : ∃ l, l = key.set j (z ^^^ x) := ⟨_, rfl⟩
          have LK2 : Hid (key2.length = 32) := by unfold Hid; rw [hk2, List.length_set, LK.out]
          have L7 : Hid (Blk (wE.setCell ⟨gl, j, none⟩ (cellOf (z ^^^ x))) gl 28 (key2.map cellOf)) := by
            have := L6.out.set_ j (cellOf (z ^^^ x))
            rw [HKC.out, ← List.map_set, ← hk2] at this
            exact this
          have M7 := Lib.hid (M6.out.far (p := ⟨gl, j, none⟩) (by simp; omega) (cellOf (z ^^^ x)))
          have K7 := Lib.hid (K6.out.far (p := ⟨gl, j, none⟩) (by simp; omega) (cellOf (z ^^^ x)))
          have N7 := Lib.hid (N6.out.far (p := ⟨gl, j, none⟩) (by simp; omega) (cellOf (z ^^^ x)))
          have W7 := Lib.hid (W6.out.setCell (p := ⟨gl, j, none⟩) (by simp; omega) (cellOf (z ^^^ x)))
          have Y7 := Lib.hid (Y6.out.setCell (p := ⟨gl, j, none⟩) (by simp; omega) (cellOf (z ^^^ x)))
          generalize wE.setCell ⟨gl, j, none⟩ (cellOf (z ^^^ x)) = wF at *
          clear e0 f0 hcv hk2 L6 M6 K6 N6 W6 Y6 hj1 bj
          obtain ⟨z2, hz2⟩ : ∃ z, z = nonce.getD i 0 := ⟨_, rfl⟩
          have e0 : wF.cell? ⟨gm, i, none⟩ = some (.int .u8 (z2.toNat : Int)) := by rw [M7.out.cell, HNC.out, hz2]; exact bytes_at nonce i (by rw [LN.out]; exact hil)
          have f0 : wF.frozen? ⟨gm, i, none⟩ = false := M7.out.frozen _
          clear hz2
          go_upto_region 13 with (fail)
          have hcv : (Value.int IntKind.u8 ((z2.toNat ^^^ x.toNat : Nat) : Int)) = cellOf (z2 ^^^ x) := by unfold cellOf; rw [UInt8.toNat_xor]
          try rw [xor_cell]
          try rw [hcv]
          try rw [show (Value.int IntKind.u8 ((z2 ^^^ x).toNat : Int)) = cellOf (z2 ^^^ x) from rfl]
          obtain ⟨non2, hn2⟩ : ∃ l, l = nonce.set i (z2 ^^^ x) := ⟨_, rfl⟩
          have LN2 : Hid (non2.length = 12) := by unfold Hid; rw [hn2, List.length_set, LN.out]
          have M8 : Hid (Blk (wF.setCell ⟨gm, i, none⟩ (cellOf (z2 ^^^ x))) gm 30 (non2.map cellOf)) := by
            have := M7.out.set_ i (cellOf (z2 ^^^ x))
            rw [HNC.out, ← List.map_set, ← hn2] at this
            exact this
          have L8 := Lib.hid (L7.out.far (p := ⟨gm, i, none⟩) (by simp; omega) (cellOf (z2 ^^^ x)))
          have K8 := Lib.hid (K7.out.far (p := ⟨gm, i, none⟩) (by simp; omega) (cellOf (z2 ^^^ x)))
          have N8 := Lib.hid (N7.out.far (p := ⟨gm, i, none⟩) (by simp; omega) (cellOf (z2 ^^^ x)))
          have W8 := Lib.hid (W7.out.setCell (p := ⟨gm, i, none⟩) (by simp; omega) (cellOf (z2 ^^^ x)))
          have Y8 := Lib.hid (Y7.out.setCell (p := ⟨gm, i, none⟩) (by simp; omega) (cellOf (z2 ^^^ x)))
          generalize wF.setCell ⟨gm, i, none⟩ (cellOf (z2 ^^^ x)) = wG at *
          clear e0 f0 hcv hn2 L7 M7 K7 N7 W7 Y7 hi1 bi
          have F3 := Lib.hid (E3.out.below Y8.out)
          have FC := Lib.hid (EC.out.below Y8.out)
          clear E3 EC Y8
          obtain ⟨lc, hlc⟩ : ∃ c, c = key2.map cellOf := ⟨_, rfl⟩
          obtain ⟨mc, hmc⟩ : ∃ c, c = non2.map cellOf := ⟨_, rfl⟩
          rw [← hlc] at L8
          rw [← hmc] at M8
          have CM1 : Hid (∀ W, Rd W B3 m3 d3 l3 → Rd W AC nC cC sl → Calls Tryd.prog 29 #[.agg lc.toArray, .agg nc.toArray, .slice B3 m3 d3, .slice AC nC cC] W fun e w' => e = .returned (.bool true) ∧ Below W.heap.size W w') := fun W h h' => by rw [hlc, HNC.out]; exact CM.out key2 nonce W _ _ _ _ _ _ _ _ LK2.out LN.out h h' (by omega) (by omega)
          have CM2 : Hid (∀ W, Rd W B3 m3 d3 l3 → Rd W AC nC cC sl → Calls Tryd.prog 29 #[.agg kc.toArray, .agg mc.toArray, .slice B3 m3 d3, .slice AC nC cC] W fun e w' => e = .returned (.bool true) ∧ Below W.heap.size W w') := fun W h h' => by rw [hmc, HKC.out]; exact CM.out key non2 W _ _ _ _ _ _ _ _ LK.out LN2.out h h' (by omega) (by omega)
          have CM3 : Hid (∀ W A n c l, Rd W A n c l → n ≤ 10000 → Rd W AC nC cC sl → Calls Tryd.prog 29 #[.agg kc.toArray, .agg nc.toArray, .slice A n c, .slice AC nC cC] W fun e w' => e = .returned (.bool true) ∧ Below W.heap.size W w') := fun W A n c l h hn h' => by rw [HKC.out, HNC.out]; exact CM.out key nonce W _ _ _ _ _ _ _ _ LK.out LN.out h h' hn (by omega)
          have JL : Hid ((Tryd.prog.info? 28).map (·.size) = some lc.length) := by unfold Hid; rw [hlc, List.length_map, LK2.out]; kernel_rfl
          have JM : Hid ((Tryd.prog.info? 30).map (·.size) = some mc.length) := by unfold Hid; rw [hmc, List.length_map, LN2.out]; kernel_rfl
          have WA : Hid (Below w.heap.size w wG.drew) := W8.out.drew
          have E3 : Hid (Rd wG.drew B3 m3 d3 l3) := F3.out.drew
          have EC : Hid (Rd wG.drew AC nC cC sl) := FC.out.drew
          have EK : Hid (Blk wG.drew gk 28 kc) := K8.out.drew
          have EN : Hid (Blk wG.drew gn 30 nc) := N8.out.drew
          have EL : Hid (Blk wG.drew gl 28 lc) := L8.out.drew
          have EM : Hid (Blk wG.drew gm 30 mc) := M8.out.drew
          have HB3 := Lib.hid F3.out.len
          clear W8 F3 FC K8 N8 L8 M8 hlc hmc CM HKC HNC LK LN LK2 LN2 lm
          refine wp_region_any (by kernel_rfl) ?_
          change wpAny _ _ _ _ _ _ _ (World.drew _)
          generalize wG.drew = wH at *
          refine wpAny_take (i := 2) (oi := ?oi61) (v := .slice B3 m3 d3) ?hi61 (by kernel_rfl) (by kernel_rfl) (by kernel_rfl) ?hQ61 ?hy61 ?rest61
          case hi61 => simp only [List.getElem?_toArray, List.getElem?_cons_succ, List.getElem?_cons_zero]; rfl
          case hQ61 => exact fun _ _ _ h => h
          case hy61 => exact Or.inl ⟨by rfl, by intro w; go_simp⟩
          try simp only [Act.put, List.setIfInBounds_toArray, List.set_cons_zero, List.set_cons_succ]
          refine wpAny_take (i := 3) (oi := ?oi62) (v := .slice AC nC cC) ?hi62 (by kernel_rfl) (by kernel_rfl) (by kernel_rfl) ?hQ62 ?hy62 ?rest62
          case hi62 => simp only [List.getElem?_toArray, List.getElem?_cons_succ, List.getElem?_cons_zero]; rfl
          case hQ62 => exact fun _ _ _ h => h
          case hy62 => exact Or.inl ⟨by rfl, by intro w; go_simp⟩
          try simp only [Act.put, List.setIfInBounds_toArray, List.set_cons_zero, List.set_cons_succ]
          refine phase (fun i => if i = 4 then [0, 1] else []) (fun d a w' => ∃ x108 x109 x112 : Value, a = { tmps := #[.slice A1 n1 c1, .slice A2 n2 c2, .slice B3 m3 d3, .slice B4 m4 d4, .int .i64 (t : Int), .int .u8 (x.toNat : Int), undef, undef, undef, undef, undef, undef, .bool false, .bool true, .pointer (some ⟨gk, 0, none⟩), .pointer (some ⟨gn, 0, none⟩), .slice AC nC cC, .slice AO nO cO, .bool true, .pointer (some ⟨gl, 0, none⟩), .pointer (some ⟨gm, 0, none⟩), .bool true, .bool true, .bool false, .slice A3 n3 c3, .slice B3 m3 d3, .slice A4 n4 c4, .slice B4 m4 d4, .slice A1 n1 c1, .agg kc.toArray, .slice A2 n2 c2, .agg nc.toArray, .agg kc.toArray, .agg nc.toArray, .slice B3 m3 d3, .slice B4 m4 d4, .slice AC nC cC, .tuple #[.slice AO nO cO, .bool true], .agg kc.toArray, .agg nc.toArray, .slice B3 m3 d3, .slice AC nC cC, .tuple #[.slice AO nO cO, .bool true], .slice AO nO cO, .bool true, .slice AC nC cC, .string ⟨sl.toArray⟩, x47, x48, .slice B3 m3 d3, .slice B4 m4 d4, x51, .string ⟨sl.toArray⟩, .bool false, .bool false, .bool true, .bool false, .bool false, .bool false, .slice AO nO cO, .string ⟨l4.toArray⟩, .slice B4 m4 d4, .string ⟨l4.toArray⟩, .bool false, .bool false, .bool false, .int .i64 (t : Int), .bool false, .bool false, undef, undef, undef, undef, undef, undef, undef, undef, undef, undef, undef, undef, undef, undef, undef, undef, undef, undef, undef, undef, undef, undef, undef, .agg kc.toArray, .agg nc.toArray, .int .i64 (t : Int), .int .i64 ((t : Int) % 32), .pointer (some ⟨gl, j, none⟩), .int .u8 (z.toNat : Int), .int .u8 (x.toNat : Int), cellOf (z ^^^ x), .pointer (some ⟨gl, j, none⟩), .int .i64 (t : Int), .int .i64 ((t : Int) % 12), .pointer (some ⟨gm, i, none⟩), .int .u8 (z2.toNat : Int), .int .u8 (x.toNat : Int), cellOf (z2 ^^^ x), .pointer (some ⟨gm, i, none⟩), x108, x109, .slice B3 m3 d3, .slice AC nC cC, x112, undef, undef, undef, undef, undef, undef, undef, undef, undef, undef, undef, undef, undef, undef, undef, undef, undef, undef], defers := [] } ∧ Hid (Below wH.heap.size wH w')
            ∧ (d 0 = true → x108 = .agg lc.toArray) ∧ (d 1 = true → x109 = .agg nc.toArray) ∧ (d 4 = true → x112 = .bool true)) [0, 1, 4] ?stepx108 19 3 [0, 1, 4] _ _ _ rfl (by decide) (fun _ h => h) (by kernel_rfl) ?initx108 ?finx108
          case initx108 =>
            refine ⟨_, _, _, rfl, Below.refl _ _, ?_, ?_, ?_⟩ <;> (intro h; exact absurd h (by decide))
          case stepx108 =>
            intro i_ hi d a wI hI hdi hdeps
            obtain ⟨x108, x109, x112, rfl, BW, h0, h1, h8⟩ := hI
            have hsz := BW.out.size
            simp only [List.mem_cons, List.not_mem_nil, or_false] at hi
            rcases hi with rfl | rfl | rfl
            · refine wpOp_step (o := ?os63) ?hos63 (fun K' hK => ?_)
              case hos63 => simp only [List.getElem?_toArray, List.getElem?_cons_succ, List.getElem?_cons_zero]; rfl
              refine step_loadW rfl 28 (.tmp 19) rfl gl 0 rfl lc _ Tryd.underlying28 rfl JL.out (EL.out.below BW.out EL.out.lt).cells (hK _ _ ?_)
              clear hK K'
              try simp only [Act.put, List.setIfInBounds_toArray, List.set_cons_zero, List.set_cons_succ]
              exact ⟨_, x109, x112, rfl, BW, fun _ => rfl, fun a => h1 (by simpa using a), fun a => h8 (by simpa using a)⟩
            · refine wpOp_step (o := ?os64) ?hos64 (fun K' hK => ?_)
              case hos64 => simp only [List.getElem?_toArray, List.getElem?_cons_succ, List.getElem?_cons_zero]; rfl
              refine step_loadW rfl 30 (.tmp 15) rfl gn 0 rfl nc _ Tryd.underlying30 rfl IN.out (EN.out.below BW.out EN.out.lt).cells (hK _ _ ?_)
              clear hK K'
              try simp only [Act.put, List.setIfInBounds_toArray, List.set_cons_zero, List.set_cons_succ]
              exact ⟨x108, _, x112, rfl, BW, fun a => h0 (by simpa using a), fun _ => rfl, fun a => h8 (by simpa using a)⟩
            · obtain rfl := h0 (hdeps 0 (by simp))
              obtain rfl := h1 (hdeps 1 (by simp))
              refine wpOp_step (o := ?os65) ?hos65 (fun K' hK => ?_)
              case hos65 => simp only [List.getElem?_toArray, List.getElem?_cons_succ, List.getElem?_cons_zero]; rfl
              clear h8
              go_simp
              refine (CM1.out wI (E3.out.below BW.out) (EC.out.below BW.out)).mono ?_
              rintro e wJ ⟨rfl, hX⟩
              refine hK _ _ ?_
              clear hK K'
              try simp only [Act.put, List.setIfInBounds_toArray, List.set_cons_zero, List.set_cons_succ]
              exact ⟨_, _, _, rfl, BW.out.trans (hX.mono hsz), fun _ => rfl, fun _ => rfl, fun _ => rfl⟩
          case finx108 =>
            intro a wI hI
            obtain ⟨x108, x109, x112, rfl, BW, h0, h1, h8⟩ := hI
            obtain rfl := h8 (by decide)
            have WI := Lib.hid (WA.out.trans (BW.out.mono WA.out.size))
            have G3 := Lib.hid (E3.out.below BW.out)
            have GC := Lib.hid (EC.out.below BW.out)
            have GK := Lib.hid (EK.out.below BW.out EK.out.lt)
            have GN := Lib.hid (EN.out.below BW.out EN.out.lt)
            have GM := Lib.hid (EM.out.below BW.out EM.out.lt)
            clear h0 h1 h8 BW WA E3 EC EK EN EL EM CM1
            dsimp only
            refine wpAny_take (i := 5) (oi := ?oi66) (v := .bool true) ?hi66 (by kernel_rfl) (by kernel_rfl) (by kernel_rfl) ?hQ66 ?hy66 ?rest66
            case hi66 => simp only [List.getElem?_toArray, List.getElem?_cons_succ, List.getElem?_cons_zero]; rfl
            case hQ66 => exact fun _ _ _ h => h
            case hy66 => exact Or.inl ⟨by rfl, by intro w; go_simp⟩
            try simp only [Act.put, List.setIfInBounds_toArray, List.set_cons_zero, List.set_cons_succ]
            refine wpAny_take (i := 8) (oi := ?oi67) (v := .slice B3 m3 d3) ?hi67 (by kernel_rfl) (by kernel_rfl) (by kernel_rfl) ?hQ67 ?hy67 ?rest67
            case hi67 => simp only [List.getElem?_toArray, List.getElem?_cons_succ, List.getElem?_cons_zero]; rfl
            case hQ67 => exact fun _ _ _ h => h
            case hy67 => exact Or.inl ⟨by rfl, by intro w; go_simp⟩
            try simp only [Act.put, List.setIfInBounds_toArray, List.set_cons_zero, List.set_cons_succ]
            refine wpAny_take (i := 9) (oi := ?oi68) (v := .slice AC nC cC) ?hi68 (by kernel_rfl) (by kernel_rfl) (by kernel_rfl) ?hQ68 ?hy68 ?rest68
            case hi68 => simp only [List.getElem?_toArray, List.getElem?_cons_succ, List.getElem?_cons_zero]; rfl
            case hQ68 => exact fun _ _ _ h => h
            case hy68 => exact Or.inl ⟨by rfl, by intro w; go_simp⟩
            try simp only [Act.put, List.setIfInBounds_toArray, List.set_cons_zero, List.set_cons_succ]
            refine phase (fun i => if i = 10 then [6, 7] else []) (fun d a w' => ∃ x114 x115 x118 : Value, a = { tmps := #[.slice A1 n1 c1, .slice A2 n2 c2, .slice B3 m3 d3, .slice B4 m4 d4, .int .i64 (t : Int), .int .u8 (x.toNat : Int), undef, undef, undef, undef, undef, undef, .bool false, .bool true, .pointer (some ⟨gk, 0, none⟩), .pointer (some ⟨gn, 0, none⟩), .slice AC nC cC, .slice AO nO cO, .bool true, .pointer (some ⟨gl, 0, none⟩), .pointer (some ⟨gm, 0, none⟩), .bool true, .bool true, .bool false, .slice A3 n3 c3, .slice B3 m3 d3, .slice A4 n4 c4, .slice B4 m4 d4, .slice A1 n1 c1, .agg kc.toArray, .slice A2 n2 c2, .agg nc.toArray, .agg kc.toArray, .agg nc.toArray, .slice B3 m3 d3, .slice B4 m4 d4, .slice AC nC cC, .tuple #[.slice AO nO cO, .bool true], .agg kc.toArray, .agg nc.toArray, .slice B3 m3 d3, .slice AC nC cC, .tuple #[.slice AO nO cO, .bool true], .slice AO nO cO, .bool true, .slice AC nC cC, .string ⟨sl.toArray⟩, x47, x48, .slice B3 m3 d3, .slice B4 m4 d4, x51, .string ⟨sl.toArray⟩, .bool false, .bool false, .bool true, .bool false, .bool false, .bool false, .slice AO nO cO, .string ⟨l4.toArray⟩, .slice B4 m4 d4, .string ⟨l4.toArray⟩, .bool false, .bool false, .bool false, .int .i64 (t : Int), .bool false, .bool false, undef, undef, undef, undef, undef, undef, undef, undef, undef, undef, undef, undef, undef, undef, undef, undef, undef, undef, undef, undef, undef, undef, undef, .agg kc.toArray, .agg nc.toArray, .int .i64 (t : Int), .int .i64 ((t : Int) % 32), .pointer (some ⟨gl, j, none⟩), .int .u8 (z.toNat : Int), .int .u8 (x.toNat : Int), cellOf (z ^^^ x), .pointer (some ⟨gl, j, none⟩), .int .i64 (t : Int), .int .i64 ((t : Int) % 12), .pointer (some ⟨gm, i, none⟩), .int .u8 (z2.toNat : Int), .int .u8 (x.toNat : Int), cellOf (z2 ^^^ x), .pointer (some ⟨gm, i, none⟩), x108, x109, .slice B3 m3 d3, .slice AC nC cC, .bool true, .bool true, x114, x115, .slice B3 m3 d3, .slice AC nC cC, x118, undef, undef, undef, undef, undef, undef, undef, undef, undef, undef, undef, undef], defers := [] } ∧ Hid (Below wI.heap.size wI w')
              ∧ (d 6 = true → x114 = .agg kc.toArray) ∧ (d 7 = true → x115 = .agg mc.toArray) ∧ (d 10 = true → x118 = .bool true)) [6, 7, 10] ?stepx114 13 3 [6, 7, 10] _ _ _ rfl (by decide) (fun _ h => h) (by kernel_rfl) ?initx114 ?finx114
            case initx114 =>
              refine ⟨_, _, _, rfl, Below.refl _ _, ?_, ?_, ?_⟩ <;> (intro h; exact absurd h (by decide))
            case stepx114 =>
              intro i_ hi d a wK hI hdi hdeps
              obtain ⟨x114, x115, x118, rfl, BW, h0, h1, h8⟩ := hI
              have hsz := BW.out.size
              simp only [List.mem_cons, List.not_mem_nil, or_false] at hi
              rcases hi with rfl | rfl | rfl
              · refine wpOp_step (o := ?os69) ?hos69 (fun K' hK => ?_)
                case hos69 => simp only [List.getElem?_toArray, List.getElem?_cons_succ, List.getElem?_cons_zero]; rfl
                refine step_loadW rfl 28 (.tmp 14) rfl gk 0 rfl kc _ Tryd.underlying28 rfl IK.out (GK.out.below BW.out GK.out.lt).cells (hK _ _ ?_)
                clear hK K'
                try simp only [Act.put, List.setIfInBounds_toArray, List.set_cons_zero, List.set_cons_succ]
                exact ⟨_, x115, x118, rfl, BW, fun _ => rfl, fun a => h1 (by simpa using a), fun a => h8 (by simpa using a)⟩
              · refine wpOp_step (o := ?os70) ?hos70 (fun K' hK => ?_)
                case hos70 => simp only [List.getElem?_toArray, List.getElem?_cons_succ, List.getElem?_cons_zero]; rfl
                refine step_loadW rfl 30 (.tmp 20) rfl gm 0 rfl mc _ Tryd.underlying30 rfl JM.out (GM.out.below BW.out GM.out.lt).cells (hK _ _ ?_)
                clear hK K'
                try simp only [Act.put, List.setIfInBounds_toArray, List.set_cons_zero, List.set_cons_succ]
                exact ⟨x114, _, x118, rfl, BW, fun a => h0 (by simpa using a), fun _ => rfl, fun a => h8 (by simpa using a)⟩
              · obtain rfl := h0 (hdeps 6 (by simp))
                obtain rfl := h1 (hdeps 7 (by simp))
                refine wpOp_step (o := ?os71) ?hos71 (fun K' hK => ?_)
                case hos71 => simp only [List.getElem?_toArray, List.getElem?_cons_succ, List.getElem?_cons_zero]; rfl
                clear h8
                go_simp
                refine (CM2.out wK (G3.out.below BW.out) (GC.out.below BW.out)).mono ?_
                rintro e wL ⟨rfl, hX⟩
                refine hK _ _ ?_
                clear hK K'
                try simp only [Act.put, List.setIfInBounds_toArray, List.set_cons_zero, List.set_cons_succ]
                exact ⟨_, _, _, rfl, BW.out.trans (hX.mono hsz), fun _ => rfl, fun _ => rfl, fun _ => rfl⟩
            case finx114 =>
              intro a wK hI
              obtain ⟨x114, x115, x118, rfl, BW, h0, h1, h8⟩ := hI
              obtain rfl := h8 (by decide)
              have WK := Lib.hid (WI.out.trans (BW.out.mono WI.out.size))
              have H3 := Lib.hid (G3.out.below BW.out)
              have HC := Lib.hid (GC.out.below BW.out)
              have HK := Lib.hid (GK.out.below BW.out GK.out.lt)
              have HN := Lib.hid (GN.out.below BW.out GN.out.lt)
              have LE0 : Hid (m3 ≤ 140737488355328) := by unfold Hid; omega
              have LE1 : Hid (l3.length + 1 ≤ 140737488355328) := by unfold Hid; rw [HB3.out]; omega
              have LE2 : Hid ((l3 ++ [x]).length ≤ 10000) := by unfold Hid; rw [List.length_append, HB3.out]; simp; omega
              clear h0 h1 h8 BW WI G3 GC GK GN GM CM2
              dsimp only
              refine wpAny_take (i := 11) (oi := ?oi72) (v := .bool true) ?hi72 (by kernel_rfl) (by kernel_rfl) (by kernel_rfl) ?hQ72 ?hy72 ?rest72
              case hi72 => simp only [List.getElem?_toArray, List.getElem?_cons_succ, List.getElem?_cons_zero]; rfl
              case hQ72 => exact fun _ _ _ h => h
              case hy72 => exact Or.inl ⟨by rfl, by intro w; go_simp⟩
              try simp only [Act.put, List.setIfInBounds_toArray, List.set_cons_zero, List.set_cons_succ]
              refine wpAny_take (i := 12) (oi := ?oi73) (v := .bool true) ?hi73 (by kernel_rfl) (by kernel_rfl) (by kernel_rfl) ?hQ73 ?hy73 ?rest73
              case hi73 => simp only [List.getElem?_toArray, List.getElem?_cons_succ, List.getElem?_cons_zero]; rfl
              case hQ73 => exact fun _ _ _ h => h
              case hy73 => exact Or.inl ⟨by rfl, by intro w; go_simp⟩
              try simp only [Act.put, List.setIfInBounds_toArray, List.set_cons_zero, List.set_cons_succ]
              refine wpAny_take (i := 15) (oi := ?oi74) (v := .slice B3 m3 d3) ?hi74 (by kernel_rfl) (by kernel_rfl) (by kernel_rfl) ?hQ74 ?hy74 ?rest74
              case hi74 => simp only [List.getElem?_toArray, List.getElem?_cons_succ, List.getElem?_cons_zero]; rfl
              case hQ74 => exact fun _ _ _ h => h
              case hy74 => exact Or.inl ⟨by rfl, by intro w; go_simp⟩
              try simp only [Act.put, List.setIfInBounds_toArray, List.set_cons_zero, List.set_cons_succ]
              refine wpAny_take (i := 17) (oi := ?oi75) (v := .int .u8 (x.toNat : Int)) ?hi75 (by kernel_rfl) (by kernel_rfl) (by kernel_rfl) ?hQ75 ?hy75 ?rest75
              case hi75 => simp only [List.getElem?_toArray, List.getElem?_cons_succ, List.getElem?_cons_zero]; rfl
              case hQ75 => exact fun _ _ _ h => h
              case hy75 => exact Or.inl ⟨by rfl, by intro w; go_simp⟩
              try simp only [Act.put, List.setIfInBounds_toArray, List.set_cons_zero, List.set_cons_succ]
              refine wpAny_take (i := 20) (oi := ?oi76) (v := .slice AC nC cC) ?hi76 (by kernel_rfl) (by kernel_rfl) (by kernel_rfl) ?hQ76 ?hy76 ?rest76
              case hi76 => simp only [List.getElem?_toArray, List.getElem?_cons_succ, List.getElem?_cons_zero]; rfl
              case hQ76 => exact fun _ _ _ h => h
              case hy76 => exact Or.inl ⟨by rfl, by intro w; go_simp⟩
              try simp only [Act.put, List.setIfInBounds_toArray, List.set_cons_zero, List.set_cons_succ]
              refine phase (fun i => if i = 19 then [16, 18] else if i = 21 then [13, 14, 19] else []) (fun d a w' => ∃ x121 x122 x124 x126 x127 x129 : Value, a = { tmps := #[.slice A1 n1 c1, .slice A2 n2 c2, .slice B3 m3 d3, .slice B4 m4 d4, .int .i64 (t : Int), .int .u8 (x.toNat : Int), undef, undef, undef, undef, undef, undef, .bool false, .bool true, .pointer (some ⟨gk, 0, none⟩), .pointer (some ⟨gn, 0, none⟩), .slice AC nC cC, .slice AO nO cO, .bool true, .pointer (some ⟨gl, 0, none⟩), .pointer (some ⟨gm, 0, none⟩), .bool true, .bool true, .bool false, .slice A3 n3 c3, .slice B3 m3 d3, .slice A4 n4 c4, .slice B4 m4 d4, .slice A1 n1 c1, .agg kc.toArray, .slice A2 n2 c2, .agg nc.toArray, .agg kc.toArray, .agg nc.toArray, .slice B3 m3 d3, .slice B4 m4 d4, .slice AC nC cC, .tuple #[.slice AO nO cO, .bool true], .agg kc.toArray, .agg nc.toArray, .slice B3 m3 d3, .slice AC nC cC, .tuple #[.slice AO nO cO, .bool true], .slice AO nO cO, .bool true, .slice AC nC cC, .string ⟨sl.toArray⟩, x47, x48, .slice B3 m3 d3, .slice B4 m4 d4, x51, .string ⟨sl.toArray⟩, .bool false, .bool false, .bool true, .bool false, .bool false, .bool false, .slice AO nO cO, .string ⟨l4.toArray⟩, .slice B4 m4 d4, .string ⟨l4.toArray⟩, .bool false, .bool false, .bool false, .int .i64 (t : Int), .bool false, .bool false, undef, undef, undef, undef, undef, undef, undef, undef, undef, undef, undef, undef, undef, undef, undef, undef, undef, undef, undef, undef, undef, undef, undef, .agg kc.toArray, .agg nc.toArray, .int .i64 (t : Int), .int .i64 ((t : Int) % 32), .pointer (some ⟨gl, j, none⟩), .int .u8 (z.toNat : Int), .int .u8 (x.toNat : Int), cellOf (z ^^^ x), .pointer (some ⟨gl, j, none⟩), .int .i64 (t : Int), .int .i64 ((t : Int) % 12), .pointer (some ⟨gm, i, none⟩), .int .u8 (z2.toNat : Int), .int .u8 (x.toNat : Int), cellOf (z2 ^^^ x), .pointer (some ⟨gm, i, none⟩), x108, x109, .slice B3 m3 d3, .slice AC nC cC, .bool true, .bool true, x114, x115, .slice B3 m3 d3, .slice AC nC cC, .bool true, .bool true, .bool true, x121, x122, .slice B3 m3 d3, x124, .int .u8 (x.toNat : Int), x126, x127, .slice AC nC cC, x129, undef], defers := [] } ∧ Hid (Below wK.heap.size wK w')
                ∧ (d 13 = true → x121 = .agg kc.toArray) ∧ (d 14 = true → x122 = .agg nc.toArray) ∧ (d 19 = true → d 16 = true ∧ d 18 = true) ∧ (d 21 = true → d 19 = true) ∧ (d 16 = true → d 19 = false → Hid (Ow w' wK.heap.size x124 l3)) ∧ (d 18 = true → d 19 = false → Hid (∃ g, x126 = .slice (some ⟨g, 0, none⟩) 1 1 ∧ Rd w' (some ⟨g, 0, none⟩) 1 1 [x])) ∧ (d 19 = true → d 21 = false → Hid (∃ A n c, x127 = .slice A n c ∧ n ≤ 10000 ∧ Rd w' A n c (l3 ++ [x]))) ∧ (d 21 = true → x129 = .bool true)) [13, 14, 16, 18, 19, 21] ?step121 2 6 [13, 14, 16, 18, 19, 21] _ _ _ rfl (by decide) (fun _ h => h) (by kernel_rfl) ?init121 ?fin121
              case init121 =>
                refine ⟨_, _, _, _, _, _, rfl, Below.refl _ _, ?_, ?_, ?_, ?_, ?_, ?_, ?_, ?_⟩ <;> (intro h; exact absurd h (by decide))
              case step121 =>
                intro i_ hi d a wM hI hdi hdeps
                obtain ⟨x121, x122, x124, x126, x127, x129, rfl, BW, h0, h1, g19, g21, h16, h18, h19, h21⟩ := hI
                have hsz := BW.out.size
                simp only [List.mem_cons, List.not_mem_nil, or_false] at hi
                rcases hi with rfl | rfl | rfl | rfl | rfl | rfl
                · refine wpOp_step (o := ?os77) ?hos77 (fun K' hK => ?_)
                  case hos77 => simp only [List.getElem?_toArray, List.getElem?_cons_succ, List.getElem?_cons_zero]; rfl
                  refine step_loadW rfl 28 (.tmp 14) rfl gk 0 rfl kc _ Tryd.underlying28 rfl IK.out (HK.out.below BW.out HK.out.lt).cells (hK _ _ ?_)
                  clear hK K'
                  try simp only [Act.put, List.setIfInBounds_toArray, List.set_cons_zero, List.set_cons_succ]
                  exact ⟨_, x122, x124, x126, x127, x129, rfl, BW, fun _ => rfl, fun a => h1 (by simpa using a), fun a => by simpa using g19 (by simpa using a), fun a => by simpa using g21 (by simpa using a), fun a b => h16 (by simpa using a) (by simpa using b), fun a b => h18 (by simpa using a) (by simpa using b), fun a b => h19 (by simpa using a) (by simpa using b), fun a => h21 (by simpa using a)⟩
                · refine wpOp_step (o := ?os78) ?hos78 (fun K' hK => ?_)
                  case hos78 => simp only [List.getElem?_toArray, List.getElem?_cons_succ, List.getElem?_cons_zero]; rfl
                  refine step_loadW rfl 30 (.tmp 15) rfl gn 0 rfl nc _ Tryd.underlying30 rfl IN.out (HN.out.below BW.out HN.out.lt).cells (hK _ _ ?_)
                  clear hK K'
                  try simp only [Act.put, List.setIfInBounds_toArray, List.set_cons_zero, List.set_cons_succ]
                  exact ⟨x121, _, x124, x126, x127, x129, rfl, BW, fun a => h0 (by simpa using a), fun _ => rfl, fun a => by simpa using g19 (by simpa using a), fun a => by simpa using g21 (by simpa using a), fun a b => h16 (by simpa using a) (by simpa using b), fun a b => h18 (by simpa using a) (by simpa using b), fun a b => h19 (by simpa using a) (by simpa using b), fun a => h21 (by simpa using a)⟩
                · have n19 : d 19 = false := by
                    cases e : d 19 with
                    | false => rfl
                    | true => rw [(g19 e).1] at hdi; cases hdi
                  have n21 : d 21 = false := by
                    cases e : d 21 with
                    | false => rfl
                    | true => rw [g21 e] at n19; cases n19
                  refine wpOp_step (o := ?os79) ?hos79 (fun K' hK => ?_)
                  case hos79 => simp only [List.getElem?_toArray, List.getElem?_cons_succ, List.getElem?_cons_zero]; rfl
                  refine step_grows rfl (.const (.slice none 0 0)) (.tmp 123) rfl rfl rfl (H3.out.below BW.out) LE0.out hsz BW.out (fun v' wN O' X' Z' => hK _ _ ?_)
                  clear hK K'
                  try simp only [Act.put, List.setIfInBounds_toArray, List.set_cons_zero, List.set_cons_succ]
                  exact ⟨x121, x122, _, x126, x127, x129, rfl, X', fun a => h0 (by simpa using a), fun a => h1 (by simpa using a), fun a => by simp [n19] at a, fun a => by simp [n21] at a, fun _ _ => O', fun a b => by obtain ⟨g, e, hr⟩ := (h18 (by simpa using a) (by simpa using b)).out; exact ⟨g, e, hr.below Z'.out⟩, fun a => by simp [n19] at a, fun a => by simp [n21] at a⟩
                · have n19 : d 19 = false := by
                    cases e : d 19 with
                    | false => rfl
                    | true => rw [(g19 e).2] at hdi; cases hdi
                  have n21 : d 21 = false := by
                    cases e : d 21 with
                    | false => rfl
                    | true => rw [g21 e] at n19; cases n19
                  have hX : Below wM.heap.size wM (wM.alloc (.cells #[.int .u8 (x.toNat : Int)] 5)) := (Below.refl wM.heap.size wM).alloc (Nat.le_refl _) _
                  have HX := Lib.hid hX
                  have NB : Hid (Rd (wM.alloc (.cells #[.int .u8 (x.toNat : Int)] 5)) (some ⟨wM.heap.size, 0, none⟩) 1 1 [x]) := Rd.of_block (Blk.new wM 5 [.int .u8 (x.toNat : Int)]) rfl (Nat.le_refl _) (by unfold maxLen; omega) (one_at x)
                  have H16' : Hid (d 16 = true → Hid (Ow (wM.alloc (.cells #[.int .u8 (x.toNat : Int)] 5)) wK.heap.size x124 l3)) := fun a => (h16 a n19).out.keep hX
                  clear h16 h18 h19 hX
                  refine wpOp_step (o := ?os80) ?hos80 (fun K' hK => ?_)
                  case hos80 => simp only [List.getElem?_toArray, List.getElem?_cons_succ, List.getElem?_cons_zero]; rfl
                  go_simp
                  refine hK _ _ ?_
                  clear hK K'
                  change ∃ _, _
                  try simp only [Act.put, List.setIfInBounds_toArray, List.set_cons_zero, List.set_cons_succ]
                  exact ⟨x121, x122, x124, _, x127, x129, rfl, BW.out.trans (HX.out.mono hsz), fun a => h0 (by simpa using a), fun a => h1 (by simpa using a), fun a => by simp [n19] at a, fun a => by simp [n21] at a, fun a _ => H16'.out (by simpa using a), fun _ _ => ⟨_, rfl, NB.out⟩, fun a => by simp [n19] at a, fun a => by simp [n21] at a⟩
                · have n21 : d 21 = false := by
                    cases e : d 21 with
                    | false => rfl
                    | true => rw [g21 e] at hdi; cases hdi
                  have y16 : d 16 = true := hdeps 16 (by simp)
                  have y18 : d 18 = true := hdeps 18 (by simp)
                  have O1 := Lib.hid (h16 y16 hdi).out
                  obtain ⟨g, rfl, hr⟩ := (h18 y18 hdi).out
                  have HR := Lib.hid hr
                  refine wpOp_step (o := ?os81) ?hos81 (fun K' hK => ?_)
                  case hos81 => simp only [List.getElem?_toArray, List.getElem?_cons_succ, List.getElem?_cons_zero]; rfl
                  refine step_any rfl (.tmp 124) (.tmp 126) rfl rfl rfl HR.out O1.out LE1.out hsz BW.out (fun v' wN O' X' => hK _ _ ?_)
                  clear hK K'
                  obtain ⟨A, c, rfl, hRd, _⟩ := O'.out.value
                  try simp only [Act.put, List.setIfInBounds_toArray, List.set_cons_zero, List.set_cons_succ]
                  exact ⟨x121, x122, x124, _, _, x129, rfl, X', fun a => h0 (by simpa using a), fun a => h1 (by simpa using a), fun _ => by simp [y16, y18], fun a => by simp [n21] at a, fun _ a => by simp at a, fun _ a => by simp at a, fun _ _ => ⟨_, _, _, rfl, LE2.out, hRd⟩, fun a => by simp [n21] at a⟩
                · obtain rfl := h0 (hdeps 13 (by simp))
                  obtain rfl := h1 (hdeps 14 (by simp))
                  have y19 : d 19 = true := hdeps 19 (by simp)
                  have y1 := g19 y19
                  obtain ⟨A, n, c, rfl, hnn, hRd⟩ := (h19 y19 hdi).out
                  have HRd := Lib.hid hRd
                  refine wpOp_step (o := ?os82) ?hos82 (fun K' hK => ?_)
                  case hos82 => simp only [List.getElem?_toArray, List.getElem?_cons_succ, List.getElem?_cons_zero]; rfl
                  clear h16 h18 h19 h21 hRd
                  go_simp
                  refine (CM3.out wM A n c _ HRd.out hnn (HC.out.below BW.out)).mono ?_
                  rintro e wN ⟨rfl, hX⟩
                  refine hK _ _ ?_
                  clear hK K'
                  try simp only [Act.put, List.setIfInBounds_toArray, List.set_cons_zero, List.set_cons_succ]
                  exact ⟨_, _, _, _, _, _, rfl, BW.out.trans (hX.mono hsz), fun _ => rfl, fun _ => rfl, fun _ => by simp [y1.1, y1.2], fun _ => by simp [y19], fun _ a => by simp [y19] at a, fun _ a => by simp [y19] at a, fun _ a => by simp at a, fun _ => rfl⟩
              case fin121 =>
                intro a wM hI
                obtain ⟨x121, x122, x124, x126, x127, x129, rfl, BW, h0, h1, g19, g21, h16, h18, h19, h21⟩ := hI
                obtain rfl := h21 (by decide)
                have WF := Lib.hid (WK.out.trans (BW.out.mono WK.out.size))
                clear h0 h1 g19 g21 h16 h18 h19 h21 BW
                dsimp only
                refine wpAny_take (i := 22) (oi := ?oi83) (v := .bool true) ?hi83 (by kernel_rfl) (by kernel_rfl) (by kernel_rfl) ?hQ83 ?hy83 ?rest83
                case hi83 => simp only [List.getElem?_toArray, List.getElem?_cons_succ, List.getElem?_cons_zero]; rfl
                case hQ83 => exact fun _ _ _ h => h
                case hy83 => exact Or.inl ⟨by rfl, by intro w; go_simp⟩
                try simp only [Act.put, List.setIfInBounds_toArray, List.set_cons_zero, List.set_cons_succ]
                refine wpAny_take (i := 23) (oi := ?oi84) (v := .bool true) ?hi84 (by kernel_rfl) (by kernel_rfl) (by kernel_rfl) ?hQ84 ?hy84 ?rest84
                case hi84 => simp only [List.getElem?_toArray, List.getElem?_cons_succ, List.getElem?_cons_zero]; rfl
                case hQ84 => exact fun _ _ _ h => h
                case hy84 => exact Or.inl ⟨by rfl, by intro w; go_simp⟩
                try simp only [Act.put, List.setIfInBounds_toArray, List.set_cons_zero, List.set_cons_succ]
                refine wpAny_done (by kernel_rfl) ?_ _
                go_wp2_with fail
                go_ret
                exact ⟨rfl, WF.out⟩
end Go.Proofs.YtknpngeaodlmhaaDoor.aeadAll
