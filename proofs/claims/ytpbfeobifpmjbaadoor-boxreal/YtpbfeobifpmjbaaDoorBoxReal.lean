/- The walk of the law BoxReal: a real box needs no tape, and remembers nothing: another one opens what it sealed. -/
import Derived.Test.YtpbfeobifpmjbaaDoorBegun8
namespace Go.Proofs.YtpbfeobifpmjbaaDoor.boxReal
set_option linter.unusedVariables false
set_option linter.unusedSimpArgs false
set_option maxRecDepth 100000
open Go.RowKit
/-- A key of two bytes and noughts. -/
def key2 (x y : UInt8) : List UInt8 := x :: y :: List.replicate 30 0
theorem key2_length (x y : UInt8) : (key2 x y).length = 32 := by simp [key2]

set_option maxRecDepth 100000 in
set_option maxHeartbeats 16000000 in
theorem walk {P : BxP} (hB : BoxOk P) (x : UInt8) (n : Int) {A1 A2 : Option Addr} {n1 c1 n2 c2 : Nat} {l1 l2 : List UInt8} (w : World) (hg : Gl w) (hn1 : -9223372036854775808 ≤ n) (hn2 : n ≤ 9223372036854775807) (hr1 : Rd w A1 n1 c1 l1) (hr2 : Rd w A2 n2 c2 l2) :
    Calls Tryd.prog 7 #[.int .u8 (x.toNat : Int), .int .i64 n, .slice A1 n1 c1, .slice A2 n2 c2] w fun e w' => e = .returned (.bool true) ∧ Below w.heap.size w w' := by
  have HG := Lib.hid hg
  have HB := Lib.hid hB
  have hsz := hg.size
  have HR1 := Lib.hid hr1
  have HR2 := Lib.hid hr2
  clear hg hB hr1 hr2
  obtain ⟨ad, had⟩ : ∃ l, l = l1.take 20 := ⟨_, rfl⟩
  obtain ⟨bb, hbb⟩ : ∃ l, l = l2.take 60 := ⟨_, rfl⟩
  have CS1 := Lib.hid (fun W (h : Rd W A1 n1 c1 l1) => short_any 20 h (by omega))
  have CS2 := Lib.hid (fun W (h : Rd W A2 n2 c2 l2) => short_any 60 h (by omega))
  rw [← had] at CS1
  rw [← hbb] at CS2
  have L1 : Hid (ad.length ≤ 20) := by unfold Hid; rw [had, List.length_take]; omega
  have L2 : Hid (bb.length ≤ 60) := by unfold Hid; rw [hbb, List.length_take]; omega
  clear had hbb
  by_cases hn0 : n < 0
  · have d0 : decide (n < 0) = true := decide_eq_true hn0
    go_enter Tryd.func7, Tryd.ntmps7
    go_wp2_with fail
    refine (begun8_any HB.out HG.out).mono ?_
    rintro e w1 ⟨rfl, hX⟩
    have hs1 := hX.size
    have W1 := Lib.hid hX
    replace HR1 := Lib.hid (HR1.out.below hX)
    replace HR2 := Lib.hid (HR2.out.below hX)
    clear hX
    go_wp2_with fail
    refine (CS1.out w1 HR1.out).mono ?_
    rintro e w2 ⟨A3, n3, c3, rfl, hR, rfl⟩
    go_wp2_with fail
    refine (CS2.out _ HR2.out).mono ?_
    rintro e w2 ⟨A4, n4, c4, rfl, hR2, rfl⟩
    clear hR hR2
    go_wp2_with fail
    go_ret
    exact ⟨rfl, W1.out⟩
  have d0 : decide (n < 0) = false := decide_eq_false hn0
  obtain ⟨ke, hke⟩ : ∃ k, k = key2 x 3 := ⟨_, rfl⟩
  have K32 : Hid (ke.length = 32) := by unfold Hid; rw [hke]; exact key2_length x 3
  obtain ⟨kc, hkc⟩ : ∃ c, c = ke.map cellOf := ⟨_, rfl⟩
  have IK : Hid ((Tryd.prog.info? 34).map (·.size) = some kc.length) := by unfold Hid; rw [hkc, List.length_map, K32.out]; kernel_rfl
  have LK : Hid ((List.replicate 32 (Value.int .u8 0)).length = kc.length) := by unfold Hid; rw [hkc, List.length_map, K32.out]; rfl
  have OKC : Hid (∀ v ∈ kc, v.oneCell' = true) := by unfold Hid; rw [hkc]; exact cells_u8 _
  have BKC : Hid (Tryd.prog.built 34 [(0, .int .u8 (x.toNat : Int)), (1, .int .u8 3)] = some kc.toArray) := by unfold Hid; rw [hkc, hke]; kernel_rfl
  obtain ⟨lc, hlc⟩ : ∃ l, l = Ae.sealed ke (Bx.nonce n) ad bb := ⟨_, rfl⟩
  obtain ⟨nc, hnc⟩ : ∃ k, k = lc.length := ⟨_, rfl⟩
  have LC : Hid (lc.length = nc) := hnc.symm
  have hnc2 : nc ≤ 4000 := by have := L2.out; rw [hnc, hlc, Ae.sealed_length]; omega
  obtain ⟨lm, hlm⟩ : ∃ l, l = Sha.hmac ke bb := ⟨_, rfl⟩
  obtain ⟨mc, hmc⟩ : ∃ c, c = lm.map cellOf := ⟨_, rfl⟩
  have LM : Hid (lm.length = 32) := by unfold Hid; rw [hlm, Sha.hmac_length]
  obtain ⟨lb, hlb⟩ : ∃ l, l = Sha.hmac ke (1 :: bb) := ⟨_, rfl⟩
  obtain ⟨bc, hbc⟩ : ∃ c, c = lb.map cellOf := ⟨_, rfl⟩
  have EM : Hid (∀ W, (Op.equalIn 10000 34 (.agg mc.toArray) (.agg mc.toArray)).run Tryd.prog W = .ok true W) := fun W => by rw [hmc, equal30 lm lm LM.out LM.out, sameB_self]
  have EL : Hid (∀ W, (Op.equalIn 10000 34 (.agg bc.toArray) (.agg bc.toArray)).run Tryd.prog W = .ok true W) := fun W => by rw [hbc, equal30 lb lb (by rw [hlb, Sha.hmac_length]) (by rw [hlb, Sha.hmac_length]), sameB_self]
  have CSE : Hid (∀ (W : World) (g : Nat) (M : Nat → Prop) (A A' : Option Addr) (n3 c3 n4 c4 : Nat), Gl W → P W g .real M → Rd W A n3 c3 ad → Rd W A' n4 c4 bb → Calls Tryd.prog 12 #[.pointer (some ⟨g, 0, none⟩), .agg kc.toArray, .int .i64 n, .slice A n3 c3, .slice A' n4 c4] W (RetSR W lc)) := fun W g M A A' n3 c3 n4 c4 h1 h2 h3 h4 => by
    have e3 := h3.len
    have e4 := h4.len
    have := L1.out
    have := L2.out
    rw [hkc, hlc]
    exact HB.out.slR ke n h1 h2 K32.out (by omega) (by omega) h3 h4 (by omega) (by omega)
  have COP : Hid (∀ (W : World) (g : Nat) (M : Nat → Prop) (A A' : Option Addr) (n3 c3 c4 : Nat), Gl W → P W g .real M → Rd W A n3 c3 ad → Rd W A' nc c4 lc → Calls Tryd.prog 13 #[.pointer (some ⟨g, 0, none⟩), .agg kc.toArray, .int .i64 n, .slice A n3 c3, .slice A' nc c4] W (RetP W (bb, true))) := fun W g M A A' n3 c3 c4 h1 h2 h3 h4 => by
    have e3 := h3.len
    have := L1.out
    have := HB.out.opR ke n h1 h2 K32.out (by omega) (by omega) h3 h4 (by omega) (by omega)
    rw [hlc, opened_sealed, Ae.opens_sealed] at this
    rw [hkc]
    exact this
  have CMK : Hid (∀ (W : World) (g : Nat) (M : Nat → Prop) (A : Option Addr) (n3 c3 : Nat), Gl W → P W g .real M → Rd W A n3 c3 bb → Calls Tryd.prog 14 #[.pointer (some ⟨g, 0, none⟩), .agg kc.toArray, .slice A n3 c3] W fun e w' => e = .returned (.agg mc.toArray) ∧ Below W.heap.size W w') := fun W g M A n3 c3 h1 h2 h3 => by
    have e3 := h3.len
    have := L2.out
    rw [hkc, hmc, hlm]
    exact HB.out.mkR ke h1 h2 K32.out h3 (by omega)
  have CIS : Hid (∀ (W : World) (g : Nat) (M : Nat → Prop) (A : Option Addr) (n3 c3 : Nat), Gl W → P W g .real M → Rd W A n3 c3 bb → Calls Tryd.prog 15 #[.pointer (some ⟨g, 0, none⟩), .agg kc.toArray, .slice A n3 c3, .agg mc.toArray] W fun e w' => e = .returned (.bool true) ∧ Below W.heap.size W w') := fun W g M A n3 c3 h1 h2 h3 => by
    have e3 := h3.len
    have := L2.out
    have := HB.out.isR ke lm h1 h2 K32.out LM.out h3 (by omega)
    rw [decide_eq_true hlm.symm] at this
    rw [hkc, hmc]
    exact this
  have CLB : Hid (∀ (W : World) (g : Nat) (M : Nat → Prop), Gl W → P W g .real M → Calls Tryd.prog 16 #[.pointer (some ⟨g, 0, none⟩), .agg kc.toArray, .string ⟨bb.toArray⟩] W fun e w' => e = .returned (.agg bc.toArray) ∧ Below W.heap.size W w') := fun W g M h1 h2 => by
    have := L2.out
    rw [hkc, hbc, hlb]
    exact HB.out.lbR ke bb h1 h2 K32.out (by omega)
  clear hke hkc hlc hnc hlm hmc hlb hbc
  go_enter Tryd.func7, Tryd.ntmps7
  go_wp2_with fail
  refine (begun8_any HB.out HG.out).mono ?_
  rintro e w1 ⟨rfl, hX⟩
  have hs1 := hX.size
  have W1 := Lib.hid hX
  replace HR1 := Lib.hid (HR1.out.below hX)
  replace HR2 := Lib.hid (HR2.out.below hX)
  clear hX
  go_wp2_with fail
  refine (CS1.out w1 HR1.out).mono ?_
  rintro e w2 ⟨A3, n3, c3, rfl, hR, rfl⟩
  have R3 := Lib.hid hR
  clear hR
  go_wp2_with fail
  refine (CS2.out _ HR2.out).mono ?_
  rintro e w2 ⟨A4, n4, c4, rfl, hR, rfl⟩
  have R4 := Lib.hid hR
  clear hR HR1 HR2 CS1 CS2
  rename_i w1
  go_wp2_with fail
  refine (HB.out.newR _ none).mono ?_
  rintro e w3 ⟨gx, Mx, rfl, hM, hP, hX⟩
  replace W1 := Lib.hid (W1.out.trans (hX.mono W1.out.size))
  have PX := Lib.hid hP
  replace R3 := Lib.hid (R3.out.below hX)
  replace R4 := Lib.hid (R4.out.below hX)
  clear hM hP hX
  go_wp2_with fail
  refine (tnew_any 5 _ (by omega) (by omega)).mono ?_
  rintro e w4 ⟨t, rfl, ht, hT, hX⟩
  replace W1 := Lib.hid (W1.out.trans (hX.mono W1.out.size))
  replace PX := Lib.hid (HB.out.below PX.out hX)
  replace R3 := Lib.hid (R3.out.below hX)
  replace R4 := Lib.hid (R4.out.below hX)
  clear ht hT hX
  go_wp2_with fail
  refine (HB.out.newR _ _).mono ?_
  rintro e w5 ⟨gy, My, rfl, hM, hP, hX⟩
  replace W1 := Lib.hid (W1.out.trans (hX.mono W1.out.size))
  replace PX := Lib.hid (HB.out.below PX.out hX)
  have PY := Lib.hid hP
  replace R3 := Lib.hid (R3.out.below hX)
  replace R4 := Lib.hid (R4.out.below hX)
  clear hM hP hX
  go_upto_region 8 with (fail)
  refine wp_region_lit ?_
  refine move_law rfl (.tmp 0) rfl ?_
  simp only [Act.put, List.setIfInBounds_toArray, List.set_cons_zero, List.set_cons_succ]
  refine build_law rfl 34 #[(0, .tmp 28), (1, .const (.int .u8 3))] rfl kc (by simp only [List.map_toArray, List.map_cons, List.map_nil]; exact BKC.out) ?_
  simp only [Act.put, List.setIfInBounds_toArray, List.set_cons_zero, List.set_cons_succ]
  go_upto_region 9 with (first
    | ((with_reducible refine storeGen_law rfl 34 (.tmp 12) (.tmp 29) rfl w5.heap.size rfl kc rfl 34 (List.replicate 32 (.int .u8 0)) IK.out LK.out OKC.out w5.heap.size w5 ?_ ?_ (Nat.le_refl _) ?_)
       · exact Blk.at_new _ _ 34 _ _ (by rfl) rfl
       · exact (Below.refl _ _).alloc (Nat.le_refl _) _
       intro w6 BLK XK))
  obtain ⟨gk, hgk⟩ : ∃ g, g = w5.heap.size := ⟨_, rfl⟩
  rw [← hgk] at BLK
  rw [← hgk]
  have hgk6 : w5.heap.size ≤ gk := by omega
  have hgk7 : gk < w6.heap.size := BLK.out.lt
  have hsK := XK.out.size
  have KB := Lib.hid BLK.out
  clear hgk BLK
  replace W1 := Lib.hid (W1.out.trans (XK.out.mono W1.out.size))
  replace PX := Lib.hid (HB.out.below PX.out XK.out)
  replace PY := Lib.hid (HB.out.below PY.out XK.out)
  replace R3 := Lib.hid (R3.out.below XK.out)
  replace R4 := Lib.hid (R4.out.below XK.out)
  clear XK
  go_wp2_with (first | (with_reducible refine load_law rfl 34 (.tmp 12) rfl gk 0 rfl kc _ Tryd.underlying34 rfl IK.out KB.out.cells ?_))
  refine (CSE.out w6 gx Mx _ _ _ _ _ _ (HG.out.below W1.out hsz) PX.out R3.out R4.out).mono ?_
  rintro e w7 ⟨A5, c5, rfl, hR, hX, hF⟩
  rw [LC.out] at *
  have RC := Lib.hid hR
  replace W1 := Lib.hid (W1.out.trans (hX.mono W1.out.size))
  replace PX := Lib.hid (HB.out.below PX.out hX)
  replace PY := Lib.hid (HB.out.below PY.out hX)
  replace R3 := Lib.hid (R3.out.below hX)
  replace R4 := Lib.hid (R4.out.below hX)
  replace KB := Lib.hid (KB.out.below hX KB.out.lt)
  clear hR hX hF
  go_wp2_with (first | (with_reducible refine load_law rfl 34 (.tmp 12) rfl gk 0 rfl kc _ Tryd.underlying34 rfl IK.out KB.out.cells ?_))
  refine (COP.out w7 gy My _ _ _ _ _ (HG.out.below W1.out hsz) PY.out R3.out RC.out).mono ?_
  rintro e w8 ⟨A6, n6, c6, rfl, hR, hX, hF⟩
  have RO := Lib.hid hR.drew
  replace hX := hX.drew
  replace W1 := Lib.hid (W1.out.trans (hX.mono W1.out.size))
  replace PX := Lib.hid (HB.out.below PX.out hX)
  replace PY := Lib.hid (HB.out.below PY.out hX)
  replace R3 := Lib.hid (R3.out.below hX)
  replace R4 := Lib.hid (R4.out.below hX)
  replace RC := Lib.hid (RC.out.below hX)
  replace KB := Lib.hid (KB.out.below hX KB.out.lt)
  clear hR hX hF COP
  go_upto_region 11 with (fail)
  refine wp_region_any (by kernel_rfl) ?_
  change wpAny _ _ _ _ _ _ _ (World.drew _)
  generalize w8.drew = w9 at *
  refine wpAny_take (i := 0) (oi := ?oi1) (v := .bool true) ?hi1 (by kernel_rfl) (by kernel_rfl) (by kernel_rfl) ?hQ1 ?hy1 ?rest1
  case hi1 => simp only [List.getElem?_toArray, List.getElem?_cons_succ, List.getElem?_cons_zero]; rfl
  case hQ1 => exact fun _ _ _ h => h
  case hy1 => exact Or.inl ⟨by rfl, by intro w; go_simp⟩
  try simp only [Act.put, List.setIfInBounds_toArray, List.set_cons_zero, List.set_cons_succ]
  refine wpAny_take (i := 1) (oi := ?oi2) (v := .bool true) ?hi2 (by kernel_rfl) (by kernel_rfl) (by kernel_rfl) ?hQ2 ?hy2 ?rest2
  case hi2 => simp only [List.getElem?_toArray, List.getElem?_cons_succ, List.getElem?_cons_zero]; rfl
  case hQ2 => exact fun _ _ _ h => h
  case hy2 => exact Or.inl ⟨by rfl, by intro w; go_simp⟩
  try simp only [Act.put, List.setIfInBounds_toArray, List.set_cons_zero, List.set_cons_succ]
  refine wpAny_take (i := 2) (oi := ?oi3) (v := .slice A6 n6 c6) ?hi3 (by kernel_rfl) (by kernel_rfl) (by kernel_rfl) ?hQ3 ?hy3 ?rest3
  case hi3 => simp only [List.getElem?_toArray, List.getElem?_cons_succ, List.getElem?_cons_zero]; rfl
  case hQ3 => exact fun _ _ _ h => h
  case hy3 => exact Or.inl ⟨by rfl, by intro w; go_simp⟩
  try simp only [Act.put, List.setIfInBounds_toArray, List.set_cons_zero, List.set_cons_succ]
  refine wpAny_take (i := 4) (oi := ?oi4) (v := .slice A4 n4 c4) ?hi4 (by kernel_rfl) (by kernel_rfl) (by kernel_rfl) ?hQ4 ?hy4 ?rest4
  case hi4 => simp only [List.getElem?_toArray, List.getElem?_cons_succ, List.getElem?_cons_zero]; rfl
  case hQ4 => exact fun _ _ _ h => h
  case hy4 => exact Or.inl ⟨by rfl, by intro w; go_simp⟩
  try simp only [Act.put, List.setIfInBounds_toArray, List.set_cons_zero, List.set_cons_succ]
  refine phaseL (fun i => []) (fun d a w' => ∃ x48 x50 : Value, a = { tmps := #[.int .u8 (x.toNat : Int), .int .i64 n, .slice A3 n3 c3, .slice A4 n4 c4, undef, undef, undef, undef, .bool false, .bool true, .pointer (some ⟨gx, 0, none⟩), .pointer (some ⟨gy, 0, none⟩), .pointer (some ⟨gk, 0, none⟩), .slice A5 nc c5, .slice A6 n6 c6, .bool true, .bool true, .bool true, .bool false, .slice A1 n1 c1, .slice A3 n3 c3, .slice A2 n2 c2, .slice A4 n4 c4, .int .i64 n, .bool false, .pointer (some ⟨gx, 0, none⟩), .pointer (some ⟨t, 0, none⟩), .pointer (some ⟨gy, 0, none⟩), .int .u8 (x.toNat : Int), .agg kc.toArray, .pointer (some ⟨gx, 0, none⟩), .agg kc.toArray, .int .i64 n, .slice A3 n3 c3, .slice A4 n4 c4, .slice A5 nc c5, .tuple #[.slice A6 n6 c6, .bool true], .pointer (some ⟨gy, 0, none⟩), .agg kc.toArray, .int .i64 n, .slice A3 n3 c3, .slice A5 nc c5, .tuple #[.slice A6 n6 c6, .bool true], .slice A6 n6 c6, .bool true, .bool true, .bool true, .slice A6 n6 c6, x48, .slice A4 n4 c4, x50, undef, undef, undef, undef, undef, undef, undef, undef, undef, undef, undef, undef, undef, undef, undef, undef, undef, undef, undef, undef, undef, undef, undef, undef, undef, undef, undef, undef, undef, undef, undef, undef, undef, undef, undef, undef, undef, undef, undef, undef, undef, undef, undef, undef, undef, undef, undef, undef], defers := [] } ∧ Hid (Below w9.heap.size w9 w') ∧ (d 3 = true → x48 = .string ⟨bb.toArray⟩) ∧ (d 5 = true → x50 = .string ⟨bb.toArray⟩)) [3, 5] ?step5 49 2 [3, 5] _ _ _ rfl (by decide) (fun _ h => h) (Fits.of (by kernel_rfl)) ?init5 ?fin5
  case init5 => refine ⟨_, _, rfl, Below.refl _ _, ?_, ?_⟩ <;> (intro h; exact absurd h (by decide))
  case step5 =>
    intro i hi d a v5 hI hdi hdeps
    obtain ⟨x48, x50, rfl, BW, h3, h5⟩ := hI
    have hsw := BW.out.size
    simp only [List.mem_cons, List.not_mem_nil, or_false] at hi
    rcases hi with rfl | rfl
    · have hcv := conv_bytes (RO.out.below BW.out)
      refine wpOp_step (o := ?os6) ?hos6 (fun K hK => ?_)
      case hos6 => simp only [List.getElem?_toArray, List.getElem?_cons_succ, List.getElem?_cons_zero]; rfl
      go_simp
      refine hK _ _ ?_
      clear hK K
      try simp only [Act.put, List.setIfInBounds_toArray, List.set_cons_zero, List.set_cons_succ]
      exact ⟨_, _, rfl, BW, fun _ => rfl, fun a => by first | exact h5 (by simpa using a) | rfl⟩
    · have hcv := conv_bytes (R4.out.below BW.out)
      refine wpOp_step (o := ?os7) ?hos7 (fun K hK => ?_)
      case hos7 => simp only [List.getElem?_toArray, List.getElem?_cons_succ, List.getElem?_cons_zero]; rfl
      go_simp
      refine hK _ _ ?_
      clear hK K
      try simp only [Act.put, List.setIfInBounds_toArray, List.set_cons_zero, List.set_cons_succ]
      exact ⟨_, _, rfl, BW, fun a => by first | exact h3 (by simpa using a) | rfl, fun _ => rfl⟩
  case fin5 =>
    intro a v5 hI
    obtain ⟨x48, x50, rfl, BW, h3, h5⟩ := hI
    obtain rfl := h3 (by decide)
    obtain rfl := h5 (by decide)
    have hss := str_same bb
    replace W1 := Lib.hid (W1.out.trans (BW.out.mono W1.out.size))
    replace PX := Lib.hid (HB.out.below PX.out BW.out)
    replace PY := Lib.hid (HB.out.below PY.out BW.out)
    replace R3 := Lib.hid (R3.out.below BW.out)
    replace R4 := Lib.hid (R4.out.below BW.out)
    replace RC := Lib.hid (RC.out.below BW.out)
    replace KB := Lib.hid (KB.out.below BW.out KB.out.lt)
    clear h3 h5 BW RO
    try dsimp only
    refine wpAny_take (i := 6) (oi := ?oi8) (v := .bool true) ?hi8 (by kernel_rfl) (by kernel_rfl) (by kernel_rfl) ?hQ8 ?hy8 ?rest8
    case hi8 => simp only [List.getElem?_toArray, List.getElem?_cons_succ, List.getElem?_cons_zero]; rfl
    case hQ8 => exact fun _ _ _ h => h
    case hy8 => exact Or.inl ⟨by rfl, by intro w; go_simp⟩
    try simp only [Act.put, List.setIfInBounds_toArray, List.set_cons_zero, List.set_cons_succ]
    refine wpAny_take (i := 7) (oi := ?oi9) (v := .bool true) ?hi9 (by kernel_rfl) (by kernel_rfl) (by kernel_rfl) ?hQ9 ?hy9 ?rest9
    case hi9 => simp only [List.getElem?_toArray, List.getElem?_cons_succ, List.getElem?_cons_zero]; rfl
    case hQ9 => exact fun _ _ _ h => h
    case hy9 => exact Or.inl ⟨by rfl, by intro w; go_simp⟩
    try simp only [Act.put, List.setIfInBounds_toArray, List.set_cons_zero, List.set_cons_succ]
    refine wpAny_take (i := 8) (oi := ?oi10) (v := .bool true) ?hi10 (by kernel_rfl) (by kernel_rfl) (by kernel_rfl) ?hQ10 ?hy10 ?rest10
    case hi10 => simp only [List.getElem?_toArray, List.getElem?_cons_succ, List.getElem?_cons_zero]; rfl
    case hQ10 => exact fun _ _ _ h => h
    case hy10 => exact Or.inl ⟨by rfl, by intro w; go_simp⟩
    try simp only [Act.put, List.setIfInBounds_toArray, List.set_cons_zero, List.set_cons_succ]
    refine wpAny_take (i := 9) (oi := ?oi11) (v := .pointer (some ⟨gy, 0, none⟩)) ?hi11 (by kernel_rfl) (by kernel_rfl) (by kernel_rfl) ?hQ11 ?hy11 ?rest11
    case hi11 => simp only [List.getElem?_toArray, List.getElem?_cons_succ, List.getElem?_cons_zero]; rfl
    case hQ11 => exact fun _ _ _ h => h
    case hy11 => exact Or.inl ⟨by rfl, by intro w; go_simp⟩
    try simp only [Act.put, List.setIfInBounds_toArray, List.set_cons_zero, List.set_cons_succ]
    refine wpAny_take (i := 11) (oi := ?oi12) (v := .int .i64 n) ?hi12 (by kernel_rfl) (by kernel_rfl) (by kernel_rfl) ?hQ12 ?hy12 ?rest12
    case hi12 => simp only [List.getElem?_toArray, List.getElem?_cons_succ, List.getElem?_cons_zero]; rfl
    case hQ12 => exact fun _ _ _ h => h
    case hy12 => exact Or.inl ⟨by rfl, by intro w; go_simp⟩
    try simp only [Act.put, List.setIfInBounds_toArray, List.set_cons_zero, List.set_cons_succ]
    refine wpAny_take (i := 12) (oi := ?oi13) (v := .slice A3 n3 c3) ?hi13 (by kernel_rfl) (by kernel_rfl) (by kernel_rfl) ?hQ13 ?hy13 ?rest13
    case hi13 => simp only [List.getElem?_toArray, List.getElem?_cons_succ, List.getElem?_cons_zero]; rfl
    case hQ13 => exact fun _ _ _ h => h
    case hy13 => exact Or.inl ⟨by rfl, by intro w; go_simp⟩
    try simp only [Act.put, List.setIfInBounds_toArray, List.set_cons_zero, List.set_cons_succ]
    refine wpAny_take (i := 13) (oi := ?oi14) (v := .slice A4 n4 c4) ?hi14 (by kernel_rfl) (by kernel_rfl) (by kernel_rfl) ?hQ14 ?hy14 ?rest14
    case hi14 => simp only [List.getElem?_toArray, List.getElem?_cons_succ, List.getElem?_cons_zero]; rfl
    case hQ14 => exact fun _ _ _ h => h
    case hy14 => exact Or.inl ⟨by rfl, by intro w; go_simp⟩
    try simp only [Act.put, List.setIfInBounds_toArray, List.set_cons_zero, List.set_cons_succ]
    refine wpAny_take (i := 16) (oi := ?oi15) (v := .slice A5 nc c5) ?hi15 (by kernel_rfl) (by kernel_rfl) (by kernel_rfl) ?hQ15 ?hy15 ?rest15
    case hi15 => simp only [List.getElem?_toArray, List.getElem?_cons_succ, List.getElem?_cons_zero]; rfl
    case hQ15 => exact fun _ _ _ h => h
    case hy15 => exact Or.inl ⟨by rfl, by intro w; go_simp⟩
    try simp only [Act.put, List.setIfInBounds_toArray, List.set_cons_zero, List.set_cons_succ]
    clear hss
    refine phaseL (fun i => if i = 14 then [10] else if i = 15 then [14] else []) (fun d a w' => ∃ x55 x59 x60 x62 : Value, a = { tmps := #[.int .u8 (x.toNat : Int), .int .i64 n, .slice A3 n3 c3, .slice A4 n4 c4, undef, undef, undef, undef, .bool false, .bool true, .pointer (some ⟨gx, 0, none⟩), .pointer (some ⟨gy, 0, none⟩), .pointer (some ⟨gk, 0, none⟩), .slice A5 nc c5, .slice A6 n6 c6, .bool true, .bool true, .bool true, .bool false, .slice A1 n1 c1, .slice A3 n3 c3, .slice A2 n2 c2, .slice A4 n4 c4, .int .i64 n, .bool false, .pointer (some ⟨gx, 0, none⟩), .pointer (some ⟨t, 0, none⟩), .pointer (some ⟨gy, 0, none⟩), .int .u8 (x.toNat : Int), .agg kc.toArray, .pointer (some ⟨gx, 0, none⟩), .agg kc.toArray, .int .i64 n, .slice A3 n3 c3, .slice A4 n4 c4, .slice A5 nc c5, .tuple #[.slice A6 n6 c6, .bool true], .pointer (some ⟨gy, 0, none⟩), .agg kc.toArray, .int .i64 n, .slice A3 n3 c3, .slice A5 nc c5, .tuple #[.slice A6 n6 c6, .bool true], .slice A6 n6 c6, .bool true, .bool true, .bool true, .slice A6 n6 c6, .string ⟨bb.toArray⟩, .slice A4 n4 c4, .string ⟨bb.toArray⟩, .bool true, .bool true, .bool true, .pointer (some ⟨gy, 0, none⟩), x55, .int .i64 n, .slice A3 n3 c3, .slice A4 n4 c4, x59, x60, .slice A5 nc c5, x62, undef, undef, undef, undef, undef, undef, undef, undef, undef, undef, undef, undef, undef, undef, undef, undef, undef, undef, undef, undef, undef, undef, undef, undef, undef, undef, undef, undef, undef, undef, undef, undef, undef, undef, undef, undef], defers := [] } ∧ Hid (Below v5.heap.size v5 w') ∧ (d 10 = true → x55 = .agg kc.toArray) ∧ (d 14 = true → Hid (Nw w' v5.heap.size x59 lc)) ∧ (d 15 = true → x60 = .string ⟨lc.toArray⟩) ∧ (d 17 = true → x62 = .string ⟨lc.toArray⟩)) [10, 14, 15, 17] ?step16 37 4 [10, 14, 15, 17] _ _ _ rfl (by decide) (fun _ h => h) (Fits.of (by kernel_rfl)) ?init16 ?fin16
    case init16 => refine ⟨_, _, _, _, rfl, Below.refl _ _, ?_, ?_, ?_, ?_⟩ <;> (intro h; exact absurd h (by decide))
    case step16 =>
      intro i hi d a v16 hI hdi hdeps
      obtain ⟨x55, x59, x60, x62, rfl, BW, h10, h14, h15, h17⟩ := hI
      have hsw := BW.out.size
      simp only [List.mem_cons, List.not_mem_nil, or_false] at hi
      rcases hi with rfl | rfl | rfl | rfl
      · refine wpOp_step (o := ?os17) ?hos17 (fun K hK => ?_)
        case hos17 => simp only [List.getElem?_toArray, List.getElem?_cons_succ, List.getElem?_cons_zero]; rfl
        refine step_loadW rfl 34 (.tmp 12) rfl gk 0 rfl kc _ Tryd.underlying34 rfl IK.out (KB.out.below BW.out KB.out.lt).cells (hK _ _ ?_)
        clear hK K
        try simp only [Act.put, List.setIfInBounds_toArray, List.set_cons_zero, List.set_cons_succ]
        exact ⟨_, _, _, _, rfl, BW, fun _ => rfl, fun a => h14 (by simpa using a), fun a => by first | exact h15 (by simpa using a) | rfl, fun a => by first | exact h17 (by simpa using a) | rfl⟩
      · obtain rfl := h10 (hdeps 10 (by simp))
        refine wpOp_step (o := ?os18) ?hos18 (fun K hK => ?_)
        case hos18 => simp only [List.getElem?_toArray, List.getElem?_cons_succ, List.getElem?_cons_zero]; rfl
        go_simp
        refine (CSE.out v16 gy My _ _ _ _ _ _ (HG.out.below (W1.out.trans (BW.out.mono W1.out.size)) hsz) (HB.out.below PY.out BW.out) (R3.out.below BW.out) (R4.out.below BW.out)).mono ?_
        rintro e u16 ⟨AX, cX, rfl, hR, hX, hF⟩
        refine hK _ _ ?_
        clear hK K
        try simp only [Act.put, List.setIfInBounds_toArray, List.set_cons_zero, List.set_cons_succ]
        exact ⟨_, _, _, _, rfl, BW.out.trans (hX.mono hsw), fun a => by first | exact h10 (by simpa using a) | rfl, fun _ => Nw.of hR hF hsw, fun a => by first | exact h15 (by simpa using a) | rfl, fun a => by first | exact h17 (by simpa using a) | rfl⟩
      · obtain ⟨AY, cY, rfl, hRY, hFY⟩ := (h14 (hdeps 14 (by simp))).out
        have hcv := conv_bytes hRY
        refine wpOp_step (o := ?os19) ?hos19 (fun K hK => ?_)
        case hos19 => simp only [List.getElem?_toArray, List.getElem?_cons_succ, List.getElem?_cons_zero]; rfl
        go_simp
        refine hK _ _ ?_
        clear hK K
        try simp only [Act.put, List.setIfInBounds_toArray, List.set_cons_zero, List.set_cons_succ]
        exact ⟨_, _, _, _, rfl, BW, fun a => by first | exact h10 (by simpa using a) | rfl, fun a => h14 (by simpa using a), fun _ => rfl, fun a => by first | exact h17 (by simpa using a) | rfl⟩
      · have hcv := conv_bytes (RC.out.below BW.out)
        refine wpOp_step (o := ?os20) ?hos20 (fun K hK => ?_)
        case hos20 => simp only [List.getElem?_toArray, List.getElem?_cons_succ, List.getElem?_cons_zero]; rfl
        go_simp
        refine hK _ _ ?_
        clear hK K
        try simp only [Act.put, List.setIfInBounds_toArray, List.set_cons_zero, List.set_cons_succ]
        exact ⟨_, _, _, _, rfl, BW, fun a => by first | exact h10 (by simpa using a) | rfl, fun a => h14 (by simpa using a), fun a => by first | exact h15 (by simpa using a) | rfl, fun _ => rfl⟩
    case fin16 =>
      intro a v16 hI
      obtain ⟨x55, x59, x60, x62, rfl, BW, h10, h14, h15, h17⟩ := hI
      obtain rfl := h10 (by decide)
      obtain rfl := h15 (by decide)
      obtain rfl := h17 (by decide)
      obtain ⟨A7, c7, rfl, _, _⟩ := (h14 (by decide)).out
      have hss := str_same lc
      replace W1 := Lib.hid (W1.out.trans (BW.out.mono W1.out.size))
      replace PX := Lib.hid (HB.out.below PX.out BW.out)
      replace PY := Lib.hid (HB.out.below PY.out BW.out)
      replace R3 := Lib.hid (R3.out.below BW.out)
      replace R4 := Lib.hid (R4.out.below BW.out)
      replace KB := Lib.hid (KB.out.below BW.out KB.out.lt)
      clear h10 h14 h15 h17 BW RC CSE
      try dsimp only
      refine wpAny_take (i := 18) (oi := ?oi21) (v := .bool true) ?hi21 (by kernel_rfl) (by kernel_rfl) (by kernel_rfl) ?hQ21 ?hy21 ?rest21
      case hi21 => simp only [List.getElem?_toArray, List.getElem?_cons_succ, List.getElem?_cons_zero]; rfl
      case hQ21 => exact fun _ _ _ h => h
      case hy21 => exact Or.inl ⟨by rfl, by intro w; go_simp⟩
      try simp only [Act.put, List.setIfInBounds_toArray, List.set_cons_zero, List.set_cons_succ]
      refine wpAny_take (i := 19) (oi := ?oi22) (v := .bool true) ?hi22 (by kernel_rfl) (by kernel_rfl) (by kernel_rfl) ?hQ22 ?hy22 ?rest22
      case hi22 => simp only [List.getElem?_toArray, List.getElem?_cons_succ, List.getElem?_cons_zero]; rfl
      case hQ22 => exact fun _ _ _ h => h
      case hy22 => exact Or.inl ⟨by rfl, by intro w; go_simp⟩
      try simp only [Act.put, List.setIfInBounds_toArray, List.set_cons_zero, List.set_cons_succ]
      refine wpAny_take (i := 20) (oi := ?oi23) (v := .bool true) ?hi23 (by kernel_rfl) (by kernel_rfl) (by kernel_rfl) ?hQ23 ?hy23 ?rest23
      case hi23 => simp only [List.getElem?_toArray, List.getElem?_cons_succ, List.getElem?_cons_zero]; rfl
      case hQ23 => exact fun _ _ _ h => h
      case hy23 => exact Or.inl ⟨by rfl, by intro w; go_simp⟩
      try simp only [Act.put, List.setIfInBounds_toArray, List.set_cons_zero, List.set_cons_succ]
      refine wpAny_take (i := 21) (oi := ?oi24) (v := .pointer (some ⟨gx, 0, none⟩)) ?hi24 (by kernel_rfl) (by kernel_rfl) (by kernel_rfl) ?hQ24 ?hy24 ?rest24
      case hi24 => simp only [List.getElem?_toArray, List.getElem?_cons_succ, List.getElem?_cons_zero]; rfl
      case hQ24 => exact fun _ _ _ h => h
      case hy24 => exact Or.inl ⟨by rfl, by intro w; go_simp⟩
      try simp only [Act.put, List.setIfInBounds_toArray, List.set_cons_zero, List.set_cons_succ]
      refine wpAny_take (i := 23) (oi := ?oi25) (v := .slice A4 n4 c4) ?hi25 (by kernel_rfl) (by kernel_rfl) (by kernel_rfl) ?hQ25 ?hy25 ?rest25
      case hi25 => simp only [List.getElem?_toArray, List.getElem?_cons_succ, List.getElem?_cons_zero]; rfl
      case hQ25 => exact fun _ _ _ h => h
      case hy25 => exact Or.inl ⟨by rfl, by intro w; go_simp⟩
      try simp only [Act.put, List.setIfInBounds_toArray, List.set_cons_zero, List.set_cons_succ]
      refine wpAny_take (i := 25) (oi := ?oi26) (v := .pointer (some ⟨gy, 0, none⟩)) ?hi26 (by kernel_rfl) (by kernel_rfl) (by kernel_rfl) ?hQ26 ?hy26 ?rest26
      case hi26 => simp only [List.getElem?_toArray, List.getElem?_cons_succ, List.getElem?_cons_zero]; rfl
      case hQ26 => exact fun _ _ _ h => h
      case hy26 => exact Or.inl ⟨by rfl, by intro w; go_simp⟩
      try simp only [Act.put, List.setIfInBounds_toArray, List.set_cons_zero, List.set_cons_succ]
      refine wpAny_take (i := 27) (oi := ?oi27) (v := .slice A4 n4 c4) ?hi27 (by kernel_rfl) (by kernel_rfl) (by kernel_rfl) ?hQ27 ?hy27 ?rest27
      case hi27 => simp only [List.getElem?_toArray, List.getElem?_cons_succ, List.getElem?_cons_zero]; rfl
      case hQ27 => exact fun _ _ _ h => h
      case hy27 => exact Or.inl ⟨by rfl, by intro w; go_simp⟩
      try simp only [Act.put, List.setIfInBounds_toArray, List.set_cons_zero, List.set_cons_succ]
      clear hss
      refine phaseL (fun i => if i = 24 then [22] else if i = 28 then [26, 24] else []) (fun d a w' => ∃ x67 x69 x71 x73 : Value, a = { tmps := #[.int .u8 (x.toNat : Int), .int .i64 n, .slice A3 n3 c3, .slice A4 n4 c4, undef, undef, undef, undef, .bool false, .bool true, .pointer (some ⟨gx, 0, none⟩), .pointer (some ⟨gy, 0, none⟩), .pointer (some ⟨gk, 0, none⟩), .slice A5 nc c5, .slice A6 n6 c6, .bool true, .bool true, .bool true, .bool false, .slice A1 n1 c1, .slice A3 n3 c3, .slice A2 n2 c2, .slice A4 n4 c4, .int .i64 n, .bool false, .pointer (some ⟨gx, 0, none⟩), .pointer (some ⟨t, 0, none⟩), .pointer (some ⟨gy, 0, none⟩), .int .u8 (x.toNat : Int), .agg kc.toArray, .pointer (some ⟨gx, 0, none⟩), .agg kc.toArray, .int .i64 n, .slice A3 n3 c3, .slice A4 n4 c4, .slice A5 nc c5, .tuple #[.slice A6 n6 c6, .bool true], .pointer (some ⟨gy, 0, none⟩), .agg kc.toArray, .int .i64 n, .slice A3 n3 c3, .slice A5 nc c5, .tuple #[.slice A6 n6 c6, .bool true], .slice A6 n6 c6, .bool true, .bool true, .bool true, .slice A6 n6 c6, .string ⟨bb.toArray⟩, .slice A4 n4 c4, .string ⟨bb.toArray⟩, .bool true, .bool true, .bool true, .pointer (some ⟨gy, 0, none⟩), .agg kc.toArray, .int .i64 n, .slice A3 n3 c3, .slice A4 n4 c4, .slice A7 lc.length c7, .string ⟨lc.toArray⟩, .slice A5 nc c5, .string ⟨lc.toArray⟩, .bool true, .bool true, .bool true, .pointer (some ⟨gx, 0, none⟩), x67, .slice A4 n4 c4, x69, .pointer (some ⟨gy, 0, none⟩), x71, .slice A4 n4 c4, x73, undef, undef, undef, undef, undef, undef, undef, undef, undef, undef, undef, undef, undef, undef, undef, undef, undef, undef, undef, undef, undef, undef, undef, undef, undef], defers := [] } ∧ Hid (Below v16.heap.size v16 w') ∧ (d 22 = true → x67 = .agg kc.toArray) ∧ (d 24 = true → x69 = .agg mc.toArray) ∧ (d 26 = true → x71 = .agg kc.toArray) ∧ (d 28 = true → x73 = .agg mc.toArray)) [22, 24, 26, 28] ?step28 26 4 [22, 24, 26, 28] _ _ _ rfl (by decide) (fun _ h => h) (Fits.of (by kernel_rfl)) ?init28 ?fin28
      case init28 => refine ⟨_, _, _, _, rfl, Below.refl _ _, ?_, ?_, ?_, ?_⟩ <;> (intro h; exact absurd h (by decide))
      case step28 =>
        intro i hi d a v28 hI hdi hdeps
        obtain ⟨x67, x69, x71, x73, rfl, BW, h22, h24, h26, h28⟩ := hI
        have hsw := BW.out.size
        simp only [List.mem_cons, List.not_mem_nil, or_false] at hi
        rcases hi with rfl | rfl | rfl | rfl
        · refine wpOp_step (o := ?os29) ?hos29 (fun K hK => ?_)
          case hos29 => simp only [List.getElem?_toArray, List.getElem?_cons_succ, List.getElem?_cons_zero]; rfl
          refine step_loadW rfl 34 (.tmp 12) rfl gk 0 rfl kc _ Tryd.underlying34 rfl IK.out (KB.out.below BW.out KB.out.lt).cells (hK _ _ ?_)
          clear hK K
          try simp only [Act.put, List.setIfInBounds_toArray, List.set_cons_zero, List.set_cons_succ]
          exact ⟨_, _, _, _, rfl, BW, fun _ => rfl, fun a => by first | exact h24 (by simpa using a) | rfl, fun a => by first | exact h26 (by simpa using a) | rfl, fun a => by first | exact h28 (by simpa using a) | rfl⟩
        · obtain rfl := h22 (hdeps 22 (by simp))
          refine wpOp_step (o := ?os30) ?hos30 (fun K hK => ?_)
          case hos30 => simp only [List.getElem?_toArray, List.getElem?_cons_succ, List.getElem?_cons_zero]; rfl
          go_simp
          refine (CMK.out v28 gx Mx _ _ _ (HG.out.below (W1.out.trans (BW.out.mono W1.out.size)) hsz) (HB.out.below PX.out BW.out) (R4.out.below BW.out)).mono ?_
          rintro e u28 ⟨rfl, hX⟩
          refine hK _ _ ?_
          clear hK K
          try simp only [Act.put, List.setIfInBounds_toArray, List.set_cons_zero, List.set_cons_succ]
          exact ⟨_, _, _, _, rfl, BW.out.trans (hX.mono hsw), fun a => by first | exact h22 (by simpa using a) | rfl, fun _ => rfl, fun a => by first | exact h26 (by simpa using a) | rfl, fun a => by first | exact h28 (by simpa using a) | rfl⟩
        · refine wpOp_step (o := ?os31) ?hos31 (fun K hK => ?_)
          case hos31 => simp only [List.getElem?_toArray, List.getElem?_cons_succ, List.getElem?_cons_zero]; rfl
          refine step_loadW rfl 34 (.tmp 12) rfl gk 0 rfl kc _ Tryd.underlying34 rfl IK.out (KB.out.below BW.out KB.out.lt).cells (hK _ _ ?_)
          clear hK K
          try simp only [Act.put, List.setIfInBounds_toArray, List.set_cons_zero, List.set_cons_succ]
          exact ⟨_, _, _, _, rfl, BW, fun a => by first | exact h22 (by simpa using a) | rfl, fun a => by first | exact h24 (by simpa using a) | rfl, fun _ => rfl, fun a => by first | exact h28 (by simpa using a) | rfl⟩
        · obtain rfl := h26 (hdeps 26 (by simp))
          refine wpOp_step (o := ?os32) ?hos32 (fun K hK => ?_)
          case hos32 => simp only [List.getElem?_toArray, List.getElem?_cons_succ, List.getElem?_cons_zero]; rfl
          go_simp
          refine (CMK.out v28 gy My _ _ _ (HG.out.below (W1.out.trans (BW.out.mono W1.out.size)) hsz) (HB.out.below PY.out BW.out) (R4.out.below BW.out)).mono ?_
          rintro e u28 ⟨rfl, hX⟩
          refine hK _ _ ?_
          clear hK K
          try simp only [Act.put, List.setIfInBounds_toArray, List.set_cons_zero, List.set_cons_succ]
          exact ⟨_, _, _, _, rfl, BW.out.trans (hX.mono hsw), fun a => by first | exact h22 (by simpa using a) | rfl, fun a => by first | exact h24 (by simpa using a) | rfl, fun a => by first | exact h26 (by simpa using a) | rfl, fun _ => rfl⟩
      case fin28 =>
        intro a v28 hI
        obtain ⟨x67, x69, x71, x73, rfl, BW, h22, h24, h26, h28⟩ := hI
        obtain rfl := h22 (by decide)
        obtain rfl := h24 (by decide)
        obtain rfl := h26 (by decide)
        obtain rfl := h28 (by decide)
        have hee := EM.out
        replace W1 := Lib.hid (W1.out.trans (BW.out.mono W1.out.size))
        replace PX := Lib.hid (HB.out.below PX.out BW.out)
        replace PY := Lib.hid (HB.out.below PY.out BW.out)
        replace R3 := Lib.hid (R3.out.below BW.out)
        replace R4 := Lib.hid (R4.out.below BW.out)
        replace KB := Lib.hid (KB.out.below BW.out KB.out.lt)
        clear h22 h24 h26 h28 BW
        try dsimp only
        refine wpAny_take (i := 29) (oi := ?oi33) (v := .bool true) ?hi33 (by kernel_rfl) (by kernel_rfl) (by kernel_rfl) ?hQ33 ?hy33 ?rest33
        case hi33 => simp only [List.getElem?_toArray, List.getElem?_cons_succ, List.getElem?_cons_zero]; rfl
        case hQ33 => exact fun _ _ _ h => h
        case hy33 => exact Or.inl ⟨by rfl, by intro w; go_simp⟩
        try simp only [Act.put, List.setIfInBounds_toArray, List.set_cons_zero, List.set_cons_succ]
        refine wpAny_take (i := 30) (oi := ?oi34) (v := .bool true) ?hi34 (by kernel_rfl) (by kernel_rfl) (by kernel_rfl) ?hQ34 ?hy34 ?rest34
        case hi34 => simp only [List.getElem?_toArray, List.getElem?_cons_succ, List.getElem?_cons_zero]; rfl
        case hQ34 => exact fun _ _ _ h => h
        case hy34 => exact Or.inl ⟨by rfl, by intro w; go_simp⟩
        try simp only [Act.put, List.setIfInBounds_toArray, List.set_cons_zero, List.set_cons_succ]
        refine wpAny_take (i := 31) (oi := ?oi35) (v := .bool true) ?hi35 (by kernel_rfl) (by kernel_rfl) (by kernel_rfl) ?hQ35 ?hy35 ?rest35
        case hi35 => simp only [List.getElem?_toArray, List.getElem?_cons_succ, List.getElem?_cons_zero]; rfl
        case hQ35 => exact fun _ _ _ h => h
        case hy35 => exact Or.inl ⟨by rfl, by intro w; go_simp⟩
        try simp only [Act.put, List.setIfInBounds_toArray, List.set_cons_zero, List.set_cons_succ]
        refine wpAny_take (i := 32) (oi := ?oi36) (v := .pointer (some ⟨gy, 0, none⟩)) ?hi36 (by kernel_rfl) (by kernel_rfl) (by kernel_rfl) ?hQ36 ?hy36 ?rest36
        case hi36 => simp only [List.getElem?_toArray, List.getElem?_cons_succ, List.getElem?_cons_zero]; rfl
        case hQ36 => exact fun _ _ _ h => h
        case hy36 => exact Or.inl ⟨by rfl, by intro w; go_simp⟩
        try simp only [Act.put, List.setIfInBounds_toArray, List.set_cons_zero, List.set_cons_succ]
        refine wpAny_take (i := 34) (oi := ?oi37) (v := .slice A4 n4 c4) ?hi37 (by kernel_rfl) (by kernel_rfl) (by kernel_rfl) ?hQ37 ?hy37 ?rest37
        case hi37 => simp only [List.getElem?_toArray, List.getElem?_cons_succ, List.getElem?_cons_zero]; rfl
        case hQ37 => exact fun _ _ _ h => h
        case hy37 => exact Or.inl ⟨by rfl, by intro w; go_simp⟩
        try simp only [Act.put, List.setIfInBounds_toArray, List.set_cons_zero, List.set_cons_succ]
        refine wpAny_take (i := 35) (oi := ?oi38) (v := .pointer (some ⟨gx, 0, none⟩)) ?hi38 (by kernel_rfl) (by kernel_rfl) (by kernel_rfl) ?hQ38 ?hy38 ?rest38
        case hi38 => simp only [List.getElem?_toArray, List.getElem?_cons_succ, List.getElem?_cons_zero]; rfl
        case hQ38 => exact fun _ _ _ h => h
        case hy38 => exact Or.inl ⟨by rfl, by intro w; go_simp⟩
        try simp only [Act.put, List.setIfInBounds_toArray, List.set_cons_zero, List.set_cons_succ]
        refine wpAny_take (i := 37) (oi := ?oi39) (v := .slice A4 n4 c4) ?hi39 (by kernel_rfl) (by kernel_rfl) (by kernel_rfl) ?hQ39 ?hy39 ?rest39
        case hi39 => simp only [List.getElem?_toArray, List.getElem?_cons_succ, List.getElem?_cons_zero]; rfl
        case hQ39 => exact fun _ _ _ h => h
        case hy39 => exact Or.inl ⟨by rfl, by intro w; go_simp⟩
        try simp only [Act.put, List.setIfInBounds_toArray, List.set_cons_zero, List.set_cons_succ]
        clear hee
        refine phaseL (fun i => if i = 38 then [36] else if i = 39 then [33, 38] else []) (fun d a w' => ∃ x78 x81 x83 x84 : Value, a = { tmps := #[.int .u8 (x.toNat : Int), .int .i64 n, .slice A3 n3 c3, .slice A4 n4 c4, undef, undef, undef, undef, .bool false, .bool true, .pointer (some ⟨gx, 0, none⟩), .pointer (some ⟨gy, 0, none⟩), .pointer (some ⟨gk, 0, none⟩), .slice A5 nc c5, .slice A6 n6 c6, .bool true, .bool true, .bool true, .bool false, .slice A1 n1 c1, .slice A3 n3 c3, .slice A2 n2 c2, .slice A4 n4 c4, .int .i64 n, .bool false, .pointer (some ⟨gx, 0, none⟩), .pointer (some ⟨t, 0, none⟩), .pointer (some ⟨gy, 0, none⟩), .int .u8 (x.toNat : Int), .agg kc.toArray, .pointer (some ⟨gx, 0, none⟩), .agg kc.toArray, .int .i64 n, .slice A3 n3 c3, .slice A4 n4 c4, .slice A5 nc c5, .tuple #[.slice A6 n6 c6, .bool true], .pointer (some ⟨gy, 0, none⟩), .agg kc.toArray, .int .i64 n, .slice A3 n3 c3, .slice A5 nc c5, .tuple #[.slice A6 n6 c6, .bool true], .slice A6 n6 c6, .bool true, .bool true, .bool true, .slice A6 n6 c6, .string ⟨bb.toArray⟩, .slice A4 n4 c4, .string ⟨bb.toArray⟩, .bool true, .bool true, .bool true, .pointer (some ⟨gy, 0, none⟩), .agg kc.toArray, .int .i64 n, .slice A3 n3 c3, .slice A4 n4 c4, .slice A7 lc.length c7, .string ⟨lc.toArray⟩, .slice A5 nc c5, .string ⟨lc.toArray⟩, .bool true, .bool true, .bool true, .pointer (some ⟨gx, 0, none⟩), .agg kc.toArray, .slice A4 n4 c4, .agg mc.toArray, .pointer (some ⟨gy, 0, none⟩), .agg kc.toArray, .slice A4 n4 c4, .agg mc.toArray, .bool true, .bool true, .bool true, .pointer (some ⟨gy, 0, none⟩), x78, .slice A4 n4 c4, .pointer (some ⟨gx, 0, none⟩), x81, .slice A4 n4 c4, x83, x84, undef, undef, undef, undef, undef, undef, undef, undef, undef, undef, undef, undef, undef, undef], defers := [] } ∧ Hid (Below v28.heap.size v28 w') ∧ (d 33 = true → x78 = .agg kc.toArray) ∧ (d 36 = true → x81 = .agg kc.toArray) ∧ (d 38 = true → x83 = .agg mc.toArray) ∧ (d 39 = true → x84 = .bool true)) [33, 36, 38, 39] ?step40 15 4 [33, 36, 38, 39] _ _ _ rfl (by decide) (fun _ h => h) (Fits.of (by kernel_rfl)) ?init40 ?fin40
        case init40 => refine ⟨_, _, _, _, rfl, Below.refl _ _, ?_, ?_, ?_, ?_⟩ <;> (intro h; exact absurd h (by decide))
        case step40 =>
          intro i hi d a v40 hI hdi hdeps
          obtain ⟨x78, x81, x83, x84, rfl, BW, h33, h36, h38, h39⟩ := hI
          have hsw := BW.out.size
          simp only [List.mem_cons, List.not_mem_nil, or_false] at hi
          rcases hi with rfl | rfl | rfl | rfl
          · refine wpOp_step (o := ?os41) ?hos41 (fun K hK => ?_)
            case hos41 => simp only [List.getElem?_toArray, List.getElem?_cons_succ, List.getElem?_cons_zero]; rfl
            refine step_loadW rfl 34 (.tmp 12) rfl gk 0 rfl kc _ Tryd.underlying34 rfl IK.out (KB.out.below BW.out KB.out.lt).cells (hK _ _ ?_)
            clear hK K
            try simp only [Act.put, List.setIfInBounds_toArray, List.set_cons_zero, List.set_cons_succ]
            exact ⟨_, _, _, _, rfl, BW, fun _ => rfl, fun a => by first | exact h36 (by simpa using a) | rfl, fun a => by first | exact h38 (by simpa using a) | rfl, fun a => by first | exact h39 (by simpa using a) | rfl⟩
          · refine wpOp_step (o := ?os42) ?hos42 (fun K hK => ?_)
            case hos42 => simp only [List.getElem?_toArray, List.getElem?_cons_succ, List.getElem?_cons_zero]; rfl
            refine step_loadW rfl 34 (.tmp 12) rfl gk 0 rfl kc _ Tryd.underlying34 rfl IK.out (KB.out.below BW.out KB.out.lt).cells (hK _ _ ?_)
            clear hK K
            try simp only [Act.put, List.setIfInBounds_toArray, List.set_cons_zero, List.set_cons_succ]
            exact ⟨_, _, _, _, rfl, BW, fun a => by first | exact h33 (by simpa using a) | rfl, fun _ => rfl, fun a => by first | exact h38 (by simpa using a) | rfl, fun a => by first | exact h39 (by simpa using a) | rfl⟩
          · obtain rfl := h36 (hdeps 36 (by simp))
            refine wpOp_step (o := ?os43) ?hos43 (fun K hK => ?_)
            case hos43 => simp only [List.getElem?_toArray, List.getElem?_cons_succ, List.getElem?_cons_zero]; rfl
            go_simp
            refine (CMK.out v40 gx Mx _ _ _ (HG.out.below (W1.out.trans (BW.out.mono W1.out.size)) hsz) (HB.out.below PX.out BW.out) (R4.out.below BW.out)).mono ?_
            rintro e u40 ⟨rfl, hX⟩
            refine hK _ _ ?_
            clear hK K
            try simp only [Act.put, List.setIfInBounds_toArray, List.set_cons_zero, List.set_cons_succ]
            exact ⟨_, _, _, _, rfl, BW.out.trans (hX.mono hsw), fun a => by first | exact h33 (by simpa using a) | rfl, fun a => by first | exact h36 (by simpa using a) | rfl, fun _ => rfl, fun a => by first | exact h39 (by simpa using a) | rfl⟩
          · obtain rfl := h33 (hdeps 33 (by simp))
            obtain rfl := h38 (hdeps 38 (by simp))
            refine wpOp_step (o := ?os44) ?hos44 (fun K hK => ?_)
            case hos44 => simp only [List.getElem?_toArray, List.getElem?_cons_succ, List.getElem?_cons_zero]; rfl
            go_simp
            refine (CIS.out v40 gy My _ _ _ (HG.out.below (W1.out.trans (BW.out.mono W1.out.size)) hsz) (HB.out.below PY.out BW.out) (R4.out.below BW.out)).mono ?_
            rintro e u40 ⟨rfl, hX⟩
            refine hK _ _ ?_
            clear hK K
            try simp only [Act.put, List.setIfInBounds_toArray, List.set_cons_zero, List.set_cons_succ]
            exact ⟨_, _, _, _, rfl, BW.out.trans (hX.mono hsw), fun a => by first | exact h33 (by simpa using a) | rfl, fun a => by first | exact h36 (by simpa using a) | rfl, fun a => by first | exact h38 (by simpa using a) | rfl, fun _ => rfl⟩
        case fin40 =>
          intro a v40 hI
          obtain ⟨x78, x81, x83, x84, rfl, BW, h33, h36, h38, h39⟩ := hI
          obtain rfl := h33 (by decide)
          obtain rfl := h36 (by decide)
          obtain rfl := h38 (by decide)
          obtain rfl := h39 (by decide)
          replace W1 := Lib.hid (W1.out.trans (BW.out.mono W1.out.size))
          replace PX := Lib.hid (HB.out.below PX.out BW.out)
          replace PY := Lib.hid (HB.out.below PY.out BW.out)
          replace R3 := Lib.hid (R3.out.below BW.out)
          replace R4 := Lib.hid (R4.out.below BW.out)
          replace KB := Lib.hid (KB.out.below BW.out KB.out.lt)
          clear h33 h36 h38 h39 BW CMK CIS
          try dsimp only
          refine wpAny_take (i := 40) (oi := ?oi45) (v := .bool true) ?hi45 (by kernel_rfl) (by kernel_rfl) (by kernel_rfl) ?hQ45 ?hy45 ?rest45
          case hi45 => simp only [List.getElem?_toArray, List.getElem?_cons_succ, List.getElem?_cons_zero]; rfl
          case hQ45 => exact fun _ _ _ h => h
          case hy45 => exact Or.inl ⟨by rfl, by intro w; go_simp⟩
          try simp only [Act.put, List.setIfInBounds_toArray, List.set_cons_zero, List.set_cons_succ]
          refine wpAny_take (i := 41) (oi := ?oi46) (v := .bool true) ?hi46 (by kernel_rfl) (by kernel_rfl) (by kernel_rfl) ?hQ46 ?hy46 ?rest46
          case hi46 => simp only [List.getElem?_toArray, List.getElem?_cons_succ, List.getElem?_cons_zero]; rfl
          case hQ46 => exact fun _ _ _ h => h
          case hy46 => exact Or.inl ⟨by rfl, by intro w; go_simp⟩
          try simp only [Act.put, List.setIfInBounds_toArray, List.set_cons_zero, List.set_cons_succ]
          refine wpAny_take (i := 42) (oi := ?oi47) (v := .pointer (some ⟨gx, 0, none⟩)) ?hi47 (by kernel_rfl) (by kernel_rfl) (by kernel_rfl) ?hQ47 ?hy47 ?rest47
          case hi47 => simp only [List.getElem?_toArray, List.getElem?_cons_succ, List.getElem?_cons_zero]; rfl
          case hQ47 => exact fun _ _ _ h => h
          case hy47 => exact Or.inl ⟨by rfl, by intro w; go_simp⟩
          try simp only [Act.put, List.setIfInBounds_toArray, List.set_cons_zero, List.set_cons_succ]
          refine wpAny_take (i := 44) (oi := ?oi48) (v := .slice A4 n4 c4) ?hi48 (by kernel_rfl) (by kernel_rfl) (by kernel_rfl) ?hQ48 ?hy48 ?rest48
          case hi48 => simp only [List.getElem?_toArray, List.getElem?_cons_succ, List.getElem?_cons_zero]; rfl
          case hQ48 => exact fun _ _ _ h => h
          case hy48 => exact Or.inl ⟨by rfl, by intro w; go_simp⟩
          try simp only [Act.put, List.setIfInBounds_toArray, List.set_cons_zero, List.set_cons_succ]
          refine wpAny_take (i := 47) (oi := ?oi49) (v := .pointer (some ⟨gy, 0, none⟩)) ?hi49 (by kernel_rfl) (by kernel_rfl) (by kernel_rfl) ?hQ49 ?hy49 ?rest49
          case hi49 => simp only [List.getElem?_toArray, List.getElem?_cons_succ, List.getElem?_cons_zero]; rfl
          case hQ49 => exact fun _ _ _ h => h
          case hy49 => exact Or.inl ⟨by rfl, by intro w; go_simp⟩
          try simp only [Act.put, List.setIfInBounds_toArray, List.set_cons_zero, List.set_cons_succ]
          refine wpAny_take (i := 49) (oi := ?oi50) (v := .slice A4 n4 c4) ?hi50 (by kernel_rfl) (by kernel_rfl) (by kernel_rfl) ?hQ50 ?hy50 ?rest50
          case hi50 => simp only [List.getElem?_toArray, List.getElem?_cons_succ, List.getElem?_cons_zero]; rfl
          case hQ50 => exact fun _ _ _ h => h
          case hy50 => exact Or.inl ⟨by rfl, by intro w; go_simp⟩
          try simp only [Act.put, List.setIfInBounds_toArray, List.set_cons_zero, List.set_cons_succ]
          refine phaseL (fun i => if i = 46 then [43, 45] else if i = 51 then [48, 50, 46] else []) (fun d a w' => ∃ x88 x90 x91 x93 x95 x96 : Value, a = { tmps := #[.int .u8 (x.toNat : Int), .int .i64 n, .slice A3 n3 c3, .slice A4 n4 c4, undef, undef, undef, undef, .bool false, .bool true, .pointer (some ⟨gx, 0, none⟩), .pointer (some ⟨gy, 0, none⟩), .pointer (some ⟨gk, 0, none⟩), .slice A5 nc c5, .slice A6 n6 c6, .bool true, .bool true, .bool true, .bool false, .slice A1 n1 c1, .slice A3 n3 c3, .slice A2 n2 c2, .slice A4 n4 c4, .int .i64 n, .bool false, .pointer (some ⟨gx, 0, none⟩), .pointer (some ⟨t, 0, none⟩), .pointer (some ⟨gy, 0, none⟩), .int .u8 (x.toNat : Int), .agg kc.toArray, .pointer (some ⟨gx, 0, none⟩), .agg kc.toArray, .int .i64 n, .slice A3 n3 c3, .slice A4 n4 c4, .slice A5 nc c5, .tuple #[.slice A6 n6 c6, .bool true], .pointer (some ⟨gy, 0, none⟩), .agg kc.toArray, .int .i64 n, .slice A3 n3 c3, .slice A5 nc c5, .tuple #[.slice A6 n6 c6, .bool true], .slice A6 n6 c6, .bool true, .bool true, .bool true, .slice A6 n6 c6, .string ⟨bb.toArray⟩, .slice A4 n4 c4, .string ⟨bb.toArray⟩, .bool true, .bool true, .bool true, .pointer (some ⟨gy, 0, none⟩), .agg kc.toArray, .int .i64 n, .slice A3 n3 c3, .slice A4 n4 c4, .slice A7 lc.length c7, .string ⟨lc.toArray⟩, .slice A5 nc c5, .string ⟨lc.toArray⟩, .bool true, .bool true, .bool true, .pointer (some ⟨gx, 0, none⟩), .agg kc.toArray, .slice A4 n4 c4, .agg mc.toArray, .pointer (some ⟨gy, 0, none⟩), .agg kc.toArray, .slice A4 n4 c4, .agg mc.toArray, .bool true, .bool true, .bool true, .pointer (some ⟨gy, 0, none⟩), .agg kc.toArray, .slice A4 n4 c4, .pointer (some ⟨gx, 0, none⟩), .agg kc.toArray, .slice A4 n4 c4, .agg mc.toArray, .bool true, .bool true, .bool true, .pointer (some ⟨gx, 0, none⟩), x88, .slice A4 n4 c4, x90, x91, .pointer (some ⟨gy, 0, none⟩), x93, .slice A4 n4 c4, x95, x96, undef, undef], defers := [] } ∧ Hid (Below v40.heap.size v40 w') ∧ (d 43 = true → x88 = .agg kc.toArray) ∧ (d 45 = true → x90 = .string ⟨bb.toArray⟩) ∧ (d 46 = true → x91 = .agg bc.toArray) ∧ (d 48 = true → x93 = .agg kc.toArray) ∧ (d 50 = true → x95 = .string ⟨bb.toArray⟩) ∧ (d 51 = true → x96 = .agg bc.toArray)) [43, 45, 46, 48, 50, 51] ?step51 3 6 [43, 45, 46, 48, 50, 51] _ _ _ rfl (by decide) (fun _ h => h) (Fits.of (by kernel_rfl)) ?init51 ?fin51
          case init51 => refine ⟨_, _, _, _, _, _, rfl, Below.refl _ _, ?_, ?_, ?_, ?_, ?_, ?_⟩ <;> (intro h; exact absurd h (by decide))
          case step51 =>
            intro i hi d a v51 hI hdi hdeps
            obtain ⟨x88, x90, x91, x93, x95, x96, rfl, BW, h43, h45, h46, h48, h50, h51⟩ := hI
            have hsw := BW.out.size
            simp only [List.mem_cons, List.not_mem_nil, or_false] at hi
            rcases hi with rfl | rfl | rfl | rfl | rfl | rfl
            · refine wpOp_step (o := ?os52) ?hos52 (fun K hK => ?_)
              case hos52 => simp only [List.getElem?_toArray, List.getElem?_cons_succ, List.getElem?_cons_zero]; rfl
              refine step_loadW rfl 34 (.tmp 12) rfl gk 0 rfl kc _ Tryd.underlying34 rfl IK.out (KB.out.below BW.out KB.out.lt).cells (hK _ _ ?_)
              clear hK K
              try simp only [Act.put, List.setIfInBounds_toArray, List.set_cons_zero, List.set_cons_succ]
              exact ⟨_, _, _, _, _, _, rfl, BW, fun _ => rfl, fun a => by first | exact h45 (by simpa using a) | rfl, fun a => by first | exact h46 (by simpa using a) | rfl, fun a => by first | exact h48 (by simpa using a) | rfl, fun a => by first | exact h50 (by simpa using a) | rfl, fun a => by first | exact h51 (by simpa using a) | rfl⟩
            · have hcv := conv_bytes (R4.out.below BW.out)
              refine wpOp_step (o := ?os53) ?hos53 (fun K hK => ?_)
              case hos53 => simp only [List.getElem?_toArray, List.getElem?_cons_succ, List.getElem?_cons_zero]; rfl
              go_simp
              refine hK _ _ ?_
              clear hK K
              try simp only [Act.put, List.setIfInBounds_toArray, List.set_cons_zero, List.set_cons_succ]
              exact ⟨_, _, _, _, _, _, rfl, BW, fun a => by first | exact h43 (by simpa using a) | rfl, fun _ => rfl, fun a => by first | exact h46 (by simpa using a) | rfl, fun a => by first | exact h48 (by simpa using a) | rfl, fun a => by first | exact h50 (by simpa using a) | rfl, fun a => by first | exact h51 (by simpa using a) | rfl⟩
            · obtain rfl := h43 (hdeps 43 (by simp))
              obtain rfl := h45 (hdeps 45 (by simp))
              refine wpOp_step (o := ?os54) ?hos54 (fun K hK => ?_)
              case hos54 => simp only [List.getElem?_toArray, List.getElem?_cons_succ, List.getElem?_cons_zero]; rfl
              go_simp
              refine (CLB.out v51 gx Mx (HG.out.below (W1.out.trans (BW.out.mono W1.out.size)) hsz) (HB.out.below PX.out BW.out)).mono ?_
              rintro e u51 ⟨rfl, hX⟩
              refine hK _ _ ?_
              clear hK K
              try simp only [Act.put, List.setIfInBounds_toArray, List.set_cons_zero, List.set_cons_succ]
              exact ⟨_, _, _, _, _, _, rfl, BW.out.trans (hX.mono hsw), fun a => by first | exact h43 (by simpa using a) | rfl, fun a => by first | exact h45 (by simpa using a) | rfl, fun _ => rfl, fun a => by first | exact h48 (by simpa using a) | rfl, fun a => by first | exact h50 (by simpa using a) | rfl, fun a => by first | exact h51 (by simpa using a) | rfl⟩
            · refine wpOp_step (o := ?os55) ?hos55 (fun K hK => ?_)
              case hos55 => simp only [List.getElem?_toArray, List.getElem?_cons_succ, List.getElem?_cons_zero]; rfl
              refine step_loadW rfl 34 (.tmp 12) rfl gk 0 rfl kc _ Tryd.underlying34 rfl IK.out (KB.out.below BW.out KB.out.lt).cells (hK _ _ ?_)
              clear hK K
              try simp only [Act.put, List.setIfInBounds_toArray, List.set_cons_zero, List.set_cons_succ]
              exact ⟨_, _, _, _, _, _, rfl, BW, fun a => by first | exact h43 (by simpa using a) | rfl, fun a => by first | exact h45 (by simpa using a) | rfl, fun a => by first | exact h46 (by simpa using a) | rfl, fun _ => rfl, fun a => by first | exact h50 (by simpa using a) | rfl, fun a => by first | exact h51 (by simpa using a) | rfl⟩
            · have hcv := conv_bytes (R4.out.below BW.out)
              refine wpOp_step (o := ?os56) ?hos56 (fun K hK => ?_)
              case hos56 => simp only [List.getElem?_toArray, List.getElem?_cons_succ, List.getElem?_cons_zero]; rfl
              go_simp
              refine hK _ _ ?_
              clear hK K
              try simp only [Act.put, List.setIfInBounds_toArray, List.set_cons_zero, List.set_cons_succ]
              exact ⟨_, _, _, _, _, _, rfl, BW, fun a => by first | exact h43 (by simpa using a) | rfl, fun a => by first | exact h45 (by simpa using a) | rfl, fun a => by first | exact h46 (by simpa using a) | rfl, fun a => by first | exact h48 (by simpa using a) | rfl, fun _ => rfl, fun a => by first | exact h51 (by simpa using a) | rfl⟩
            · obtain rfl := h48 (hdeps 48 (by simp))
              obtain rfl := h50 (hdeps 50 (by simp))
              refine wpOp_step (o := ?os57) ?hos57 (fun K hK => ?_)
              case hos57 => simp only [List.getElem?_toArray, List.getElem?_cons_succ, List.getElem?_cons_zero]; rfl
              go_simp
              refine (CLB.out v51 gy My (HG.out.below (W1.out.trans (BW.out.mono W1.out.size)) hsz) (HB.out.below PY.out BW.out)).mono ?_
              rintro e u51 ⟨rfl, hX⟩
              refine hK _ _ ?_
              clear hK K
              try simp only [Act.put, List.setIfInBounds_toArray, List.set_cons_zero, List.set_cons_succ]
              exact ⟨_, _, _, _, _, _, rfl, BW.out.trans (hX.mono hsw), fun a => by first | exact h43 (by simpa using a) | rfl, fun a => by first | exact h45 (by simpa using a) | rfl, fun a => by first | exact h46 (by simpa using a) | rfl, fun a => by first | exact h48 (by simpa using a) | rfl, fun a => by first | exact h50 (by simpa using a) | rfl, fun _ => rfl⟩
          case fin51 =>
            intro a v51 hI
            obtain ⟨x88, x90, x91, x93, x95, x96, rfl, BW, h43, h45, h46, h48, h50, h51⟩ := hI
            obtain rfl := h43 (by decide)
            obtain rfl := h45 (by decide)
            obtain rfl := h46 (by decide)
            obtain rfl := h48 (by decide)
            obtain rfl := h50 (by decide)
            obtain rfl := h51 (by decide)
            have hee := EL.out
            replace W1 := Lib.hid (W1.out.trans (BW.out.mono W1.out.size))
            replace PX := Lib.hid (HB.out.below PX.out BW.out)
            replace PY := Lib.hid (HB.out.below PY.out BW.out)
            clear h43 h45 h46 h48 h50 h51 BW
            try dsimp only
            refine wpAny_take (i := 52) (oi := ?oi58) (v := .bool true) ?hi58 (by kernel_rfl) (by kernel_rfl) (by kernel_rfl) ?hQ58 ?hy58 ?rest58
            case hi58 => simp only [List.getElem?_toArray, List.getElem?_cons_succ, List.getElem?_cons_zero]; rfl
            case hQ58 => exact fun _ _ _ h => h
            case hy58 => exact Or.inl ⟨by rfl, by intro w; go_simp⟩
            try simp only [Act.put, List.setIfInBounds_toArray, List.set_cons_zero, List.set_cons_succ]
            refine wpAny_take (i := 53) (oi := ?oi59) (v := .bool true) ?hi59 (by kernel_rfl) (by kernel_rfl) (by kernel_rfl) ?hQ59 ?hy59 ?rest59
            case hi59 => simp only [List.getElem?_toArray, List.getElem?_cons_succ, List.getElem?_cons_zero]; rfl
            case hQ59 => exact fun _ _ _ h => h
            case hy59 => exact Or.inl ⟨by rfl, by intro w; go_simp⟩
            try simp only [Act.put, List.setIfInBounds_toArray, List.set_cons_zero, List.set_cons_succ]
            refine wpAny_take (i := 54) (oi := ?oi60) (v := .bool true) ?hi60 (by kernel_rfl) (by kernel_rfl) (by kernel_rfl) ?hQ60 ?hy60 ?rest60
            case hi60 => simp only [List.getElem?_toArray, List.getElem?_cons_succ, List.getElem?_cons_zero]; rfl
            case hQ60 => exact fun _ _ _ h => h
            case hy60 => exact Or.inl ⟨by rfl, by intro w; go_simp⟩
            try simp only [Act.put, List.setIfInBounds_toArray, List.set_cons_zero, List.set_cons_succ]
            refine wpAny_done (by kernel_rfl) ?_ _
            clear hee
            go_wp2_with fail
            go_ret
            exact ⟨rfl, W1.out⟩
end Go.Proofs.YtpbfeobifpmjbaaDoor.boxReal
