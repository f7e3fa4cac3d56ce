import Derived.Deep.CutRange
import Derived.Deep.DeepCutAuto
import Derived.Test.YtijncclcdkgaoaaDoorSBegun9
import Derived.Test.YtijncclcdkgaoaaDoorSPadAlike
import Derived.Test.YtijncclcdkgaoaaDoorSDoc
namespace Go.Proofs.YtijncclcdkgaoaaDoor
set_option linter.unusedVariables false
set_option linter.unusedSimpArgs false
set_option maxRecDepth 100000
open Go.RowKit
theorem padded_len (lb : List UInt8) : (if lb.length ≤ 2046 then Rc.pad lb else []).length = Rc.size (lb.length : Int) := by
  by_cases h : lb.length ≤ 2046
  · rw [if_pos h, Rc.pad_length h]
  · rw [if_neg h, Rc.size_none (by omega)]; rfl
theorem ret_len {w w' : World} {l : List UInt8} {er : Int} {e : Ending} {z : Nat} (h : RetE w l er e w') (hz : l.length = z) : ∃ A c, e = .returned (.tuple #[.slice A z c, .int .i64 er]) ∧ Rd w' A z c l ∧ Below w.heap.size w w' := by
  obtain ⟨A, n, c, rfl, hR, hX, _⟩ := h
  obtain rfl : n = z := by rw [← hR.len]; exact hz
  exact ⟨A, c, rfl, hR, hX⟩
end Go.Proofs.YtijncclcdkgaoaaDoor
namespace Go.Proofs.YtijncclcdkgaoaaDoor.padAll
set_option linter.unusedVariables false
set_option linter.unusedSimpArgs false
set_option maxRecDepth 100000
open Go.RowKit
set_option maxRecDepth 100000 in
set_option maxHeartbeats 4000000 in
theorem walk {P : BxP} (hB : BoxOk P) {A : Option Addr} {k c : Nat} {l : List UInt8} (n : Int) (w : World) (hg : Gl w) (hr : Rd w A k c l) (n1 : -9223372036854775808 ≤ n) (n2 : n ≤ 9223372036854775807) : Calls Tryd.prog 4 #[.slice A k c, .int .i64 n] w fun e w' => e = .returned (.bool true) ∧ Below w.heap.size w w' := by
  have HG := Lib.hid hg
  have HB := Lib.hid hB
  have hsz := hg.size
  have HR := Lib.hid hr
  obtain ⟨m0, hm0⟩ : ∃ m, m = min k 600 := ⟨_, rfl⟩
  have hm6 : m0 ≤ 600 := by omega
  have SH : Hid (∀ W, Calls Tryd.prog 13 #[.slice A k c, .int .i64 600] W fun e w' => e = .returned (.slice A m0 c) ∧ W = w') := fun W => by rw [hm0]; exact short_eq 600 hr.cap hr.max (by omega)
  have RS : Hid (Rd w A m0 c (l.take 600)) := by unfold Hid; rw [hm0]; exact hr.short 600
  clear hg hB hr hm0
  go_enter Tryd.func4, Tryd.ntmps4
  go_wp2_with fail
  refine (begun9_any HB.out HG.out).mono ?_
  rintro e w1 ⟨rfl, hX⟩
  have W1 := Lib.hid hX
  have R1 := Lib.hid (RS.out.below hX)
  clear hX
  go_wp2_with fail
  refine (SH.out w1).mono ?_
  rintro e w2 ⟨rfl, rfl⟩
  obtain ⟨gb, hgb⟩ : ∃ b : Bool, b = (decide (0 < n) && decide (n < 2200)) := ⟨_, rfl⟩
  have HGB := Lib.hid hgb
  clear hgb SH RS
  go_upto_region 5 with (fail)
  go_cut [22] (fun v wr => v = .bool gb ∧ Hid (wr = w1))
  case first =>
    by_cases h1 : 0 < n
    · by_cases h2 : n < 2200
      · obtain rfl : gb = true := by rw [HGB.out]; simp; omega
        go_wp2_with fail
        go_meet
        case rel => exact ⟨rfl, rfl⟩
      · obtain rfl : gb = false := by rw [HGB.out]; simp; omega
        go_wp2_with fail
        go_meet
        case rel => exact ⟨rfl, rfl⟩
    · obtain rfl : gb = false := by rw [HGB.out]; simp; omega
      go_wp2_with fail
      go_meet
      case rel => exact ⟨rfl, rfl⟩
  case rest =>
    obtain ⟨rfl, HW⟩ := hcut
    have hw := HW.out
    subst hw
    clear HW
    go_upto_if 22 with (fail)
    go_cut [0] (fun v wr => ∃ (A : Option Addr) (m c : Nat) (lb : List UInt8), v = .slice A m c ∧ m ≤ 3000 ∧ Hid (Rd wr A m c lb) ∧ Hid (Below w.heap.size w wr))
    case first =>
      cases gb with
      | true =>
        have hgb : 0 < n ∧ n < 2200 := by have := HGB.out; simp at this; exact this
        obtain ⟨j, hj⟩ := Int.eq_ofNat_of_zero_le (show 0 ≤ n by omega)
        have hj2 : j ≤ 2200 := by omega
        have HJ := Lib.hid hj
        have hl0 := R1.out.len
        have LN : Hid (([] ++ l.take 600).length + j ≤ 1000000) := by unfold Hid; rw [List.nil_append, hl0]; omega
        have HL0 := Lib.hid hl0
        clear hj hl0 hgb
        obtain rfl := HJ.out
        go_wp2_with (first
          | (at_builtin; refine onto_law rfl (.const (.slice none 0 0)) (.tmp 23) rfl rfl rfl R1.out (Ow.empty _ wc.heap.size) (by simp; omega) (Nat.le_refl _) (Below.refl _ _) ?_; intro v3 w3 O3 X3)
          | (at_builtin; refine zeros_law rfl (.tmp 24) (.tmp 25) rfl rfl rfl O3.out LN.out X3.out.size X3.out ?_; intro v4 w4 O4 X4))
        obtain ⟨A4, c4, rfl, hr4, _⟩ := O4.out.value
        go_meet
        case rel => exact ⟨_, _, _, _, rfl, by have := HL0.out; simp [this]; omega, hr4, W1.out.trans (X4.out.mono W1.out.size)⟩
      | false =>
        go_wp2_with fail
        go_meet
        case rel => exact ⟨_, _, _, _, rfl, by omega, R1, W1⟩
    case rest =>
      clear R1 W1 HGB
      obtain ⟨A, m, c, lb, rfl, hm, RB, WB⟩ := hcut
      obtain ⟨z, hz⟩ : ∃ z, z = Rc.size (m : Int) := ⟨_, rfl⟩
      have hlm := RB.out.len
      obtain ⟨zn, hzn⟩ : ∃ z, z = Rc.size n := ⟨_, rfl⟩
      obtain ⟨lp, hlp⟩ : ∃ lp, lp = (if lb.length ≤ 2046 then Rc.pad lb else []) := ⟨_, rfl⟩
      obtain ⟨er, her⟩ : ∃ er : Int, er = (if lb.length ≤ 2046 then 0 else 13) := ⟨_, rfl⟩
      have LZ : lp.length = z := by rw [hlp, padded_len, hlm, hz]
      have P1 : Hid (∀ W : World, Gl W → Rd W A m c lb → Calls Tryd.prog 16 #[.slice A m c] W fun e w' => ∃ A c, e = .returned (.tuple #[.slice A z c, .int .i64 er]) ∧ Rd w' A z c lp ∧ Below W.heap.size W w') := fun W h hr => (ppad_any h hr).mono fun e w' hq => ret_len (by rw [hlp, her]; exact hq) LZ
      have P2 : Hid (∀ W : World, Rd W A m c lb → Calls Tryd.prog 17 #[.slice A m c] W fun e w' => ∃ A c, e = .returned (.tuple #[.slice A z c, .int .i64 er]) ∧ Rd w' A z c lp ∧ Below W.heap.size W w') := fun W hr => (rpad_any hr).mono fun e w' hq => ret_len (by rw [hlp, her]; exact hq) LZ
      have S1 : Hid (∀ W : World, Gl W → Calls Tryd.prog 18 #[.int .i64 (m : Int)] W fun e w' => e = .returned (.int .i64 (z : Int)) ∧ w' = W) := fun W h => by rw [hz]; exact psize_any (m : Int) h (by omega) (by omega)
      have S2 : Hid (∀ W : World, Calls Tryd.prog 19 #[.int .i64 (m : Int)] W fun e w' => e = .returned (.int .i64 (z : Int)) ∧ Below W.heap.size W w') := fun W => by rw [hz]; exact rsize_any (m : Int) W (by omega) (by omega)
      have S3 : Hid (∀ W : World, Gl W → Calls Tryd.prog 18 #[.int .i64 n] W fun e w' => e = .returned (.int .i64 (zn : Int)) ∧ w' = W) := fun W h => by rw [hzn]; exact psize_any n h n1 n2
      have S4 : Hid (∀ W : World, Calls Tryd.prog 19 #[.int .i64 n] W fun e w' => e = .returned (.int .i64 (zn : Int)) ∧ Below W.heap.size W w') := fun W => by rw [hzn]; exact rsize_any n W n1 n2
      have HZ := Lib.hid hz
      have HLP := Lib.hid hlp
      have HER := Lib.hid her
      have HLM := Lib.hid hlm
      clear hz hzn hlp her LZ hlm
      go_wp2_with fail
      refine (P1.out wc (HG.out.below WB.out hsz) RB.out).mono ?_
      rintro e w3 ⟨A3, c3, rfl, hR, hX⟩
      have W3 := Lib.hid (WB.out.trans (hX.mono WB.out.size))
      have R3 := Lib.hid hR
      replace RB := Lib.hid (RB.out.below hX)
      clear hX hR WB P1
      go_wp2_with fail
      refine (P2.out w3 RB.out).mono ?_
      rintro e w4 ⟨A4, c4, rfl, hR, hX⟩
      have W4 := Lib.hid (W3.out.trans (hX.mono W3.out.size))
      replace R3 := Lib.hid (R3.out.below hX)
      replace RB := Lib.hid (RB.out.below hX)
      have R4 := Lib.hid hR
      clear hX hR W3 P2
      have hcv1 := conv_bytes R3.out
      have hcv2 := conv_bytes R4.out
      have hss := str_same lp
      have hee : (er == er) = true := by simp
      go_wp2_with fail
      refine (S1.out w4 (HG.out.below W4.out hsz)).mono ?_
      rintro e w5 ⟨rfl, rfl⟩
      go_wp2_with fail
      refine (S2.out w5).mono ?_
      rintro e w6 ⟨rfl, hX⟩
      have W6 := Lib.hid (W4.out.trans (hX.mono W4.out.size))
      replace R3 := Lib.hid (R3.out.below hX)
      replace RB := Lib.hid (RB.out.below hX)
      clear hX W4 R4 hcv1 hcv2
      go_wp2_with fail
      refine (S3.out w6 (HG.out.below W6.out hsz)).mono ?_
      rintro e w7 ⟨rfl, rfl⟩
      go_wp2_with fail
      refine (S4.out w7).mono ?_
      rintro e w8 ⟨rfl, hX⟩
      have W8 := Lib.hid (W6.out.trans (hX.mono W6.out.size))
      replace R3 := Lib.hid (R3.out.below hX)
      replace RB := Lib.hid (RB.out.below hX)
      clear hX W6 S1 S2 S3 S4
      by_cases hm2 : m ≤ 2046
      · obtain rfl : er = 0 := by rw [HER.out, HLM.out, if_pos hm2]
        have e1 : lp = Rc.pad lb := by rw [HLP.out, HLM.out, if_pos hm2]
        have CU := Lib.hid (punpad_any (HG.out.below W8.out hsz) R3.out)
        rw [e1, Rc.unpad_pad (by rw [HLM.out]; exact hm2), Rc.fits_pad (by rw [HLM.out]; exact hm2)] at CU
        have hsl := str_same lb
        clear e1
        go_wp2_with fail
        refine (CU.out.mono fun e w' hq => ret_len hq HLM.out).mono ?_
        rintro e w9 ⟨A9, c9, rfl, hR, hX⟩
        have hcv1 := conv_bytes hR
        have hcv2 := conv_bytes (RB.out.below hX)
        have W9 := Lib.hid (W8.out.trans (hX.mono W8.out.size))
        go_wp2_with fail
        go_ret
        exact ⟨rfl, W9.out⟩
      · obtain rfl : er = 13 := by rw [HER.out, HLM.out, if_neg hm2]
        obtain rfl : z = 0 := by rw [HZ.out]; exact Rc.size_none (by omega)
        have hmi : (2046 : Int) < (m : Int) := by omega
        go_wp2_with fail
        go_ret
        exact ⟨rfl, W8.out⟩
end Go.Proofs.YtijncclcdkgaoaaDoor.padAll
