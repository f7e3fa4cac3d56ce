/- The walk of PolyParts. -/
import Derived.Test.YtknpngeaodlmhaaDoorPolyAll
import Derived.Test.YtknpngeaodlmhaaDoorGref2
namespace Go.Proofs.YtknpngeaodlmhaaDoor.polyParts
set_option linter.unusedVariables false
set_option linter.unusedSimpArgs false
open Go.RowKit

set_option maxRecDepth 100000 in
set_option maxHeartbeats 4000000 in
theorem walk (hA : AeOk) {A1 A2 : Option Addr} {n1 c1 n2 c2 : Nat} {x1 x2 : List UInt8} (n : Int) (w : World) (hg : Gl w) (hr1 : Rd w A1 n1 c1 x1) (hr2 : Rd w A2 n2 c2 x2) :
    Calls Tryd.prog 11 #[.slice A1 n1 c1, .slice A2 n2 c2, .int .i64 n] w fun e w' => e = .returned (.bool true) ∧ Below w.heap.size w w' := by
  have HG := Lib.hid hg
  have R1 := Lib.hid hr1
  have R2 := Lib.hid hr2
  clear hg hr1 hr2
  by_cases hn0 : n < 0 ∨ 40 < n
  · have d : decide (n < 0) = true ∨ decide (n < 0) = false ∧ decide (n > 40) = true := by
      rcases hn0 with h | h
      · exact .inl (by simpa using h)
      · exact .inr ⟨by simp; omega, by simpa using h⟩
    rcases d with d1 | ⟨d1, d2⟩
    all_goals
      go_enter Tryd.func11, Tryd.ntmps11
      go_wp2_with (first | (go_at_call 14; refine (begun4_any hA HG.out).mono ?_; rintro e w1 ⟨rfl, HB⟩; have W1 := Lib.hid HB; clear HB))
      refine (short_any 60 (R2.out.below W1.out) (by omega)).mono ?_
      rintro e w' ⟨A3, n3, c3, rfl, hr3, rfl⟩
      clear hr3
      go_wp2_with fail
      go_ret
      exact ⟨rfl, W1.out⟩
  · obtain ⟨N, rfl⟩ : ∃ N : Nat, n = (N : Int) := ⟨n.toNat, by omega⟩
    have hN : N ≤ 40 := by omega
    have d1 : decide ((N : Int) < 0) = false := decide_eq_false (by omega)
    have d2 : decide ((N : Int) > 40) = false := decide_eq_false (by omega)
    clear hn0
    go_enter Tryd.func11, Tryd.ntmps11
    go_wp2_with (first | (go_at_call 14; refine (begun4_any hA HG.out).mono ?_; rintro e w1 ⟨rfl, HB⟩; have W1 := Lib.hid HB; clear HB))
    refine (short_any 60 (R2.out.below W1.out) (by omega)).mono ?_
    rintro e w' ⟨A3, n3, c3, rfl, hr3, rfl⟩
    have R3 := Lib.hid hr3
    have hl3 : n3 ≤ 60 := by rw [← hr3.len, List.length_take]; omega
    obtain ⟨b, hb⟩ : ∃ l, l = x2.take 60 := ⟨_, rfl⟩
    rw [← hb] at R3
    have LB : Hid (b.length = n3) := R3.out.len
    have K1 := Lib.hid (R1.out.below W1.out)
    have E0 := Lib.hid (Ow.empty w1 w1.heap.size)
    have LN0 : Hid (([] : List UInt8).length + n3 ≤ 140737488355328) := by unfold Hid; simp; omega
    have LN1 : Hid (([] ++ b : List UInt8).length + N ≤ 1000000) := by unfold Hid; rw [List.nil_append, LB.out]; omega
    clear hb R1 R2 hr3
    go_upto_region 8 with (first
      | (at_builtin; refine onto_law rfl (.const (.slice none 0 0)) (.tmp 20) rfl rfl rfl R3.out E0.out LN0.out (Nat.le_refl _) (Below.refl _ _) ?_; intro v2 w2 O2 X2)
      | (at_builtin; refine zeros_law rfl (.tmp 21) (.tmp 22) rfl rfl rfl O2.out LN1.out X2.out.size X2.out ?_; intro v3 w3 O3 X3))
    obtain ⟨cb, hcb⟩ : ∃ l, l = [] ++ b ++ List.replicate N 0 := ⟨_, rfl⟩
    rw [← hcb] at O3
    have LC : cb.length ≤ 100 := by rw [hcb, List.nil_append, List.length_append, List.length_replicate, LB.out]; omega
    obtain ⟨AC, cc, rfl, RC, _⟩ := O3.out.value
    obtain ⟨nc, hnc⟩ : ∃ x, x = cb.length := ⟨_, rfl⟩
    rw [← hnc] at RC LC
    rw [← hnc]
    have W3 := Lib.hid (W1.out.trans (X3.out.mono W1.out.size))
    have K3 := Lib.hid (K1.out.below X3.out)
    have R4 := Lib.hid RC
    obtain ⟨key, hkey⟩ : ∃ k, k = padTo 32 x1 := ⟨_, rfl⟩
    have LK : Hid (key.length = 32) := by unfold Hid; rw [hkey, padTo_length]
    obtain ⟨T, hT⟩ : ∃ T, T = (Pol.tag key cb).map cellOf := ⟨_, rfl⟩
    obtain ⟨T0, hT0⟩ : ∃ T, T = (Pol.tag key []).map cellOf := ⟨_, rfl⟩
    obtain ⟨kc, hkc⟩ : ∃ c, c = key.map cellOf := ⟨_, rfl⟩
    have CK : Hid (∀ W, Rd W A1 n1 c1 x1 → Calls Tryd.prog 18 #[.slice A1 n1 c1] W fun e w' => e = .returned (.agg kc.toArray) ∧ Below W.heap.size W w') := fun W h => by rw [hkc, hkey]; exact key_any h
    have CP : Hid (∀ W, Rd W AC nc cc cb → Calls Tryd.prog 24 #[.agg kc.toArray, .slice AC nc cc] W fun e w' => e = .returned (.agg T.toArray) ∧ Below W.heap.size W w') := fun W h => by rw [hkc, hT]; exact ptag_any key LK.out h
    have CR : Hid (∀ W, Rd W AC nc cc cb → Calls Tryd.prog 25 #[.agg kc.toArray, .slice AC nc cc] W fun e w' => e = .returned (.agg T.toArray) ∧ Below W.heap.size W w') := fun W h => by rw [hkc, hT]; exact rtag_any key LK.out h (by omega)
    have CP0 : Hid (∀ W, Calls Tryd.prog 24 #[.agg kc.toArray, .slice none 0 0] W fun e w' => e = .returned (.agg T0.toArray) ∧ Below W.heap.size W w') := fun W => by rw [hkc, hT0]; exact ptag_any key LK.out (Rd.nil W none 0 (by unfold maxLen; omega))
    have CR0 : Hid (∀ W, Calls Tryd.prog 25 #[.agg kc.toArray, .slice none 0 0] W fun e w' => e = .returned (.agg T0.toArray) ∧ Below W.heap.size W w') := fun W => by rw [hkc, hT0]; exact rtag_any key LK.out (Rd.nil W none 0 (by unfold maxLen; omega)) (by omega)
    have HEQ : Hid (∀ W, (Op.equalIn 10000 37 (.agg T.toArray) (.agg T.toArray)).run Tryd.prog W = .ok true W) := fun W => equal16 hT (tag_length key cb) W
    have HEQ0 : Hid (∀ W, (Op.equalIn 10000 37 (.agg T0.toArray) (.agg T0.toArray)).run Tryd.prog W = .ok true W) := fun W => equal16 hT0 (tag_length key []) W
    have heq := HEQ.out
    have heq0 := HEQ0.out
    clear hcb hnc RC hkey hT hT0 hkc O2 X2 O3 X3 K1 W1 R3 LB LN0 LN1 E0 d1 d2
    go_wp2_with fail
    refine (CK.out _ K3.out).mono ?_
    rintro e w4 ⟨rfl, hX⟩
    have W4 := Lib.hid (W3.out.trans (hX.mono W3.out.size))
    have R5 := Lib.hid (R4.out.below hX)
    have K4 := Lib.hid (K3.out.below hX)
    clear hX W3 R4 K3
    go_wp2_with fail
    refine (CP.out _ R5.out).mono ?_
    rintro e w5 ⟨rfl, hX⟩
    have W5 := Lib.hid (W4.out.trans (hX.mono W4.out.size))
    have R6 := Lib.hid (R5.out.below hX)
    have K5 := Lib.hid (K4.out.below hX)
    clear hX W4 R5 K4
    go_wp2_with fail
    refine (CK.out _ K5.out).mono ?_
    rintro e w6 ⟨rfl, hX⟩
    have W6 := Lib.hid (W5.out.trans (hX.mono W5.out.size))
    have R7 := Lib.hid (R6.out.below hX)
    have K6 := Lib.hid (K5.out.below hX)
    clear hX W5 R6 K5
    go_wp2_with fail
    refine (CR.out _ R7.out).mono ?_
    rintro e w7 ⟨rfl, hX⟩
    have W7 := Lib.hid (W6.out.trans (hX.mono W6.out.size))
    have K7 := Lib.hid (K6.out.below hX)
    clear hX W6 R7 K6
    go_wp2_with fail
    refine (CK.out _ K7.out).mono ?_
    rintro e w8 ⟨rfl, hX⟩
    have W8 := Lib.hid (W7.out.trans (hX.mono W7.out.size))
    have K8 := Lib.hid (K7.out.below hX)
    clear hX W7 K7
    go_wp2_with fail
    refine (CP0.out _).mono ?_
    rintro e w9 ⟨rfl, hX⟩
    have W9 := Lib.hid (W8.out.trans (hX.mono W8.out.size))
    have K9 := Lib.hid (K8.out.below hX)
    clear hX W8 K8
    go_wp2_with fail
    refine (CK.out _ K9.out).mono ?_
    rintro e w10 ⟨rfl, hX⟩
    have W10 := Lib.hid (W9.out.trans (hX.mono W9.out.size))
    clear hX W9 K9
    go_wp2_with fail
    refine (CR0.out _).mono ?_
    rintro e w11 ⟨rfl, hX⟩
    have W11 := Lib.hid (W10.out.trans (hX.mono W10.out.size))
    clear hX W10
    go_wp2_with fail
    go_ret
    exact ⟨rfl, W11.out⟩
end Go.Proofs.YtknpngeaodlmhaaDoor.polyParts
