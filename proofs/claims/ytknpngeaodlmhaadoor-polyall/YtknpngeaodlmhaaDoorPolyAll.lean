/- The walk of PolyAll. -/
import Derived.Test.YtknpngeaodlmhaaDoorBegun4
import Derived.Test.YtknpngeaodlmhaaDoorGref2
import Derived.Test.YtknpngeaodlmhaaDoorGrow
namespace Go.Proofs.YtknpngeaodlmhaaDoor
set_option linter.unusedVariables false
set_option linter.unusedSimpArgs false
open Go.RowKit
theorem tag_length (key b : List UInt8) : (Pol.tag key b).length = 16 := by rw [Pol.tag, Pol.bytesN_length]
theorem equal16 {l : List UInt8} {D : List Value} (hD : D = l.map cellOf) (hl : l.length = 16) (w : World) : (Op.equalIn 10000 37 (.agg D.toArray) (.agg D.toArray)).run Tryd.prog w = .ok true w := by
  subst hD
  obtain ⟨i0, hi, hz0, hz1, hz2⟩ := info_parts info5
  rw [run_equalIn_array w 9999 _ _ Tryd.underlying37 hi, c5, eqItems_bytes w 9998 l l (List.range 16) (fun i hi => by have := List.mem_range.1 hi; omega)]
  simp
end Go.Proofs.YtknpngeaodlmhaaDoor
namespace Go.Proofs.YtknpngeaodlmhaaDoor.polyAll
open Go.RowKit

set_option maxRecDepth 100000 in
set_option maxHeartbeats 4000000 in
theorem walk (hA : AeOk) {A1 A2 : Option Addr} {n1 c1 n2 c2 : Nat} {x1 x2 : List UInt8} (w : World) (hg : Gl w) (hr1 : Rd w A1 n1 c1 x1) (hr2 : Rd w A2 n2 c2 x2) :
    Calls Tryd.prog 5 #[.slice A1 n1 c1, .slice A2 n2 c2] w fun e w' => e = .returned (.bool true) ∧ Below w.heap.size w w' := by
  have HG := Lib.hid hg
  have R1 := Lib.hid hr1
  have R2 := Lib.hid hr2
  clear hg hr1 hr2
  go_enter Tryd.func5, Tryd.ntmps5
  go_wp2_with (first | (go_at_call 14; refine (begun4_any hA HG.out).mono ?_; rintro e w1 ⟨rfl, HB⟩; have W1 := Lib.hid HB; clear HB))
  refine (short_any 120 (R2.out.below W1.out) (by omega)).mono ?_
  rintro e w' ⟨A3, n3, c3, rfl, hr3, rfl⟩
  have R3 := Lib.hid hr3
  have hl3 : n3 ≤ 120 := by rw [← hr3.len, List.length_take]; omega
  clear hr3
  obtain ⟨b, hb⟩ : ∃ l, l = x2.take 120 := ⟨_, rfl⟩
  rw [← hb] at R3
  have K1 := Lib.hid (R1.out.below W1.out)
  clear hb R1 R2
  go_wp2_with fail
  refine (key_any K1.out).mono ?_
  rintro e w2 ⟨rfl, hX⟩
  have W2 := Lib.hid (W1.out.trans (hX.mono W1.out.size))
  have R4 := Lib.hid (R3.out.below hX)
  have K2 := Lib.hid (K1.out.below hX)
  obtain ⟨key, hkey⟩ : ∃ k, k = padTo 32 x1 := ⟨_, rfl⟩
  have LK : Hid (key.length = 32) := by unfold Hid; rw [hkey, padTo_length]
  have HKEY := Lib.hid hkey
  obtain ⟨T, hT⟩ : ∃ T, T = (Pol.tag key b).map cellOf := ⟨_, rfl⟩
  obtain ⟨kc, hkc⟩ : ∃ c, c = key.map cellOf := ⟨_, rfl⟩
  rw [← hkey, ← hkc]
  have CP : Hid (∀ W, Rd W A3 n3 c3 b → Calls Tryd.prog 24 #[.agg kc.toArray, .slice A3 n3 c3] W fun e w' => e = .returned (.agg T.toArray) ∧ Below W.heap.size W w') := fun W h => by rw [hkc, hT]; exact ptag_any key LK.out h
  have CR : Hid (∀ W, Rd W A3 n3 c3 b → Calls Tryd.prog 25 #[.agg kc.toArray, .slice A3 n3 c3] W fun e w' => e = .returned (.agg T.toArray) ∧ Below W.heap.size W w') := fun W h => by rw [hkc, hT]; exact rtag_any key LK.out h (by omega)
  have CK : Hid (∀ W, Rd W A1 n1 c1 x1 → Calls Tryd.prog 18 #[.slice A1 n1 c1] W fun e w' => e = .returned (.agg kc.toArray) ∧ Below W.heap.size W w') := fun W h => by rw [hkc, hkey]; exact key_any h
  have HEQ : Hid (∀ W, (Op.equalIn 10000 37 (.agg T.toArray) (.agg T.toArray)).run Tryd.prog W = .ok true W) := fun W => equal16 hT (tag_length key b) W
  clear hX hkey hT hkc R3 K1 W1
  go_wp2_with fail
  refine (CP.out _ R4.out).mono ?_
  rintro e w3 ⟨rfl, hX⟩
  have W3 := Lib.hid (W2.out.trans (hX.mono W2.out.size))
  have R5 := Lib.hid (R4.out.below hX)
  have K3 := Lib.hid (K2.out.below hX)
  clear hX R4 K2 W2
  go_wp2_with fail
  refine (CK.out _ K3.out).mono ?_
  rintro e w4 ⟨rfl, hX⟩
  have W4 := Lib.hid (W3.out.trans (hX.mono W3.out.size))
  have R6 := Lib.hid (R5.out.below hX)
  clear hX R5 K3 W3
  go_wp2_with fail
  refine (CR.out _ R6.out).mono ?_
  rintro e w5 ⟨rfl, hX⟩
  have W5 := Lib.hid (W4.out.trans (hX.mono W4.out.size))
  have heq := HEQ.out
  clear hX R6 W4
  go_wp2_with fail
  go_ret
  exact ⟨rfl, W5.out⟩
end Go.Proofs.YtknpngeaodlmhaaDoor.polyAll
