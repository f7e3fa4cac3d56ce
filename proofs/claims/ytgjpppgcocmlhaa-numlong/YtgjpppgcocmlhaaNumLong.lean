/-
  PROVED: for all n, last and fill the law NumLong answers true (numbers of so many bytes are told as the document says). CONDITIONS: none beyond the row's own.
-/
import Derived.Test.YtgjpppgcocmlhaaRows
import Derived.WalkKit
import Derived.ProofKit
import Derived.OpenShut
import Derived.ShutString
import Derived.Below
import Derived.Test.YtgjpppgcocmlhaaBegun
namespace Go.Proofs.Ytgjpppgcocmlhaa.numLong
open Go.ChangeShapes Go.WideShapes Go.ChangeAt Go.RowKit
open Go.ChangeMaps (open_string shut_string)
set_option linter.unusedVariables false      -- a walk need not use every 'w<i>' (that an integer argument fits its kind)

theorem own : ownKnob Try.prog.godebug = none := by kernel_rfl

theorem ret_bool {b : Bool} (h : b = true) : Ending.returned (.bool b) = .returned (.bool true) := by rw [h]

theorem byte_of {n : Int} (h : 0 ≤ n ∧ n ≤ 255) : ∃ y : UInt8, n = (y.toNat : Int) := ⟨UInt8.ofNat n.toNat, by simp; omega⟩

set_option maxRecDepth 100000 in
set_option maxHeartbeats 2000000 in
theorem walk (a0 : Int) (a1 : Int) (a2 : Int) (w0 : (Lit.int .i64 a0).wf = true) (w1 : (Lit.int .u8 a1).wf = true) (w2 : (Lit.int .u8 a2).wf = true) (w : World) :
    Calls Try.prog 5 #[.int .i64 a0, .int .u8 a1, .int .u8 a2] w fun e w' => e = .returned (.bool true) ∧ Below w.heap.size w w' := by
  have b0 := bounds_i64 w0
  have b1 := bounds_u8 w1
  have b2 := bounds_u8 w2
  have b3 := bounds_u8 (wf_bits .or .u8 a2 128)
  clear w0 w1 w2
  obtain ⟨y1, hy1⟩ := byte_of b1
  obtain ⟨y3, hy3⟩ := byte_of b3
  have Y1 := Lib.hid hy1
  have Y3 := Lib.hid hy3
  clear hy1 hy3
  by_cases ha : a0 < 0
  · have hd : decide (a0 < 0) = true := by simpa using ha
    go_enter Try.func5, Try.ntmps5
    go_wp2_with (go_at_call 9; refine (begun_any _).mono ?_; rintro e w1 ⟨rfl, HB⟩; have HB1 := Lib.hid HB; clear HB)
    go_ret
    exact ⟨rfl, HB1.out⟩
  · by_cases hb : 14 < a0
    · have hd : decide (a0 < 0) = false := by simpa using ha
      go_enter Try.func5, Try.ntmps5
      go_wp2_with (go_at_call 9; refine (begun_any _).mono ?_; rintro e w1 ⟨rfl, HB⟩; have HB1 := Lib.hid HB; clear HB)
      go_ret
      exact ⟨rfl, HB1.out⟩
    · obtain ⟨n, rfl⟩ := Int.eq_ofNat_of_zero_le (show 0 ≤ a0 by omega)
      have hn : n ≤ 14 := by omega
      have hd : decide ((n : Int) < 0) = false := by simp
      have hd2 : decide ((14 : Int) < (n : Int)) = false := by simp; omega
      clear ha hb b0
      go_enter Try.func5, Try.ntmps5
      go_wp2_with (go_at_call 9; refine (begun_any _).mono ?_; rintro e w1 ⟨rfl, HB⟩; have HB1 := Lib.hid HB; clear HB)
      clear hd hd2
      go_loopw [8, 9] (fun s i wr => ∃ (k : Nat) (l : List UInt8), k ≤ n ∧ i = .int .i64 k ∧ Hid (l.length = k) ∧ Hid (Ow wr w.heap.size s l) ∧ Hid (Below w.heap.size w wr)) (fun _ i _ => n - (intOf i).toNat)
      case atStart => exact ⟨0, [], by omega, rfl, rfl, Ow.empty _ _, HB1⟩
      case round =>
        clear HB1
        obtain ⟨k, l, hk, rfl, HL, HO, HB⟩ := hrel
        have hlen : l.length ≤ 14 := by rw [HL.out]; omega
        have hBs : w.heap.size ≤ wr.heap.size := HB.out.size
        by_cases hkn : k < n
        · go_wp2_with (first | (at_builtin; refine push_law rfl _ _ rfl rfl rfl _ HO.out Y3.out (by omega) hBs HB.out ?_; intro v1 w1 HO1 HB1))
          go_roundw
          case rel => exact ⟨k + 1, _, by omega, by go_num, by unfold Hid; simp [HL.out], HO1, HB1⟩
          case measure => simp [intOf]; omega
        · go_wp2_with (first | (at_builtin; refine push_law rfl _ _ rfl rfl rfl _ HO.out Y1.out (by omega) hBs HB.out ?_; intro v1 w1 HO1 HB1))
          obtain ⟨g, c, rfl, _, _, hr⟩ := HO1.out.slice (k + 1) (by simp [HL.out]) (by omega)
          have HR := Lib.hid hr
          clear hr HO1 HO
          refine (get_any HR.out).mono ?_
          rintro e w2 ⟨rfl, rfl⟩
          go_wp2_with fail
          refine (rget_any HR.out).mono ?_
          rintro e w2 ⟨rfl, rfl⟩
          go_wp2_with fail
          go_ret
          exact ⟨ret_bool (by simp), HB1.out⟩

set_option maxRecDepth 100000 in
theorem lifted (os : Os) (started : os.Started) (H : Type) (enc : TypeId × Value → H) :
    ReturnsInHanded {} Try.checked os 5 .any (Rows.numLongSpec.pre6 enc Try.prog Try.f5 Rows.numLongRow.domain false) (Rows.numLongSpec.post enc Try.prog Try.f5 false true false false) := by
  refine returnsInHanded_of_change (C := Try.checked) own started (by kernel_rfl) Try.func5
    (ChangeSpec.witness6 (enc := enc) (C := Try.checked) false ⟨#[], #[.int .i64 0, .int .u8 0, .int .u8 0], []⟩ 8 (by kernel_rfl) (by kernel_rfl) (by kernel_rfl) (by kernel_rfl)) ?_
  intro W base args ds gs before hval0 hW hcnd _
  have hval : ∀ (j : Nat) t v, Try.f5.params[j]? = some t → args[j]? = some v → Value.okWide Try.prog W .any base t v := hval0
  have hW' := hW
  obtain ⟨p, q, hA0, hV, rfl, hfz, hnd⟩ := hW
  have hA : DataW.TrodAll enc Try.prog W 0 (fun _ => true) true Try.f5.params.toList args.toList ds p := hA0
  rw [Try.params5] at hA hval
  obtain ⟨v0, vs0, d0, ds0, p0, q0, hargs, rfl, rfl, h0, r0⟩ := trodAll_cons hA
  obtain ⟨v1, vs1, d1, ds1, p1, q1, rfl, rfl, rfl, h1, r1⟩ := trodAll_cons r0
  obtain ⟨v2, vs2, d2, ds2, p2, q2, rfl, rfl, rfl, h2, r2⟩ := trodAll_cons r1
  obtain ⟨rfl, rfl, rfl⟩ := trodAll_nil r2
  obtain rfl : args = #[v0, v1, v2] := by cases args; simp_all
  obtain ⟨rfl, rfl⟩ := trodVars_none hV
  obtain ⟨a0, rfl, rfl, rfl, w0⟩ := open_int Try.underlying3 (hval 0 3 v0 rfl rfl) h0
  obtain ⟨a1, rfl, rfl, rfl, w1⟩ := open_int Try.underlying5 (hval 1 5 v1 rfl rfl) h1
  obtain ⟨a2, rfl, rfl, rfl, w2⟩ := open_int Try.underlying5 (hval 2 5 v2 rfl rfl) h2
  clear hA0 hval0
  simp only [List.append_nil] at hW'
  refine (walk a0 a1 a2 w0 w1 w2 W).mono fun e W' ⟨he, bel⟩ => ?_
  subst he
  exact ⟨_, rfl, _, _, _, [], [], [], hW', trodAll_mk1 (shut_bool Try.underlying4 _), trodAll_mk3 (shut_int Try.underlying3 w0) (shut_int Try.underlying5 w1) (shut_int Try.underlying5 w2), rfl, bel.frame _, fun h => by cases h⟩

theorem over : Rows.numLongRow.holds Try.pinned (OpenSpec.ofChange Rows.numLongSpec) :=
  OpenClaim.holds_of_wide 5 Try.f5 rfl rfl rfl rfl rfl rfl rfl ⟨rfl, rfl, rfl, rfl, rfl⟩ rfl rfl rfl rfl rfl (by kernel_rfl) Try.func5 (by kernel_rfl)
    (of_decide_eq_true (by kernel_rfl)) (by unfold Func.isWrapper; first | (rw [if_pos (by decide +kernel)]; kernel_rfl) | (rw [if_neg (by decide +kernel)]; exact ⟨rfl, rfl⟩))
    (fun os started H enc _ => lifted os started H enc)

end Go.Proofs.Ytgjpppgcocmlhaa.numLong
namespace Go.Proofs.Ytgjpppgcocmlhaa
theorem numLong_holds : Rows.NumLongSaid := numLong.over
#print axioms numLong_holds
end Go.Proofs.Ytgjpppgcocmlhaa
