/-
  PROVED: for all int64 a and b the law NumOrder answers true (a number that is nearer to nought takes no more bytes). CONDITIONS: none beyond the row's own.
-/
import Derived.Test.YtgjpppgcocmlhaaRows
import Derived.WalkKit
import Derived.ProofKit
import Derived.OpenShut
import Derived.ShutString
import Derived.Below
import Derived.Test.YtgjpppgcocmlhaaBegun
namespace Go.Proofs.Ytgjpppgcocmlhaa.numOrder
open Go.ChangeShapes Go.WideShapes Go.ChangeAt Go.RowKit
open Go.ChangeMaps (open_string shut_string)
set_option linter.unusedVariables false      -- a walk need not use every 'w<i>' (that an integer argument fits its kind)

theorem own : ownKnob Try.prog.godebug = none := by kernel_rfl

theorem ret_bool {b : Bool} (h : b = true) : Ending.returned (.bool b) = .returned (.bool true) := by rw [h]

set_option maxRecDepth 100000 in
set_option maxHeartbeats 1000000 in
theorem walk (a0 : Int) (a1 : Int) (w0 : (Lit.int .i64 a0).wf = true) (w1 : (Lit.int .i64 a1).wf = true) (w : World) :
    Calls Try.prog 8 #[.int .i64 a0, .int .i64 a1] w fun e w' => e = .returned (.bool true) ∧ Below w.heap.size w w' := by
  have b0 := bounds_i64 w0
  have b1 := bounds_i64 w1
  clear w0 w1
  obtain ⟨b0l, b0h⟩ := b0
  obtain ⟨b1l, b1h⟩ := b1
  by_cases ha : a0 < 0
  · go_enter Try.func8, Try.ntmps8
    go_wp2_with (go_at_call 9; refine (begun_any _).mono ?_; rintro e w1 ⟨rfl, HB⟩; have HB1 := Lib.hid HB; clear HB)
    go_ret
    exact ⟨rfl, HB1.out⟩
  · by_cases hb : a1 < a0
    · go_enter Try.func8, Try.ntmps8
      go_wp2_with (go_at_call 9; refine (begun_any _).mono ?_; rintro e w1 ⟨rfl, HB⟩; have HB1 := Lib.hid HB; clear HB)
      go_ret
      exact ⟨rfl, HB1.out⟩
    · have hz := Num.zig_mono (a := a0) (b := a1) (by omega) (by omega)
      have m1 := Num.enc_mono _ _ hz.1
      have m2 := Num.enc_mono _ _ hz.2
      have p1 := Num.enc_pos (Num.zig a0)
      have p2 := Num.enc_pos (Num.zig a1)
      have p3 := Num.enc_pos (Num.zig (-a0))
      have p4 := Num.enc_pos (Num.zig (-a1))
      have l1 := Num.enc_len10 (Num.zig_lt a0 (by omega) (by omega))
      have l2 := Num.enc_len10 (Num.zig_lt a1 (by omega) (by omega))
      have l3 := Num.enc_len10 (Num.zig_lt (-a0) (by omega) (by omega))
      have l4 := Num.enc_len10 (Num.zig_lt (-a1) (by omega) (by omega))
      have hp1 := fun W => Lib.hid (put_any (w := W) a0 (by omega) (by omega) (Rd.nil _ none 0 (by unfold maxLen; omega)) (by omega))
      have hp2 := fun W => Lib.hid (put_any (w := W) a1 (by omega) (by omega) (Rd.nil _ none 0 (by unfold maxLen; omega)) (by omega))
      have hp3 := fun W => Lib.hid (put_any (w := W) (-a0) (by omega) (by omega) (Rd.nil _ none 0 (by unfold maxLen; omega)) (by omega))
      have hp4 := fun W => Lib.hid (put_any (w := W) (-a1) (by omega) (by omega) (Rd.nil _ none 0 (by unfold maxLen; omega)) (by omega))
      simp only [List.nil_append] at hp1 hp2 hp3 hp4
      generalize Num.enc (Num.zig a0) = x1 at *
      generalize Num.enc (Num.zig a1) = x2 at *
      generalize Num.enc (Num.zig (-a0)) = x3 at *
      generalize Num.enc (Num.zig (-a1)) = x4 at *
      clear hz
      go_enter Try.func8, Try.ntmps8
      go_wp2_with (go_at_call 9; refine (begun_any _).mono ?_; rintro e w1 ⟨rfl, HB⟩; have HB1 := Lib.hid HB; clear HB)
      refine (hp1 _).out.mono ?_
      rintro e w2 ⟨v, rfl, HO, HB⟩
      obtain ⟨g1, c1, rfl, _, _, _⟩ := HO.slice _ rfl p1
      have HB2 := Lib.hid (HB1.out.trans (HB.mono HB1.out.size))
      clear HO HB
      go_wp2_with fail
      refine (hp2 _).out.mono ?_
      rintro e w3 ⟨v, rfl, HO, HB⟩
      obtain ⟨g2, c2, rfl, _, _, _⟩ := HO.slice _ rfl p2
      have HB3 := Lib.hid (HB2.out.trans (HB.mono HB2.out.size))
      clear HO HB
      go_wp2_with fail
      refine (hp3 _).out.mono ?_
      rintro e w4 ⟨v, rfl, HO, HB⟩
      obtain ⟨g3, c3, rfl, _, _, _⟩ := HO.slice _ rfl p3
      have HB4 := Lib.hid (HB3.out.trans (HB.mono HB3.out.size))
      clear HO HB
      go_wp2_with fail
      refine (hp4 _).out.mono ?_
      rintro e w5 ⟨v, rfl, HO, HB⟩
      obtain ⟨g4, c4, rfl, _, _, _⟩ := HO.slice _ rfl p4
      have HB5 := Lib.hid (HB4.out.trans (HB.mono HB4.out.size))
      clear HO HB
      go_wp2_with fail
      go_ret
      exact ⟨ret_bool (by simp), HB5.out⟩

/-! ### THE ROW's STEP: WRITTEN OUT: LEAVE IT -/
set_option maxRecDepth 100000 in
theorem lifted (os : Os) (started : os.Started) (H : Type) (enc : TypeId × Value → H) :
    ReturnsInHanded {} Try.checked os 8 .any (Rows.numOrderSpec.pre6 enc Try.prog Try.f8 Rows.numOrderRow.domain false) (Rows.numOrderSpec.post enc Try.prog Try.f8 false true false false) := by
  refine returnsInHanded_of_change (C := Try.checked) own started (by kernel_rfl) Try.func8
    (ChangeSpec.witness6 (enc := enc) (C := Try.checked) false ⟨#[], #[.int .i64 0, .int .i64 0], []⟩ 8 (by kernel_rfl) (by kernel_rfl) (by kernel_rfl) (by kernel_rfl)) ?_
  intro W base args ds gs before hval0 hW hcnd _
  have hval : ∀ (j : Nat) t v, Try.f8.params[j]? = some t → args[j]? = some v → Value.okWide Try.prog W .any base t v := hval0
  have hW' := hW
  obtain ⟨p, q, hA0, hV, rfl, hfz, hnd⟩ := hW
  have hA : DataW.TrodAll enc Try.prog W 0 (fun _ => true) true Try.f8.params.toList args.toList ds p := hA0
  rw [Try.params8] at hA hval
  obtain ⟨v0, vs0, d0, ds0, p0, q0, hargs, rfl, rfl, h0, r0⟩ := trodAll_cons hA
  obtain ⟨v1, vs1, d1, ds1, p1, q1, rfl, rfl, rfl, h1, r1⟩ := trodAll_cons r0
  obtain ⟨rfl, rfl, rfl⟩ := trodAll_nil r1
  obtain rfl : args = #[v0, v1] := by cases args; simp_all
  obtain ⟨rfl, rfl⟩ := trodVars_none hV
  obtain ⟨a0, rfl, rfl, rfl, w0⟩ := open_int Try.underlying2 (hval 0 2 v0 rfl rfl) h0
  obtain ⟨a1, rfl, rfl, rfl, w1⟩ := open_int Try.underlying2 (hval 1 2 v1 rfl rfl) h1
  clear hA0 hval0
  simp only [List.append_nil] at hW'
  refine (walk a0 a1 w0 w1 W).mono fun e W' ⟨he, bel⟩ => ?_
  subst he
  exact ⟨_, rfl, _, _, _, [], [], [], hW', trodAll_mk1 (shut_bool Try.underlying4 _), trodAll_mk2 (shut_int Try.underlying2 w0) (shut_int Try.underlying2 w1), rfl, bel.frame _, fun h => by cases h⟩

theorem over : Rows.numOrderRow.holds Try.pinned (OpenSpec.ofChange Rows.numOrderSpec) :=
  OpenClaim.holds_of_wide 8 Try.f8 rfl rfl rfl rfl rfl rfl rfl ⟨rfl, rfl, rfl, rfl, rfl⟩ rfl rfl rfl rfl rfl (by kernel_rfl) Try.func8 (by kernel_rfl)
    (of_decide_eq_true (by kernel_rfl)) (by unfold Func.isWrapper; first | (rw [if_pos (by decide +kernel)]; kernel_rfl) | (rw [if_neg (by decide +kernel)]; exact ⟨rfl, rfl⟩))
    (fun os started H enc _ => lifted os started H enc)

end Go.Proofs.Ytgjpppgcocmlhaa.numOrder
namespace Go.Proofs.Ytgjpppgcocmlhaa
theorem numOrder_holds : Rows.NumOrderSaid := numOrder.over
#print axioms numOrder_holds
end Go.Proofs.Ytgjpppgcocmlhaa
