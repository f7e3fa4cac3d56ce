/-
  PROVED: for all n, s and cut the law NumCut answers true (a number or a text that is cut off anywhere is not all there). CONDITIONS: none beyond the row's own.
-/
import Derived.Test.YtgjpppgcocmlhaaRows
import Derived.WalkKit
import Derived.ProofKit
import Derived.OpenShut
import Derived.ShutString
import Derived.Below
import Derived.Test.YtgjpppgcocmlhaaBegun
namespace Go.Proofs.Ytgjpppgcocmlhaa.numCut
open Go.ChangeShapes Go.WideShapes Go.ChangeAt Go.RowKit
open Go.ChangeMaps (open_string shut_string)
set_option linter.unusedVariables false      -- a walk need not use every 'w<i>' (that an integer argument fits its kind)

theorem own : ownKnob Try.prog.godebug = none := by kernel_rfl

theorem ret_bool {b : Bool} (h : b = true) : Ending.returned (.bool b) = .returned (.bool true) := by rw [h]

/-- A text that is cut off is not all there. -/
theorem text_cut (t : List UInt8) (ht : t.length ≤ 1000) (m : Nat) (hm : m < (Num.enc (Num.zig t.length) ++ t).length) : Num.text ((Num.enc (Num.zig t.length) ++ t).take m) = ⟨[], 0, 2⟩ := by
  have hz := Num.zig_lt t.length (by omega) (by omega)
  unfold Num.text
  rcases Nat.lt_or_ge m (Num.enc (Num.zig t.length)).length with h | h
  · rw [List.take_append_of_le_length (by omega), Num.got_cut _ 0 0 m (by simpa using hz) h]
    rfl
  · have e : (Num.enc (Num.zig t.length) ++ t).take m = Num.enc (Num.zig t.length) ++ t.take (m - (Num.enc (Num.zig t.length)).length) := by
      rw [List.take_append, List.take_of_length_le h]
    have hl := congrArg List.length e
    rw [e, Num.got_enc _ _ 0 0 (by simpa using hz) (by omega)]
    simp only [Nat.pow_zero, Nat.mul_one, Nat.zero_add, Num.zag_zig]
    unfold Num.textOf
    rw [if_neg (by simp), if_neg (by simp; omega), if_pos]
    simp only [List.length_append, List.length_take, Int.toNat_natCast] at hm hl ⊢
    omega

theorem conv_sub {x k : Nat} (h : k ≤ x) : ((x - k : Nat) : Int) = (x : Int) - (k : Int) := by omega

set_option maxRecDepth 100000 in
set_option maxHeartbeats 4000000 in
theorem walk (a0 : Int) (a1 : ByteArray) (a2 : Int) (w0 : (Lit.int .i64 a0).wf = true) (w1 : a1.size ≤ maxLen) (w2 : (Lit.int .i64 a2).wf = true) (w : World) :
    Calls Try.prog 7 #[.int .i64 a0, .string a1, .int .i64 a2] w fun e w' => e = .returned (.bool true) ∧ Below w.heap.size w w' := by
  have b0 := bounds_i64 w0
  have b2 := bounds_i64 w2
  clear w0 w2
  unfold maxLen at w1
  obtain ⟨b0l, b0h⟩ := b0
  obtain ⟨b2l, b2h⟩ := b2
  have hput := fun W => Lib.hid (put_any (w := W) a0 (by omega) (by omega) (Rd.nil _ none 0 (by unfold maxLen; omega)) (by omega))
  simp only [List.nil_append] at hput
  have lb := Num.enc_len10 (Num.zig_lt a0 (by omega) (by omega))
  have pb := Num.enc_pos (Num.zig a0)
  have hcut := Lib.hid (fun m => Num.got_cut (Num.zig a0) 0 0 m (by simpa using Num.zig_lt a0 (by omega) (by omega)))
  generalize Num.enc (Num.zig a0) = xb at hput lb pb hcut
  by_cases hs : 100 < a1.size
  all_goals
    go_enter Try.func7, Try.ntmps7
    go_wp2_with (go_at_call 9; refine (begun_any _).mono ?_; rintro e w1 ⟨rfl, HB⟩; have HB1 := Lib.hid HB; clear HB)
    first
      | obtain ⟨t, ht⟩ : ∃ t, t = a1.extract 0 100 := ⟨_, rfl⟩
        have hts : t.size ≤ 100 := by rw [ht]; simp; omega
        rw [← ht]
        clear ht
      | obtain ⟨t, ht⟩ : ∃ t, t = a1 := ⟨_, rfl⟩
        have hts : t.size ≤ 100 := by rw [ht]; omega
        rw [← ht]
        clear ht
    refine (hput _).out.mono ?_
    rintro e w2 ⟨v, rfl, HO, HB⟩
    obtain ⟨g1, c1, rfl, _, _, hr1⟩ := HO.slice _ rfl pb
    have HB2 := Lib.hid (HB1.out.trans (HB.mono HB1.out.size))
    have HR1 := Lib.hid hr1
    clear HO HB hr1 HB1
    go_wp2_with fail
    refine (ptext_any t (Rd.nil _ none 0 (by unfold maxLen; omega)) (by omega) (by omega)).mono ?_
    rintro e w3 ⟨v, rfl, HO, HB⟩
    rw [List.nil_append] at HO
    have hct := fun m => text_cut t.data.toList (by rw [size_data]; omega) m
    rw [size_data] at hct
    have pc : 0 < (Num.enc (Num.zig t.size) ++ t.data.toList).length := by
      have := Num.enc_pos (Num.zig t.size)
      rw [List.length_append]
      omega
    have lc : (Num.enc (Num.zig t.size) ++ t.data.toList).length ≤ 110 := by
      have := Num.enc_len10 (Num.zig_lt t.size (by omega) (by omega))
      rw [List.length_append, size_data]
      omega
    have HCT := Lib.hid hct
    clear hct
    generalize Num.enc (Num.zig t.size) ++ t.data.toList = xc at HO HCT pc lc
    obtain ⟨g2, c2, rfl, _, _, hr2⟩ := HO.slice _ rfl pc
    have HR1b := Lib.hid (HR1.out.below HB)
    have HB3 := Lib.hid (HB2.out.trans (HB.mono HB2.out.size))
    have HR2 := Lib.hid hr2
    have hcap1 := HR1.out.cap
    have hcap2 := hr2.cap
    clear HO HB hr2 HB2 HR1
    by_cases hc1 : a2 < 1
    · go_wp2_with fail
      go_ret
      exact ⟨rfl, HB3.out⟩
    · obtain ⟨k, rfl⟩ := Int.eq_ofNat_of_zero_le (show 0 ≤ a2 by omega)
      have hk1 : 1 ≤ k := by omega
      clear hc1
      by_cases hkb : k ≤ xb.length
      · have hsl := slice_h (some ⟨g1, 0, none⟩) xb.length c1 (xb.length - k) (by omega) w3
        rw [conv_sub hkb] at hsl
        have hrc := HR1b.out.cut (k := 0) (e := xb.length - k) (by omega) (by omega)
        simp only [List.drop_zero, Nat.sub_zero] at hrc
        have HRC := Lib.hid hrc
        have HG := Lib.hid (hcut.out (xb.length - k) (by omega))
        clear hrc
        by_cases hkc : k ≤ xc.length
        all_goals
          go_wp2_with fail
          refine (get_any HRC.out).mono ?_
          rintro e w4 ⟨rfl, rfl⟩
          rw [HG.out]
          clear hsl
        · have hsl2 := slice_h (some ⟨g2, 0, none⟩) xc.length c2 (xc.length - k) (by omega) w3
          rw [conv_sub hkc] at hsl2
          have hrc2 := HR2.out.cut (k := 0) (e := xc.length - k) (by omega) (by omega)
          simp only [List.drop_zero, Nat.sub_zero] at hrc2
          have HRC2 := Lib.hid hrc2
          have HG2 := Lib.hid (HCT.out (xc.length - k) (by omega))
          clear hrc2
          go_wp2_with fail
          refine (gtext_any HRC2.out).mono ?_
          rintro e w4 ⟨rfl, rfl⟩
          rw [HG2.out]
          go_wp2_with fail
          go_ret
          exact ⟨rfl, HB3.out⟩
        · go_wp2_with fail
          go_ret
          exact ⟨rfl, HB3.out⟩
      · by_cases hkc : k ≤ xc.length
        · have hsl2 := slice_h (some ⟨g2, 0, none⟩) xc.length c2 (xc.length - k) (by omega) w3
          rw [conv_sub hkc] at hsl2
          have hrc2 := HR2.out.cut (k := 0) (e := xc.length - k) (by omega) (by omega)
          simp only [List.drop_zero, Nat.sub_zero] at hrc2
          have HRC2 := Lib.hid hrc2
          have HG2 := Lib.hid (HCT.out (xc.length - k) (by omega))
          clear hrc2
          go_wp2_with fail
          refine (gtext_any HRC2.out).mono ?_
          rintro e w4 ⟨rfl, rfl⟩
          rw [HG2.out]
          go_wp2_with fail
          go_ret
          exact ⟨rfl, HB3.out⟩
        · go_wp2_with fail
          go_ret
          exact ⟨rfl, HB3.out⟩

set_option maxRecDepth 100000 in
theorem lifted (os : Os) (started : os.Started) (H : Type) (enc : TypeId × Value → H) :
    ReturnsInHanded {} Try.checked os 7 .any (Rows.numCutSpec.pre6 enc Try.prog Try.f7 Rows.numCutRow.domain false) (Rows.numCutSpec.post enc Try.prog Try.f7 false true false false) := by
  refine returnsInHanded_of_change (C := Try.checked) own started (by kernel_rfl) Try.func7
    (ChangeSpec.witness6 (enc := enc) (C := Try.checked) false ⟨#[], #[.int .i64 0, .string ByteArray.empty, .int .i64 0], []⟩ 8 (by kernel_rfl) (by kernel_rfl) (by kernel_rfl) (by kernel_rfl)) ?_
  intro W base args ds gs before hval0 hW hcnd _
  have hval : ∀ (j : Nat) t v, Try.f7.params[j]? = some t → args[j]? = some v → Value.okWide Try.prog W .any base t v := hval0
  have hW' := hW
  obtain ⟨p, q, hA0, hV, rfl, hfz, hnd⟩ := hW
  have hA : DataW.TrodAll enc Try.prog W 0 (fun _ => true) true Try.f7.params.toList args.toList ds p := hA0
  rw [Try.params7] at hA hval
  obtain ⟨v0, vs0, d0, ds0, p0, q0, hargs, rfl, rfl, h0, r0⟩ := trodAll_cons hA
  obtain ⟨v1, vs1, d1, ds1, p1, q1, rfl, rfl, rfl, h1, r1⟩ := trodAll_cons r0
  obtain ⟨v2, vs2, d2, ds2, p2, q2, rfl, rfl, rfl, h2, r2⟩ := trodAll_cons r1
  obtain ⟨rfl, rfl, rfl⟩ := trodAll_nil r2
  obtain rfl : args = #[v0, v1, v2] := by cases args; simp_all
  obtain ⟨rfl, rfl⟩ := trodVars_none hV
  obtain ⟨a0, rfl, rfl, rfl, w0⟩ := open_int Try.underlying2 (hval 0 2 v0 rfl rfl) h0
  obtain ⟨a1, rfl, rfl, rfl, w1⟩ := open_string Try.underlying9 (hval 1 9 v1 rfl rfl) h1
  obtain ⟨a2, rfl, rfl, rfl, w2⟩ := open_int Try.underlying3 (hval 2 3 v2 rfl rfl) h2
  clear hA0 hval0
  simp only [List.append_nil] at hW'
  refine (walk a0 a1 a2 w0 w1 w2 W).mono fun e W' ⟨he, bel⟩ => ?_
  subst he
  exact ⟨_, rfl, _, _, _, [], [], [], hW', trodAll_mk1 (shut_bool Try.underlying4 _), trodAll_mk3 (shut_int Try.underlying2 w0) (shut_string Try.underlying9 w1) (shut_int Try.underlying3 w2), rfl, bel.frame _, fun h => by cases h⟩

theorem over : Rows.numCutRow.holds Try.pinned (OpenSpec.ofChange Rows.numCutSpec) :=
  OpenClaim.holds_of_wide 7 Try.f7 rfl rfl rfl rfl rfl rfl rfl ⟨rfl, rfl, rfl, rfl, rfl⟩ rfl rfl rfl rfl rfl (by kernel_rfl) Try.func7 (by kernel_rfl)
    (of_decide_eq_true (by kernel_rfl)) (by unfold Func.isWrapper; first | (rw [if_pos (by decide +kernel)]; kernel_rfl) | (rw [if_neg (by decide +kernel)]; exact ⟨rfl, rfl⟩))
    (fun os started H enc _ => lifted os started H enc)

end Go.Proofs.Ytgjpppgcocmlhaa.numCut
namespace Go.Proofs.Ytgjpppgcocmlhaa
theorem numCut_holds : Rows.NumCutSaid := numCut.over
#print axioms numCut_holds
end Go.Proofs.Ytgjpppgcocmlhaa
