import Derived.Test.YtijncclcdkgaoaaDoorSBegun9
namespace Go.Proofs.YtijncclcdkgaoaaDoor
set_option linter.unusedVariables false
set_option linter.unusedSimpArgs false
set_option maxRecDepth 100000
open Go.RowKit
theorem beside_inj {lb : List UInt8} {a b : Int} (a1 : -9223372036854775808 ≤ a) (a2 : a ≤ 9223372036854775807) (b1 : -9223372036854775808 ≤ b) (b2 : b ≤ 9223372036854775807) (h : Rc.beside lb a = Rc.beside lb b) : a = b := by
  have e : Num.enc (Num.zig a) = Num.enc (Num.zig b) := List.append_cancel_left h
  have z1 := Num.zig_lt a a1 a2
  have z2 := Num.zig_lt b b1 b2
  have e1 := Num.got_enc [] (Num.zig a) 0 0 (by omega) (by omega)
  have e2 := Num.got_enc [] (Num.zig b) 0 0 (by omega) (by omega)
  rw [e, e2] at e1
  injection e1 with h1 _ _
  rw [Nat.zero_add, Nat.zero_add, Nat.pow_zero, Nat.mul_one, Nat.mul_one, Num.zag_zig, Num.zag_zig] at h1
  exact h1.symm
theorem rec_zero_eq (W : World) : (Op.equalIn 10000 42 (.agg (recL ⟨0, false, []⟩).toArray) (.agg (recL ⟨0, false, []⟩).toArray)).run Tryd.prog W = .ok true W := by
  kernel_rfl
end Go.Proofs.YtijncclcdkgaoaaDoor
namespace Go.Proofs.YtijncclcdkgaoaaDoor.recEpochs
set_option linter.unusedVariables false
set_option linter.unusedSimpArgs false
set_option maxRecDepth 100000
open Go.RowKit
set_option maxRecDepth 100000 in
set_option maxHeartbeats 4000000 in
theorem walk {P : BxP} (hB : BoxOk P) (ideal : Bool) (ep no by_ : Int) (number : Bool) (w : World) (hg : Gl w) : Calls Tryd.prog 11 #[.bool ideal, .int .i64 ep, .int .i64 no, .int .i64 by_, .bool number] w fun e w' => e = .returned (.bool true) ∧ Below w.heap.size w w' := by
  have HG := Lib.hid hg
  have HB := Lib.hid hB
  have hsz := hg.size
  clear hg hB
  go_enter Tryd.func11, Tryd.ntmps11
  go_wp2_with fail
  refine (begun9_any HB.out HG.out).mono ?_
  rintro e w1 ⟨rfl, hX⟩
  have W1 := Lib.hid hX
  clear hX
  by_cases h0 : ep < 0
  · go_wp2_with fail
    go_ret
    exact ⟨rfl, W1.out⟩
  by_cases h1 : 1099511627776 < ep
  · go_wp2_with fail
    go_ret
    exact ⟨rfl, W1.out⟩
  by_cases h2 : no < 0
  · go_wp2_with fail
    go_ret
    exact ⟨rfl, W1.out⟩
  by_cases h3 : 1099511627776 < no
  · go_wp2_with fail
    go_ret
    exact ⟨rfl, W1.out⟩
  by_cases h4 : by_ < 1
  · go_wp2_with fail
    go_ret
    exact ⟨rfl, W1.out⟩
  by_cases h5 : 1048576 < by_
  · go_wp2_with fail
    go_ret
    exact ⟨rfl, W1.out⟩
  cases ideal with
  | false =>
    go_wp2_with fail
    go_ret
    exact ⟨rfl, W1.out⟩
  | true =>
    have hwe : IntKind.i64.wrap (ep + by_) = ep + by_ := by rw [IntKind.wrap_i64]; omega
    have hwn : IntKind.i64.wrap (no + by_) = no + by_ := by rw [IntKind.wrap_i64]; omega
    have hcv := conv23
    obtain ⟨k4, hk4⟩ : ∃ k, k = (key1 4).map cellOf := ⟨_, rfl⟩
    have BK4 : Hid (Tryd.prog.built 26 [(0, .int .u8 4)] = some k4.toArray) := by unfold Hid; rw [hk4]; kernel_rfl
    obtain ⟨L1, hL1⟩ : ∃ l, l = recL Rc.one := ⟨_, rfl⟩
    obtain ⟨L0, hL0⟩ : ∃ l, l = recL ⟨0, false, []⟩ := ⟨_, rfl⟩
    have BL1 : Hid (Tryd.prog.built 42 [(0, .int .i64 1), (2, .string ⟨#[118]⟩)] = some L1.toArray) := by unfold Hid; rw [hL1]; kernel_rfl
    have BL0 : Hid (Tryd.prog.built 42 [] = some L0.toArray) := by unfold Hid; rw [hL0]; kernel_rfl
    have IL0 : Hid ((Tryd.prog.info? 42).map (·.size) = some L0.length) := by unfold Hid; rw [hL0]; kernel_rfl
    have OL0 : Hid (∀ v ∈ L0, v.oneCell' = true) := by unfold Hid; rw [hL0]; simp [recL, Value.oneCell']
    have HL0 : Hid (L0 = [.int .i64 0, .bool false, .string ⟨#[]⟩]) := hL0
    have EQ0 : Hid (∀ W, (Op.equalIn 10000 42 (.agg L0.toArray) (.agg #[.int .i64 0, .bool false, .string ⟨#[]⟩])).run Tryd.prog W = .ok true W) := by unfold Hid; rw [hL0]; exact rec_zero_eq
    obtain ⟨lt, hlt⟩ : ∃ l, l = Tap.tape 1 0 48 := ⟨_, rfl⟩
    have LT : Hid (lt.length = 48) := by unfold Hid; rw [hlt, Tap.tape_length]
    obtain ⟨S1, hS1⟩ : ∃ S, S = [Bx.SNote.mk (Rc.sealKey [115] ep) no (Rc.beside (key1 4) ep) (Rc.put Rc.one) lt] := ⟨_, rfl⟩
    have CSL : Hid (∀ (W : World) (g : Nat) (M : Nat → Prop) (A : Option Addr), Gl W → (∀ b, M b → 3 ≤ b) → P W g (.ideal 1 0 [] [] []) M → Rd W A 1 1 [115] → Calls Tryd.prog 26 #[.pointer (some ⟨g, 0, none⟩), .slice A 1 1, .int .i64 ep, .int .i64 no, .agg k4.toArray, .agg L1.toArray] W fun e w' => ∃ M', e = .returned (.tuple #[.agg #[.int .i64 ep, .int .i64 no, .string ⟨lt.toArray⟩], .int .i64 0]) ∧ P w' g (.ideal 1 48 S1 [] []) M' ∧ Fr M W w' ∧ ∀ b, M' b → M b ∨ W.heap.size ≤ b) := fun W g M A h1 h0 h2 h3 => by
      have := rsealI_any HB.out (lb := key1 4) Rc.one ep no h1 h0 h2 (by omega) h3 (by omega) one_may (by omega) (by omega) (by omega) (by omega) (key1_length 4)
      rw [one_len] at this
      rw [hk4, hL1, hS1, hlt]
      exact this
    have COP : ∀ (ep' no' : Int), (ep' = ep ∧ no' = no + by_ ∨ ep' = ep + by_ ∧ no' = no) → ∀ (W : World) (g : Nat) (M : Nat → Prop) (A : Option Addr), Gl W → P W g (.ideal 1 48 S1 [] []) M → Rd W A 1 1 [115] → Calls Tryd.prog 29 #[.pointer (some ⟨g, 0, none⟩), .slice A 1 1, .agg k4.toArray, .agg #[.int .i64 ep', .int .i64 no', .string ⟨lt.toArray⟩]] W fun e w' => e = .returned (.tuple #[.agg L0.toArray, .int .i64 9]) ∧ Below W.heap.size W w' := fun ep' no' hor W g M A h1 h2 h3 => by
      have e1 : Bx.openBy (Rc.sealKey [115] ep') no' (Rc.beside (key1 4) ep') lt S1 = ([], false) := by
        rw [hS1]
        have hne : ¬ (Rc.sealKey [115] ep = Rc.sealKey [115] ep' ∧ no = no' ∧ Rc.beside (key1 4) ep = Rc.beside (key1 4) ep' ∧ lt = lt) := by
          rintro ⟨_, hn, hb, _⟩
          have := beside_inj (by omega) (by omega) (by omega) (by omega) hb
          omega
        unfold Bx.openBy Bx.lookS
        rw [if_neg hne]
        rfl
      have := ropenI_any HB.out (lb := key1 4) (bx := lt) ep' no' h1 h2 h3 (by omega) (by omega) (by omega) (by omega) (by omega) (key1_length 4) (by rw [LT.out]; omega) (by rw [e1]; simp)
      rw [e1] at this
      rw [hk4, hL0]
      exact this
    have CN := Lib.hid (COP ep (no + by_) (.inl ⟨rfl, rfl⟩))
    have CE := Lib.hid (COP (ep + by_) no (.inr ⟨rfl, rfl⟩))
    clear hk4 hL1 hL0 hlt hS1 COP
    go_wp2_with fail
    refine (tnew_any 1 w1 (by omega) (by omega)).mono ?_
    rintro e wa ⟨tp, rfl, htp, hT, hY⟩
    have hs1 := W1.out.size
    have hsa := hY.size
    have Wa := Lib.hid (W1.out.trans (hY.mono W1.out.size))
    have T2 := Lib.hid hT
    clear hY hT
    go_wp2_with fail
    refine (HB.out.newI T2.out).mono ?_
    rintro e wb ⟨gi, Mi, rfl, hMi, hP, hY⟩
    have hsb := hY.size
    have Wb := Lib.hid (Wa.out.trans (hY.mono Wa.out.size))
    have PI := Lib.hid hP
    have MI : Hid (∀ b, Mi b → w1.heap.size ≤ b ∧ b < wb.heap.size) := fun b hb => ⟨by rcases hMi b hb with h | h <;> omega, HB.out.lt hP hb⟩
    clear hY hP hMi T2 Wa
    go_wp2_with (first
      | (with_reducible refine build_law rfl 26 #[(0, .const (.int .u8 4))] rfl k4 (by simp only [List.map_toArray, List.map_cons, List.map_nil, eval_const]; exact BK4.out) ?_)
      | (with_reducible refine build_law rfl 42 #[(0, .const (.int .i64 1)), (2, .const (.string ⟨#[118]⟩))] rfl L1 (by simp only [List.map_toArray, List.map_cons, List.map_nil, eval_const]; exact BL1.out) ?_))
    obtain ⟨gwc, hgwc⟩ : ∃ g, g = wb.heap.size := ⟨_, rfl⟩
    obtain ⟨wc, hwc⟩ : ∃ x, x = wb.alloc (.cells #[.int .u8 115] 5 (1, 2)) := ⟨_, rfl⟩
    have hX : Below wb.heap.size wb wc := by rw [hwc]; exact alloc_below _ _
    have RC := Lib.hid (show Rd wc (some ⟨gwc, 0, none⟩) 1 1 [115] by rw [hwc]; exact lit_bytesF wb _ _ 1 _ _ (by rfl) rfl (by omega) hgwc)
    rw [← hgwc, ← hwc]
    have Wc := Lib.hid (Wb.out.trans (hX.mono Wb.out.size))
    replace PI := Lib.hid (HB.out.below PI.out hX)
    refine (CSL.out wc gi Mi _ (HG.out.below Wc.out hsz) (fun b hb => by have := MI.out b hb; omega) PI.out RC.out).mono ?_
    rintro e wd ⟨M2, rfl, hP, hF, hM2⟩
    have Wd := Lib.hid (hF.below Wc.out (fun b hb => by have := MI.out b hb; omega) Wc.out.size)
    replace PI := Lib.hid hP
    clear hX hP hF hM2 RC hwc hgwc CSL Wb Wc BL1
    cases number with
    | true =>
      go_upto_region 13 with (fail)
      obtain ⟨w5, hw5⟩ : ∃ x, x = wd.alloc (.cells #[.int .i64 ep, .int .i64 (no + by_), .string ⟨lt.toArray⟩] 50) := ⟨_, rfl⟩
      have EB : Hid (Blk w5 wd.heap.size 50 [.int .i64 ep, .int .i64 (no + by_), .string ⟨lt.toArray⟩]) := by unfold Hid; rw [hw5]; exact Blk.new _ _ _
      have X5 : Below wd.heap.size wd w5 := by rw [hw5]; exact alloc_below _ _
      have W5 := Lib.hid (Wd.out.trans (X5.mono Wd.out.size))
      replace PI := Lib.hid (HB.out.below PI.out X5)
      obtain ⟨ge, hge⟩ : ∃ g, g = wd.heap.size := ⟨_, rfl⟩
      rw [← hge] at EB
      rw [← hw5]
      rw [← hge]
      clear X5 hw5 hge Wd
      have IE : Hid ((Tryd.prog.info? 50).map (·.size) = some ([.int .i64 ep, .int .i64 (no + by_), .string ⟨lt.toArray⟩] : List Value).length) := by unfold Hid; kernel_rfl
      have FE : Hid (∀ j v, ([.int .i64 ep, .int .i64 (no + by_), .string ⟨lt.toArray⟩] : List Value)[j]? = some v → (w5.alloc (.cells #[.int .u8 115] 5 (1, 2))).cell? ⟨ge, 0 + j, none⟩ = some v) := (EB.out.alloc _).cells
      go_wp2_with (first
        | (with_reducible refine build_law rfl 26 #[(0, .const (.int .u8 4))] rfl k4 (by simp only [List.map_toArray, List.map_cons, List.map_nil, eval_const]; exact BK4.out) ?_)
        | (with_reducible refine load_law rfl 50 (.tmp 13) rfl ge 0 rfl [.int .i64 ep, .int .i64 (no + by_), .string ⟨lt.toArray⟩] _ Tryd.underlying50 rfl IE.out FE.out ?_))
      obtain ⟨gwf, hgwf⟩ : ∃ g, g = w5.heap.size := ⟨_, rfl⟩
      obtain ⟨wf, hwf⟩ : ∃ x, x = w5.alloc (.cells #[.int .u8 115] 5 (1, 2)) := ⟨_, rfl⟩
      have hX : Below w5.heap.size w5 wf := by rw [hwf]; exact alloc_below _ _
      have RF := Lib.hid (show Rd wf (some ⟨gwf, 0, none⟩) 1 1 [115] by rw [hwf]; exact lit_bytesF w5 _ _ 1 _ _ (by rfl) rfl (by omega) hgwf)
      rw [← hgwf, ← hwf]
      have Wf := Lib.hid (W5.out.trans (hX.mono W5.out.size))
      replace PI := Lib.hid (HB.out.below PI.out hX)
      refine (CN.out wf gi _ _ (HG.out.below Wf.out hsz) PI.out RF.out).mono ?_
      rintro e wh ⟨rfl, hY⟩
      have Wh := Lib.hid (Wf.out.trans (hY.mono Wf.out.size))
      clear hX hY RF FE EB IE hwf hgwf CN CE W5 Wf hcv BK4 PI
      go_upto_region 14 with (first
        | ((with_reducible refine storeGen_law rfl 42 (.tmp 15) (.tmp 79) rfl wh.heap.size rfl L0 rfl 42 L0 IL0.out rfl OL0.out wh.heap.size wh ?_ ?_ (Nat.le_refl _) ?_)
           · rw [HL0.out]; exact Blk.at_new _ _ 42 _ _ (by rfl) rfl
           · exact (Below.refl _ _).alloc (Nat.le_refl _) _
           intro wi B3 X3))
      have Wi := Lib.hid (Wh.out.trans (X3.out.mono Wh.out.size))
      have heq := EQ0.out
      clear X3 Wh
      go_wp2_with ((with_reducible refine loadW_law ?gd 42 (.tmp 15) rfl wh.heap.size 0 ?hx L0 _ Tryd.underlying42 rfl IL0.out B3.out.cells ?_); (case gd => rfl); (case hx => rfl))
      go_ret
      exact ⟨rfl, Wi.out⟩
    | false =>
      go_upto_region 13 with (fail)
      obtain ⟨w5, hw5⟩ : ∃ x, x = wd.alloc (.cells #[.int .i64 (ep + by_), .int .i64 no, .string ⟨lt.toArray⟩] 50) := ⟨_, rfl⟩
      have EB : Hid (Blk w5 wd.heap.size 50 [.int .i64 (ep + by_), .int .i64 no, .string ⟨lt.toArray⟩]) := by unfold Hid; rw [hw5]; exact Blk.new _ _ _
      have X5 : Below wd.heap.size wd w5 := by rw [hw5]; exact alloc_below _ _
      have W5 := Lib.hid (Wd.out.trans (X5.mono Wd.out.size))
      replace PI := Lib.hid (HB.out.below PI.out X5)
      obtain ⟨ge, hge⟩ : ∃ g, g = wd.heap.size := ⟨_, rfl⟩
      rw [← hge] at EB
      rw [← hw5]
      rw [← hge]
      clear X5 hw5 hge Wd
      have IE : Hid ((Tryd.prog.info? 50).map (·.size) = some ([.int .i64 (ep + by_), .int .i64 no, .string ⟨lt.toArray⟩] : List Value).length) := by unfold Hid; kernel_rfl
      have FE : Hid (∀ j v, ([.int .i64 (ep + by_), .int .i64 no, .string ⟨lt.toArray⟩] : List Value)[j]? = some v → (w5.alloc (.cells #[.int .u8 115] 5 (1, 2))).cell? ⟨ge, 0 + j, none⟩ = some v) := (EB.out.alloc _).cells
      go_wp2_with (first
        | (with_reducible refine build_law rfl 26 #[(0, .const (.int .u8 4))] rfl k4 (by simp only [List.map_toArray, List.map_cons, List.map_nil, eval_const]; exact BK4.out) ?_)
        | (with_reducible refine load_law rfl 50 (.tmp 13) rfl ge 0 rfl [.int .i64 (ep + by_), .int .i64 no, .string ⟨lt.toArray⟩] _ Tryd.underlying50 rfl IE.out FE.out ?_))
      obtain ⟨gwf, hgwf⟩ : ∃ g, g = w5.heap.size := ⟨_, rfl⟩
      obtain ⟨wf, hwf⟩ : ∃ x, x = w5.alloc (.cells #[.int .u8 115] 5 (1, 2)) := ⟨_, rfl⟩
      have hX : Below w5.heap.size w5 wf := by rw [hwf]; exact alloc_below _ _
      have RF := Lib.hid (show Rd wf (some ⟨gwf, 0, none⟩) 1 1 [115] by rw [hwf]; exact lit_bytesF w5 _ _ 1 _ _ (by rfl) rfl (by omega) hgwf)
      rw [← hgwf, ← hwf]
      have Wf := Lib.hid (W5.out.trans (hX.mono W5.out.size))
      replace PI := Lib.hid (HB.out.below PI.out hX)
      refine (CE.out wf gi _ _ (HG.out.below Wf.out hsz) PI.out RF.out).mono ?_
      rintro e wh ⟨rfl, hY⟩
      have Wh := Lib.hid (Wf.out.trans (hY.mono Wf.out.size))
      clear hX hY RF FE EB IE hwf hgwf CN CE W5 Wf hcv BK4 PI
      go_upto_region 14 with (first
        | ((with_reducible refine storeGen_law rfl 42 (.tmp 15) (.tmp 79) rfl wh.heap.size rfl L0 rfl 42 L0 IL0.out rfl OL0.out wh.heap.size wh ?_ ?_ (Nat.le_refl _) ?_)
           · rw [HL0.out]; exact Blk.at_new _ _ 42 _ _ (by rfl) rfl
           · exact (Below.refl _ _).alloc (Nat.le_refl _) _
           intro wi B3 X3))
      have Wi := Lib.hid (Wh.out.trans (X3.out.mono Wh.out.size))
      have heq := EQ0.out
      clear X3 Wh
      go_wp2_with ((with_reducible refine loadW_law ?gd 42 (.tmp 15) rfl wh.heap.size 0 ?hx L0 _ Tryd.underlying42 rfl IL0.out B3.out.cells ?_); (case gd => rfl); (case hx => rfl))
      go_ret
      exact ⟨rfl, Wi.out⟩
end Go.Proofs.YtijncclcdkgaoaaDoor.recEpochs
