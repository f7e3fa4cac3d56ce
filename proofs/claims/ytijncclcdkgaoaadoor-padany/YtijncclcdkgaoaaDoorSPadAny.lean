import Derived.Test.YtijncclcdkgaoaaDoorSPadAll
namespace Go.Proofs.YtijncclcdkgaoaaDoor
set_option linter.unusedVariables false
set_option linter.unusedSimpArgs false
set_option maxRecDepth 100000
open Go.RowKit
set_option maxRecDepth 100000 in
set_option maxHeartbeats 4000000 in
theorem unpads_any {w : World} {A : Option Addr} {n c : Nat} {b : List UInt8} (hg : Gl w) (hr : Rd w A n c b) : Calls Tryd.prog 21 #[.slice A n c] w fun e w' => e = .returned (.bool true) ∧ Below w.heap.size w w' := by
  have HG := Lib.hid hg
  have hsz := hg.size
  have HR := Lib.hid hr
  obtain ⟨u, hu⟩ : ∃ u, u = Rc.unpad b := ⟨_, rfl⟩
  obtain ⟨m, hm⟩ : ∃ m, u.length = m := ⟨_, rfl⟩
  obtain ⟨er, her⟩ : ∃ er : Int, er = if Rc.fits b then 0 else 1 := ⟨_, rfl⟩
  have P1 : Hid (∀ W : World, Gl W → Rd W A n c b → Calls Tryd.prog 20 #[.slice A n c] W fun e w' => ∃ A c, e = .returned (.tuple #[.slice A m c, .int .i64 er]) ∧ Rd w' A m c u ∧ Below W.heap.size W w') := fun W h hr => (punpad_any h hr).mono fun e w' hq => ret_len (by rw [hu, her]; exact hq) hm
  have P2 : Hid (∀ W : World, Rd W A n c b → Calls Tryd.prog 39 #[.slice A n c] W fun e w' => ∃ A c, e = .returned (.tuple #[.slice A m c, .int .i64 er]) ∧ Rd w' A m c u ∧ Below W.heap.size W w') := fun W hr => (runpad_any hr).mono fun e w' hq => ret_len (by rw [hu, her]; exact hq) hm
  clear hg hr hu hm her
  go_enter Tryd.func21, Tryd.ntmps21
  go_wp2_with fail
  refine (P1.out w HG.out HR.out).mono ?_
  rintro e w3 ⟨A3, c3, rfl, hR, hX⟩
  have W3 := Lib.hid hX
  have R3 := Lib.hid hR
  replace HR := Lib.hid (HR.out.below hX)
  clear hX hR P1
  go_wp2_with fail
  refine (P2.out w3 HR.out).mono ?_
  rintro e w4 ⟨A4, c4, rfl, hR, hX⟩
  have W4 := Lib.hid (W3.out.trans (hX.mono W3.out.size))
  have hcv1 := conv_bytes (R3.out.below hX)
  have hcv2 := conv_bytes hR
  have hss := str_same u
  clear hX hR P2
  go_wp2_with fail
  go_ret
  exact ⟨rfl, W4.out⟩
theorem zeros_when {ops : Array Oper} {rest : List Oper} {o : Oper} {a : Act} {Q : Exit → Act → World → Prop} {wr w0 : World} {B : Nat} {v : Value} {l : List UInt8} {n : Nat} (hgd : Region.wanted o (yielded ops a.tmps) = true) (s x : Operand)
    (ho : o.op = .call { callee := .builtin .append, args := #[s, x], argTypes := #[22, 3] }) (hs : a.eval s = v) (hx : a.eval x = .int .i64 (n : Int)) (hown : Ow wr B v l)
    (hlen : l.length + n ≤ 1000000) (hB : B ≤ wr.heap.size) (hbel : Below B w0 wr)
    (h : ∀ v' w', Hid (Ow w' B v' (l ++ List.replicate n 0)) → Hid (Below B w0 w') → wpList Tryd.prog ops Q rest (a.put o.dst v') w') : wpList Tryd.prog ops Q (o :: rest) a wr := by
  obtain ⟨v', w', hrun, h2, h3⟩ := run_zeros o.type n hown hlen hB
  refine wpList_step fun K hK => ?_
  rw [if_pos hgd]
  unfold Oper.wp execOp
  simp only [ho, resolve, invoke, builtin, Sem.run_bind, Sem.run_pure, Result.andThen_ok, List.map_toArray, List.map_cons, List.map_nil, hs, hx, hrun]
  exact hK _ _ (h v' w' h2 (hbel.grown h3 hB fun k hk => (hown.lt_ k hk).1))
end Go.Proofs.YtijncclcdkgaoaaDoor
namespace Go.Proofs.YtijncclcdkgaoaaDoor.padAny
set_option linter.unusedVariables false
set_option linter.unusedSimpArgs false
set_option maxRecDepth 100000
open Go.RowKit
set_option maxRecDepth 100000 in
set_option maxHeartbeats 4000000 in
theorem walk {P : BxP} (hB : BoxOk P) {A A' : Option Addr} {k c k' c' : Nat} {l l' : List UInt8} (at_ : Int) (x : UInt8) (w : World) (hg : Gl w) (hr : Rd w A k c l) (hr' : Rd w A' k' c' l') (n1 : -9223372036854775808 ≤ at_) (n2 : at_ ≤ 9223372036854775807) : Calls Tryd.prog 5 #[.slice A k c, .slice A' k' c', .int .i64 at_, .int .u8 (x.toNat : Int)] w fun e w' => e = .returned (.bool true) ∧ Below w.heap.size w w' := by
  have HG := Lib.hid hg
  have HB := Lib.hid hB
  have hsz := hg.size
  obtain ⟨m1, hm1⟩ : ∃ m, m = min k 60 := ⟨_, rfl⟩
  obtain ⟨m2, hm2⟩ : ∃ m, m = min k' 140 := ⟨_, rfl⟩
  have hm6 : m2 ≤ 140 := by omega
  have SH1 : Hid (∀ W, Calls Tryd.prog 13 #[.slice A k c, .int .i64 60] W fun e w' => e = .returned (.slice A m1 c) ∧ W = w') := fun W => by rw [hm1]; exact short_eq 60 hr.cap hr.max (by omega)
  have SH2 : Hid (∀ W, Calls Tryd.prog 13 #[.slice A' k' c', .int .i64 140] W fun e w' => e = .returned (.slice A' m2 c') ∧ W = w') := fun W => by rw [hm2]; exact short_eq 140 hr'.cap hr'.max (by omega)
  have RA : Hid (Rd w A m1 c (l.take 60)) := by unfold Hid; rw [hm1]; exact hr.short 60
  have RB : Hid (Rd w A' m2 c' (l'.take 140)) := by unfold Hid; rw [hm2]; exact hr'.short 140
  have hlb : (l'.take 140).length = m2 := RB.out.len
  obtain ⟨lp, hlp⟩ : ∃ lp, lp = Rc.pad (l'.take 140) := ⟨_, rfl⟩
  obtain ⟨z, hz⟩ : ∃ z, z = Rc.size (m2 : Int) := ⟨_, rfl⟩
  have hz2 : 2 ≤ z ∧ z ≤ 2048 := by have := Rc.size_room (n := m2) (by omega); omega
  have LZ : lp.length = z := by rw [hlp, Rc.pad_length (by omega), hlb, hz]
  have CP : Hid (∀ W : World, Rd W A' m2 c' (l'.take 140) → Calls Tryd.prog 17 #[.slice A' m2 c'] W fun e w' => ∃ A c, e = .returned (.tuple #[.slice A z c, .int .i64 0]) ∧ Rd w' A z c lp ∧ Below W.heap.size W w') := fun W hr => (rpad_any hr).mono fun e w' hq => ret_len (by rw [if_pos (by omega), if_pos (by omega), ← hlp] at hq; exact hq) LZ
  have HLZ := Lib.hid LZ
  clear hg hB hr hr' hm1 hm2 hlb hlp hz LZ
  go_enter Tryd.func5, Tryd.ntmps5
  go_wp2_with fail
  refine (begun9_any HB.out HG.out).mono ?_
  rintro e w1 ⟨rfl, hX⟩
  have W1 := Lib.hid hX
  replace RA := Lib.hid (RA.out.below hX)
  replace RB := Lib.hid (RB.out.below hX)
  clear hX
  go_wp2_with fail
  refine (SH1.out w1).mono ?_
  rintro e w2 ⟨rfl, rfl⟩
  go_wp2_with fail
  refine (SH2.out w1).mono ?_
  rintro e w2 ⟨rfl, rfl⟩
  go_wp2_with fail
  refine (CP.out w1 RB.out).mono ?_
  rintro e w3 ⟨A3, c3, rfl, hR, hX⟩
  have W3 := Lib.hid (W1.out.trans (hX.mono W1.out.size))
  replace RA := Lib.hid (RA.out.below hX)
  have R3 := Lib.hid hR
  clear hX hR RB W1 CP SH1 SH2
  go_wp2_with fail
  refine (unpads_any (HG.out.below W3.out hsz) RA.out).mono ?_
  rintro e w4 ⟨rfl, hX⟩
  have W4 := Lib.hid (W3.out.trans (hX.mono W3.out.size))
  replace RA := Lib.hid (RA.out.below hX)
  replace R3 := Lib.hid (R3.out.below hX)
  clear hX W3
  by_cases h0 : at_ < 0
  · go_wp2_with fail
    refine (unpads_any (HG.out.below W4.out hsz) RA.out).mono ?_
    rintro e w5 ⟨rfl, hX⟩
    have W5 := Lib.hid (W4.out.trans (hX.mono W4.out.size))
    clear hX
    go_wp2_with fail
    go_ret
    exact ⟨rfl, W5.out⟩
  · obtain ⟨a, ha⟩ := Int.eq_ofNat_of_zero_le (show 0 ≤ at_ by omega)
    obtain ⟨i, hi⟩ : ∃ i, i = a % z := ⟨_, rfl⟩
    obtain ⟨j, hj⟩ : ∃ j, j = a % 200 := ⟨_, rfl⟩
    have hiz : i < z := by rw [hi]; exact Nat.mod_lt _ (by omega)
    have hj2 : j < 200 := by omega
    have ei : at_.tmod (z : Int) = (i : Int) := by rw [ha, Int.tmod_eq_emod_of_nonneg (by omega), hi]; rfl
    have ei2 : at_ % (z : Int) = (i : Int) := by rw [ha, hi]; rfl
    have ej : at_.tmod 200 = (j : Int) := by rw [ha, Int.tmod_eq_emod_of_nonneg (by omega), hj]; rfl
    have ej2 : at_ % 200 = (j : Int) := by rw [ha, hj]; rfl
    clear ha hi hj
    go_upto_region 9 with (first | (at_builtin; refine onto_law rfl (.const (.slice none 0 0)) (.tmp 34) rfl rfl rfl R3.out (Ow.empty _ w4.heap.size) (by simp; omega) (Nat.le_refl _) (Below.refl _ _) ?_; intro v5 w5 O5 X5))
    rw [List.nil_append] at O5
    obtain ⟨g, c5, cur, rfl, hgb, hB5, hc5, hm5, hcell⟩ := own_blk O5.out (by rw [HLZ.out]; omega)
    rw [HLZ.out] at hc5
    rw [HLZ.out]
    obtain ⟨y, hy⟩ : ∃ y, y = lp.getD i 0 := ⟨_, rfl⟩
    have c0 : w5.cell? ⟨g, i, none⟩ = some (.int .u8 (y.toNat : Int)) := by rw [hB5.cell, hy]; exact hcell i (by rw [HLZ.out]; exact hiz)
    have f0 : w5.frozen? ⟨g, i, none⟩ = false := hB5.frozen i
    have hxor := xor_cell y x
    obtain ⟨yx, hyx⟩ : ∃ q, q = y ^^^ x := ⟨_, rfl⟩
    rw [← hyx] at hxor
    obtain ⟨l6, hl6⟩ : ∃ q, q = lp.set i yx := ⟨_, rfl⟩
    have R6 : Hid (Rd (w5.setCell ⟨g, i, none⟩ (.int .u8 (yx.toNat : Int))) (some ⟨g, 0, none⟩) z c5 l6) := by
      have := rd_set yx hB5 (by rw [HLZ.out]; exact hc5) hm5 hcell (show i < lp.length by rw [HLZ.out]; exact hiz)
      rw [HLZ.out] at this
      rw [hl6]
      exact this
    have X6 := Lib.hid (X5.out.setCell (p := ⟨g, i, none⟩) hgb (.int .u8 (yx.toNat : Int)))
    clear hB5 hcell hy hyx hl6 O5 X5
    go_upto_region 10 with (fail)
    clear c0 f0 hxor
    generalize w5.setCell ⟨g, i, none⟩ (.int .u8 (yx.toNat : Int)) = w6 at *
    have W6 := Lib.hid (W4.out.trans (X6.out.mono W4.out.size))
    replace R3 := Lib.hid (R3.out.below X6.out)
    clear X6 W4 RA
    go_wp2_with fail
    refine (unpads_any (HG.out.below W6.out hsz) R6.out).mono ?_
    rintro e w7 ⟨rfl, hX⟩
    have W7 := Lib.hid (W6.out.trans (hX.mono W6.out.size))
    replace R3 := Lib.hid (R3.out.below hX)
    have hc3 := R3.out.cap
    have hsl := slice_h A3 z c3 i (by omega)
    have RC := Lib.hid (R3.out.cut (k := 0) (e := i) (by omega) (by omega))
    rw [Nat.sub_zero, Nat.sub_zero] at RC
    obtain ⟨B5, hB5⟩ : ∃ x, x = cutA A3 c3 0 := ⟨_, rfl⟩
    simp only [← hB5] at hsl RC
    clear hX W6 R6 hB5
    go_wp2_with fail
    refine (unpads_any (HG.out.below W7.out hsz) RC.out).mono ?_
    rintro e w8 ⟨rfl, hX⟩
    have W8 := Lib.hid (W7.out.trans (hX.mono W7.out.size))
    replace R3 := Lib.hid (R3.out.below hX)
    have LN : Hid (([] ++ lp).length + j ≤ 1000000) := by unfold Hid; rw [List.nil_append, HLZ.out]; omega
    clear hX W7 RC hsl
    go_wp2_with (first
      | (at_builtin; refine onto_when (by rfl) (.const (.slice none 0 0)) (.tmp 58) rfl rfl rfl R3.out (Ow.empty _ w8.heap.size) (by simp; omega) (Nat.le_refl _) (Below.refl _ _) ?_; intro v9 w9 O9 X9 _)
      | (at_builtin; refine zeros_when (by rfl) (.tmp 59) (.tmp 61) rfl rfl rfl O9.out LN.out X9.out.size X9.out ?_; intro va wa Oa Xa))
    obtain ⟨Aa, ca, rfl, hra, _⟩ := Oa.out.value
    have Wa := Lib.hid (W8.out.trans (Xa.out.mono W8.out.size))
    refine (unpads_any (HG.out.below Wa.out hsz) hra).mono ?_
    rintro e wb ⟨rfl, hX⟩
    have Wb := Lib.hid (Wa.out.trans (hX.mono Wa.out.size))
    go_wp2_with fail
    go_ret
    exact ⟨rfl, Wb.out⟩
end Go.Proofs.YtijncclcdkgaoaaDoor.padAny
