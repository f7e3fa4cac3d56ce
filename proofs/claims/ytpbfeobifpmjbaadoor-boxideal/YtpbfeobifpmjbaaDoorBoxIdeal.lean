/- The walk of the law BoxIdeal: an ideal box tells nothing of what it is given but how long it is. -/
import Derived.Test.YtpbfeobifpmjbaaDoorBegun8
import Derived.Test.YtpbfeobifpmjbaaDoorBoxPc
namespace Go.Proofs.YtpbfeobifpmjbaaDoor.boxIdeal
set_option linter.unusedVariables false
set_option linter.unusedSimpArgs false
set_option maxRecDepth 100000
open Go.RowKit
/-- A key of one byte and noughts. -/
def key1 (x : UInt8) : List UInt8 := x :: List.replicate 31 0
theorem key1_length (x : UInt8) : (key1 x).length = 32 := by simp [key1]
/-- At o in block b lies an operation whose key, bytes beside and bytes are these. -/
structure OpC (w : World) (b o : Nat) (x : UInt8) (Aa : Option Addr) (na ca : Nat) (ad : List UInt8) (Ab : Option Addr) (nb cb : Nat) (bb : List UInt8) : Prop where
  lt : b < w.heap.size
  key : w.cell? ⟨b, o + 2, none⟩ = some (.int .u8 (x.toNat : Int))
  adC : w.cell? ⟨b, o + 4, none⟩ = some (.slice Aa na ca)
  adR : Rd w Aa na ca ad
  bC : w.cell? ⟨b, o + 5, none⟩ = some (.slice Ab nb cb)
  bR : Rd w Ab nb cb bb
/-- A slice of operations. -/
def RdO (w : World) (A : Option Addr) (n : Nat) : Prop := ∀ j, j < n → ∃ b off x Aa na ca ad Ab nb cb bb, A = some ⟨b, off, none⟩ ∧ OpC w b (off + j * 7) x Aa na ca ad Ab nb cb bb
theorem OpC.below {w w' : World} {b o : Nat} {x : UInt8} {Aa : Option Addr} {na ca : Nat} {ad : List UInt8} {Ab : Option Addr} {nb cb : Nat} {bb : List UInt8} (h : OpC w b o x Aa na ca ad Ab nb cb bb) (hb : Below w.heap.size w w') : OpC w' b o x Aa na ca ad Ab nb cb bb :=
  have hc : ∀ off, w'.cell? ⟨b, off, none⟩ = w.cell? ⟨b, off, none⟩ := fun off => World.cell?_of_block (hb.block b h.lt)
  ⟨Nat.lt_of_lt_of_le h.lt hb.size, (hc _).trans h.key, (hc _).trans h.adC, h.adR.below hb, (hc _).trans h.bC, h.bR.below hb⟩
theorem infoOp : (Tryd.prog.info? 31).map (·.size) = some 7 := by kernel_rfl
theorem index_op (b off n c k : Nat) (h : k < n) (hn : n ≤ maxLen) (W : World) : (Instr.indexAt 22 (.slice (some ⟨b, off, none⟩) n c) (.int .i64 (k : Int))).run Tryd.prog W = .ok (.pointer (some ⟨b, off + k * 7, none⟩)) W := by
  obtain ⟨i0, hi, hsz⟩ : ∃ i0, Tryd.prog.info? 31 = some i0 ∧ i0.size = 7 := by
    have := infoOp
    cases hh : Tryd.prog.info? 31 with
    | none => rw [hh] at this; cases this
    | some i0 => rw [hh] at this; exact ⟨i0, rfl, by simpa using this⟩
  have hel : Tryd.prog.elem 22 = 31 := by kernel_rfl
  rw [run_indexAt_slice (P := Tryd.prog) W 22 ⟨b, off, none⟩ n c .i64 (k : Int) (by rw [hel]; exact Tryd.underlying22), if_pos ⟨by omega, by omega⟩, hel]
  simp [sizeOf, typeInfo, hi, hsz, add_plain]

set_option maxRecDepth 100000 in
set_option maxHeartbeats 16000000 in
theorem walk {P : BxP} (hB : BoxOk P) (s : Int) {A1 A2 : Option Addr} {n1 c1 n2 c2 : Nat} (w : World) (hg : Gl w) (hs1 : -9223372036854775808 ≤ s) (hs2 : s ≤ 9223372036854775807) (hr1 : RdO w A1 n1) (hr2 : RdO w A2 n2) (hl1 : n1 ≤ maxLen) (hl2 : n2 ≤ maxLen) :
    Calls Tryd.prog 3 #[.int .i64 s, .slice A1 n1 c1, .slice A2 n2 c2] w fun e w' => e = .returned (.bool true) ∧ Below w.heap.size w w' := by
  have HG := Lib.hid hg
  have HB := Lib.hid hB
  have hsz := hg.size
  have HR1 := Lib.hid hr1
  have HR2 := Lib.hid hr2
  unfold maxLen at hl1 hl2
  clear hg hB hr1 hr2
  go_enter Tryd.func3, Tryd.ntmps3
  go_wp2_with fail
  refine (begun8_any HB.out HG.out).mono ?_
  rintro e w1 ⟨rfl, hX⟩
  have hs1 := hX.size
  have W1 := Lib.hid hX
  clear hX
  go_wp2_with fail
  refine (tnew_any s _ (by omega) (by omega)).mono ?_
  rintro e w2 ⟨t1, rfl, ht1, hT, hX⟩
  replace W1 := Lib.hid (W1.out.trans (hX.mono W1.out.size))
  have T1 := Lib.hid hT
  have hsa := hX.size
  clear hT hX
  go_wp2_with fail
  refine (HB.out.newI T1.out).mono ?_
  rintro e w3 ⟨gx, Mx, rfl, hM, hP, hX⟩
  have hs2' := hX.size
  replace W1 := Lib.hid (W1.out.trans (hX.mono W1.out.size))
  have MX : Hid (∀ b, Mx b → w.heap.size ≤ b) := fun b hb => by rcases hM b hb with h | h <;> omega
  have PX := Lib.hid hP
  have ML : Hid (∀ b, Mx b → b < w3.heap.size) := fun b hb => HB.out.lt PX.out hb
  clear hM hP hX T1
  go_wp2_with fail
  refine (tnew_any s _ (by omega) (by omega)).mono ?_
  rintro e w4 ⟨t2, rfl, ht2, hT, hX⟩
  have hs4 := hX.size
  replace W1 := Lib.hid (W1.out.trans (hX.mono W1.out.size))
  replace PX := Lib.hid (HB.out.below PX.out hX)
  have T2 := Lib.hid hT
  clear hT hX
  go_wp2_with fail
  refine (HB.out.newI T2.out).mono ?_
  rintro e w5 ⟨gy, My, rfl, hM, hP, hX⟩
  replace W1 := Lib.hid (W1.out.trans (hX.mono W1.out.size))
  have MY : Hid (∀ b, My b → w.heap.size ≤ b) := fun b hb => by rcases hM b hb with h | h <;> omega
  have MD : Hid (∀ b, Mx b → ¬ My b) := fun b hb hb' => by
    have h1 := ML.out b hb
    rcases hM b hb' with h | h <;> omega
  replace PX := Lib.hid (HB.out.below PX.out hX)
  have PY := Lib.hid hP
  clear hM hP hX T2 ML hsa hs2' hs4 ht1 ht2
  go_wp2_with fail
  go_loopw [10] (fun v wr => ∃ (k a : Nat) (S1 S2 : List Bx.SNote) (Mx My : Nat → Prop), k ≤ 15 ∧ v = .int .i64 k ∧ Hid (P wr gx (.ideal s a S1 [] []) Mx) ∧ Hid (P wr gy (.ideal s a S2 [] []) My) ∧ Hid (∀ b, Mx b → w.heap.size ≤ b) ∧ Hid (∀ b, My b → w.heap.size ≤ b) ∧ Hid (∀ b, Mx b → ¬ My b) ∧ Hid (a ≤ 56 * k) ∧ Hid (Below w.heap.size w wr)) (fun v _ => 15 - (intOf v).toNat)
  case atStart => exact ⟨0, 0, [], [], Mx, My, by omega, rfl, PX, PY, MX, MY, MD, by unfold Hid; omega, W1⟩
  case round =>
    clear PX PY MX MY MD W1 Mx My
    obtain ⟨k, a, S1, S2, Mx, My, hk, rfl, PX, PY, MX, MY, MD, HA, W1⟩ := hrel
    by_cases h1 : k < n1
    case neg =>
      have d1 : decide ((k : Int) < (n1 : Int)) = false := decide_eq_false (by omega)
      go_wp2_with fail
      go_ret
      exact ⟨rfl, W1.out⟩
    have d1 : decide ((k : Int) < (n1 : Int)) = true := decide_eq_true (by omega)
    by_cases h2 : k < n2
    case neg =>
      have d2 : decide ((k : Int) < (n2 : Int)) = false := decide_eq_false (by omega)
      go_wp2_with fail
      go_ret
      exact ⟨rfl, W1.out⟩
    have d2 : decide ((k : Int) < (n2 : Int)) = true := decide_eq_true (by omega)
    by_cases h3 : k < 15
    case neg =>
      have d3 : decide ((k : Int) < 15) = false := decide_eq_false (by omega)
      go_wp2_with fail
      go_ret
      exact ⟨rfl, W1.out⟩
    have d3 : decide ((k : Int) < 15) = true := decide_eq_true (by omega)
    obtain ⟨b1, f1, x1, Aa1, na1, ca1, ad1, Ab1, nb1, cb1, bb1, rfl, hE1⟩ := HR1.out k h1
    obtain ⟨b2, f2, x2, Aa2, na2, ca2, ad2, Ab2, nb2, cb2, bb2, rfl, hE2⟩ := HR2.out k h2
    have hi1 := fun W => index_op b1 f1 n1 c1 k h1 (by unfold maxLen; omega) W
    have hi2 := fun W => index_op b2 f2 n2 c2 k h2 (by unfold maxLen; omega) W
    obtain ⟨o1, ho1⟩ : ∃ o, o = f1 + k * 7 := ⟨_, rfl⟩
    obtain ⟨o2, ho2⟩ : ∃ o, o = f2 + k * 7 := ⟨_, rfl⟩
    rw [← ho1] at hi1 hE1
    rw [← ho2] at hi2 hE2
    have E1 := Lib.hid hE1
    have E2 := Lib.hid hE2
    clear ho1 ho2 hE1 hE2
    obtain ⟨m1, hm1⟩ : ∃ m, m = min nb1 40 := ⟨_, rfl⟩
    obtain ⟨m2, hm2⟩ : ∃ m, m = min nb2 40 := ⟨_, rfl⟩
    obtain ⟨m, hm⟩ : ∃ m, m = min m1 m2 := ⟨_, rfl⟩
    have CH1 : Hid (∀ W, Calls Tryd.prog 11 #[.slice Ab1 nb1 cb1, .int .i64 40] W fun e w' => e = .returned (.slice Ab1 m1 cb1) ∧ W = w') := fun W => by rw [hm1]; exact short_eq 40 E1.out.bR.cap E1.out.bR.max (by omega)
    have CH2 : Hid (∀ W, Calls Tryd.prog 11 #[.slice Ab2 nb2 cb2, .int .i64 40] W fun e w' => e = .returned (.slice Ab2 m2 cb2) ∧ W = w') := fun W => by rw [hm2]; exact short_eq 40 E2.out.bR.cap E2.out.bR.max (by omega)
    obtain ⟨B1, hB1⟩ : ∃ x, x = cutA Ab1 cb1 0 := ⟨_, rfl⟩
    obtain ⟨B2, hB2⟩ : ∃ x, x = cutA Ab2 cb2 0 := ⟨_, rfl⟩
    have SL1 : Hid (∀ W, (Instr.slice 28 (.slice Ab1 m1 cb1) none (some (.int .i64 (m : Int))) none).run Tryd.prog W = .ok (.slice B1 m cb1) W) := fun W => by rw [hB1]; exact slice_h Ab1 m1 cb1 m (by have := E1.out.bR.cap; omega) W
    have SL2 : Hid (∀ W, (Instr.slice 28 (.slice Ab2 m2 cb2) none (some (.int .i64 (m : Int))) none).run Tryd.prog W = .ok (.slice B2 m cb2) W) := fun W => by rw [hB2]; exact slice_h Ab2 m2 cb2 m (by have := E2.out.bR.cap; omega) W
    obtain ⟨bs1, hbs1⟩ : ∃ l, l = bb1.take m := ⟨_, rfl⟩
    obtain ⟨bs2, hbs2⟩ : ∃ l, l = bb2.take m := ⟨_, rfl⟩
    have RB1 : Hid (Rd w B1 m cb1 bs1) := by
      have := E1.out.bR.cut (k := 0) (e := m) (by omega) (by omega)
      unfold Hid
      rw [hB1, hbs1]
      simpa using this
    have RB2 : Hid (Rd w B2 m cb2 bs2) := by
      have := E2.out.bR.cut (k := 0) (e := m) (by omega) (by omega)
      unfold Hid
      rw [hB2, hbs2]
      simpa using this
    have hm40 : m ≤ 40 := by omega
    obtain ⟨mo, hmo⟩ : ∃ m', m' = m + 16 := ⟨_, rfl⟩
    have e16 : (m : Int) + 16 = (mo : Int) := by omega
    have hmo56 : mo ≤ 56 := by omega
    obtain ⟨out, hout⟩ : ∃ l, l = Tap.tape s a mo := ⟨_, rfl⟩
    have hka : a ≤ 840 := by have := HA.out; omega
    have CSE : Hid (∀ (W : World) (g : Nat) (x : UInt8) (kc : List Value) (S : List Bx.SNote) (M : Nat → Prop) (A A' : Option Addr) (na ca cb : Nat) (ad bs : List UInt8), kc = (key1 x).map cellOf → Below w.heap.size w W → (∀ b, M b → w.heap.size ≤ b) → P W g (.ideal s a S [] []) M → Rd w A na ca ad → Rd w A' m cb bs → Calls Tryd.prog 12 #[.pointer (some ⟨g, 0, none⟩), .agg kc.toArray, .int .i64 (k : Int), .slice A na ca, .slice A' m cb] W fun e w' => ∃ A5 c5 S' M', e = .returned (.slice A5 mo c5) ∧ Rd w' A5 mo c5 out ∧ P w' g (.ideal s (a + mo) S' [] []) M' ∧ Fr M W w' ∧ (∀ b, M' b → M b ∨ W.heap.size ≤ b) ∧ ∀ x : Addr, A5 = some x → W.heap.size ≤ x.block) := fun W g x kc S M A A' na ca cb ad bs hkc hW hM hP hra hrb => by
      rw [hkc, hout, hmo]
      refine (HB.out.slI (key1 x) (k : Int) (HG.out.below hW hsz) (fun b hb => Nat.le_trans hsz (hM b hb)) hP (by omega) (key1_length x) (by omega) (by omega) (hra.below hW) (hrb.below hW) (fun y hy h0 hm => by have h1 := hra.in_ h0 y hy; have h2 := hM _ hm; omega) (fun y hy h0 hm => by have h1 := hrb.in_ h0 y hy; have h2 := hM _ hm; omega) (by omega)).mono ?_
      rintro e w' ⟨A5, c5, M', he, hR, hP', hF, hM', hN⟩
      rw [Tap.tape_length] at he hR
      exact ⟨A5, c5, _, M', he, hR, hP', hF, hM', fun y hy => (hN y hy).1⟩
    obtain ⟨kc1, hkc1⟩ : ∃ c, c = (key1 x1).map cellOf := ⟨_, rfl⟩
    obtain ⟨kc2, hkc2⟩ : ∃ c, c = (key1 x2).map cellOf := ⟨_, rfl⟩
    have BK1 : Hid (Tryd.prog.built 34 [(0, .int .u8 (x1.toNat : Int))] = some kc1.toArray) := by unfold Hid; rw [hkc1]; kernel_rfl
    have BK2 : Hid (Tryd.prog.built 34 [(0, .int .u8 (x2.toNat : Int))] = some kc2.toArray) := by unfold Hid; rw [hkc2]; kernel_rfl
    have KC1 := Lib.hid hkc1
    have KC2 := Lib.hid hkc2
    have HMN := Lib.hid hm
    clear hm1 hm2 hm hB1 hB2 hbs1 hbs2 hmo hout hkc1 hkc2
    go_upto_region 8 with (fail)
    refine wp_region_any (by kernel_rfl) ?_
    change wpAny _ _ _ _ _ _ _ (World.drew _)
    replace W1 := Lib.hid W1.out.drew
    replace PX : Hid (P wr.drew gx (.ideal s a S1 [] []) Mx) := HB.out.keep PX.out (Nat.le_refl _) (fun _ _ => rfl)
    replace PY : Hid (P wr.drew gy (.ideal s a S2 [] []) My) := HB.out.keep PY.out (Nat.le_refl _) (fun _ _ => rfl)
    generalize wr.drew = v0 at *
    refine wpAny_take (i := 0) (oi := ?oi1) (v := .slice (some ⟨b1, f1, none⟩) n1 c1) ?hi1 (by kernel_rfl) (by kernel_rfl) (by kernel_rfl) ?hQ1 ?hy1 ?rest1
    case hi1 => simp only [List.getElem?_toArray, List.getElem?_cons_succ, List.getElem?_cons_zero]; rfl
    case hQ1 => exact fun _ _ _ h => h
    case hy1 => exact Or.inl ⟨by rfl, by intro w; go_simp⟩
    try simp only [Act.put, List.setIfInBounds_toArray, List.set_cons_zero, List.set_cons_succ]
    refine wpAny_take (i := 1) (oi := ?oi2) (v := .int .i64 (k : Int)) ?hi2 (by kernel_rfl) (by kernel_rfl) (by kernel_rfl) ?hQ2 ?hy2 ?rest2
    case hi2 => simp only [List.getElem?_toArray, List.getElem?_cons_succ, List.getElem?_cons_zero]; rfl
    case hQ2 => exact fun _ _ _ h => h
    case hy2 => exact Or.inl ⟨by rfl, by intro w; go_simp⟩
    try simp only [Act.put, List.setIfInBounds_toArray, List.set_cons_zero, List.set_cons_succ]
    refine wpAny_take (i := 2) (oi := ?oi3) (v := .pointer (some ⟨b1, o1, none⟩)) ?hi3 (by kernel_rfl) (by kernel_rfl) (by kernel_rfl) ?hQ3 ?hy3 ?rest3
    case hi3 => simp only [List.getElem?_toArray, List.getElem?_cons_succ, List.getElem?_cons_zero]; rfl
    case hQ3 => exact fun _ _ _ h => h
    case hy3 => exact Or.inl ⟨by rfl, by intro w; go_simp⟩
    try simp only [Act.put, List.setIfInBounds_toArray, List.set_cons_zero, List.set_cons_succ]
    refine wpAny_take (i := 3) (oi := ?oi4) (v := .pointer (some ⟨b1, o1 + 5, none⟩)) ?hi4 (by kernel_rfl) (by kernel_rfl) (by kernel_rfl) ?hQ4 ?hy4 ?rest4
    case hi4 => simp only [List.getElem?_toArray, List.getElem?_cons_succ, List.getElem?_cons_zero]; rfl
    case hQ4 => exact fun _ _ _ h => h
    case hy4 => exact Or.inl ⟨by rfl, by intro w; go_simp⟩
    try simp only [Act.put, List.setIfInBounds_toArray, List.set_cons_zero, List.set_cons_succ]
    refine wpAny_take (i := 6) (oi := ?oi5) (v := .slice (some ⟨b2, f2, none⟩) n2 c2) ?hi5 (by kernel_rfl) (by kernel_rfl) (by kernel_rfl) ?hQ5 ?hy5 ?rest5
    case hi5 => simp only [List.getElem?_toArray, List.getElem?_cons_succ, List.getElem?_cons_zero]; rfl
    case hQ5 => exact fun _ _ _ h => h
    case hy5 => exact Or.inl ⟨by rfl, by intro w; go_simp⟩
    try simp only [Act.put, List.setIfInBounds_toArray, List.set_cons_zero, List.set_cons_succ]
    refine wpAny_take (i := 7) (oi := ?oi6) (v := .int .i64 (k : Int)) ?hi6 (by kernel_rfl) (by kernel_rfl) (by kernel_rfl) ?hQ6 ?hy6 ?rest6
    case hi6 => simp only [List.getElem?_toArray, List.getElem?_cons_succ, List.getElem?_cons_zero]; rfl
    case hQ6 => exact fun _ _ _ h => h
    case hy6 => exact Or.inl ⟨by rfl, by intro w; go_simp⟩
    try simp only [Act.put, List.setIfInBounds_toArray, List.set_cons_zero, List.set_cons_succ]
    refine wpAny_take (i := 8) (oi := ?oi7) (v := .pointer (some ⟨b2, o2, none⟩)) ?hi7 (by kernel_rfl) (by kernel_rfl) (by kernel_rfl) ?hQ7 ?hy7 ?rest7
    case hi7 => simp only [List.getElem?_toArray, List.getElem?_cons_succ, List.getElem?_cons_zero]; rfl
    case hQ7 => exact fun _ _ _ h => h
    case hy7 => exact Or.inl ⟨by rfl, by intro w; go_simp⟩
    try simp only [Act.put, List.setIfInBounds_toArray, List.set_cons_zero, List.set_cons_succ]
    refine wpAny_take (i := 9) (oi := ?oi8) (v := .pointer (some ⟨b2, o2 + 5, none⟩)) ?hi8 (by kernel_rfl) (by kernel_rfl) (by kernel_rfl) ?hQ8 ?hy8 ?rest8
    case hi8 => simp only [List.getElem?_toArray, List.getElem?_cons_succ, List.getElem?_cons_zero]; rfl
    case hQ8 => exact fun _ _ _ h => h
    case hy8 => exact Or.inl ⟨by rfl, by intro w; go_simp⟩
    try simp only [Act.put, List.setIfInBounds_toArray, List.set_cons_zero, List.set_cons_succ]
    refine phaseL (fun i => if i = 5 then [4] else if i = 11 then [10, 5] else []) (fun d a w' => ∃ x45 x46 x51 x52 : Value, a = { tmps := #[.int .i64 s, .slice (some ⟨b1, f1, none⟩) n1 c1, .slice (some ⟨b2, f2, none⟩) n2 c2, undef, undef, undef, u6, .bool true, .pointer (some ⟨gx, 0, none⟩), .pointer (some ⟨gy, 0, none⟩), .int .i64 (k : Int), u11, u12, u13, u14, u15, .bool true, .bool true, .bool false, .int .i64 s, .pointer (some ⟨t1, 0, none⟩), .pointer (some ⟨gx, 0, none⟩), .int .i64 s, .pointer (some ⟨t2, 0, none⟩), .pointer (some ⟨gy, 0, none⟩), .int .i64 (k : Int), .slice (some ⟨b1, f1, none⟩) n1 c1, .int .i64 (n1 : Int), .bool true, .bool true, .int .i64 (k : Int), .slice (some ⟨b2, f2, none⟩) n2 c2, .int .i64 (n2 : Int), .bool true, .bool true, .bool true, .int .i64 (k : Int), .bool true, .bool true, u39, u40, .slice (some ⟨b1, f1, none⟩) n1 c1, .int .i64 (k : Int), .pointer (some ⟨b1, o1, none⟩), .pointer (some ⟨b1, o1 + 5, none⟩), x45, x46, .slice (some ⟨b2, f2, none⟩) n2 c2, .int .i64 (k : Int), .pointer (some ⟨b2, o2, none⟩), .pointer (some ⟨b2, o2 + 5, none⟩), x51, x52, u53, u54, u55, u56, u57, u58, u59, u60, u61, u62, u63, u64, u65, u66, u67, u68, u69, u70, u71, u72, u73, u74, u75, u76, u77, u78, u79, u80, u81, u82, u83, u84, u85, u86, u87, u88, u89, u90, u91, u92, u93, u94, u95, u96, u97, u98, u99, u100, u101, u102, u103], defers := [] } ∧ Hid (Below v0.heap.size v0 w') ∧ (d 4 = true → x45 = .slice Ab1 nb1 cb1) ∧ (d 5 = true → x46 = .slice Ab1 m1 cb1) ∧ (d 10 = true → x51 = .slice Ab2 nb2 cb2) ∧ (d 11 = true → x52 = .slice Ab2 m2 cb2)) [4, 5, 10, 11] ?step9 2 4 [4, 5, 10, 11] _ _ _ rfl (by decide) (fun _ h => h) (Fits.of (by kernel_rfl)) ?init9 ?fin9
    case init9 => refine ⟨_, _, _, _, rfl, Below.refl _ _, ?_, ?_, ?_, ?_⟩ <;> (intro h; exact absurd h (by decide))
    case step9 =>
      intro i hi d a v9 hI hdi hdeps
      obtain ⟨x45, x46, x51, x52, rfl, BW, h4, h5, h10, h11⟩ := hI
      have hsw := BW.out.size
      simp only [List.mem_cons, List.not_mem_nil, or_false] at hi
      rcases hi with rfl | rfl | rfl | rfl
      · have c0 := (E1.out.below (W1.out.trans (BW.out.mono W1.out.size))).bC
        refine wpOp_step (o := ?os10) ?hos10 (fun K hK => ?_)
        case hos10 => simp only [List.getElem?_toArray, List.getElem?_cons_succ, List.getElem?_cons_zero]; rfl
        go_simp
        refine hK _ _ ?_
        clear hK K
        try simp only [Act.put, List.setIfInBounds_toArray, List.set_cons_zero, List.set_cons_succ]
        exact ⟨_, _, _, _, rfl, BW, fun _ => rfl, fun a => by first | exact h5 (by simpa using a) | rfl, fun a => by first | exact h10 (by simpa using a) | rfl, fun a => by first | exact h11 (by simpa using a) | rfl⟩
      · obtain rfl := h4 (hdeps 4 (by simp))
        refine wpOp_step (o := ?os11) ?hos11 (fun K hK => ?_)
        case hos11 => simp only [List.getElem?_toArray, List.getElem?_cons_succ, List.getElem?_cons_zero]; rfl
        go_simp
        refine (CH1.out v9).mono ?_
        rintro e u9 ⟨rfl, rfl⟩
        refine hK _ _ ?_
        clear hK K
        try simp only [Act.put, List.setIfInBounds_toArray, List.set_cons_zero, List.set_cons_succ]
        exact ⟨_, _, _, _, rfl, BW, fun a => by first | exact h4 (by simpa using a) | rfl, fun _ => rfl, fun a => by first | exact h10 (by simpa using a) | rfl, fun a => by first | exact h11 (by simpa using a) | rfl⟩
      · have c0 := (E2.out.below (W1.out.trans (BW.out.mono W1.out.size))).bC
        refine wpOp_step (o := ?os12) ?hos12 (fun K hK => ?_)
        case hos12 => simp only [List.getElem?_toArray, List.getElem?_cons_succ, List.getElem?_cons_zero]; rfl
        go_simp
        refine hK _ _ ?_
        clear hK K
        try simp only [Act.put, List.setIfInBounds_toArray, List.set_cons_zero, List.set_cons_succ]
        exact ⟨_, _, _, _, rfl, BW, fun a => by first | exact h4 (by simpa using a) | rfl, fun a => by first | exact h5 (by simpa using a) | rfl, fun _ => rfl, fun a => by first | exact h11 (by simpa using a) | rfl⟩
      · obtain rfl := h10 (hdeps 10 (by simp))
        refine wpOp_step (o := ?os13) ?hos13 (fun K hK => ?_)
        case hos13 => simp only [List.getElem?_toArray, List.getElem?_cons_succ, List.getElem?_cons_zero]; rfl
        go_simp
        refine (CH2.out v9).mono ?_
        rintro e u9 ⟨rfl, rfl⟩
        refine hK _ _ ?_
        clear hK K
        try simp only [Act.put, List.setIfInBounds_toArray, List.set_cons_zero, List.set_cons_succ]
        exact ⟨_, _, _, _, rfl, BW, fun a => by first | exact h4 (by simpa using a) | rfl, fun a => by first | exact h5 (by simpa using a) | rfl, fun a => by first | exact h10 (by simpa using a) | rfl, fun _ => rfl⟩
    case fin9 =>
      intro a v9 hI
      obtain ⟨x45, x46, x51, x52, rfl, BW, h4, h5, h10, h11⟩ := hI
      obtain rfl := h4 (by decide)
      obtain rfl := h5 (by decide)
      obtain rfl := h10 (by decide)
      obtain rfl := h11 (by decide)
      replace W1 := Lib.hid (W1.out.trans (BW.out.mono W1.out.size))
      replace PX := Lib.hid (HB.out.below PX.out BW.out)
      replace PY := Lib.hid (HB.out.below PY.out BW.out)
      clear h4 h5 h10 h11 BW CH1 CH2
      try dsimp only
      refine wpAny_take (i := 12) (oi := ?oi14) (v := .slice Ab1 m1 cb1) ?hi14 (by kernel_rfl) (by kernel_rfl) (by kernel_rfl) ?hQ14 ?hy14 ?rest14
      case hi14 => simp only [List.getElem?_toArray, List.getElem?_cons_succ, List.getElem?_cons_zero]; rfl
      case hQ14 => exact fun _ _ _ h => h
      case hy14 => exact Or.inl ⟨by rfl, by intro w; go_simp⟩
      try simp only [Act.put, List.setIfInBounds_toArray, List.set_cons_zero, List.set_cons_succ]
      refine wpAny_take (i := 13) (oi := ?oi15) (v := .slice Ab2 m2 cb2) ?hi15 (by kernel_rfl) (by kernel_rfl) (by kernel_rfl) ?hQ15 ?hy15 ?rest15
      case hi15 => simp only [List.getElem?_toArray, List.getElem?_cons_succ, List.getElem?_cons_zero]; rfl
      case hQ15 => exact fun _ _ _ h => h
      case hy15 => exact Or.inl ⟨by rfl, by intro w; go_simp⟩
      try simp only [Act.put, List.setIfInBounds_toArray, List.set_cons_zero, List.set_cons_succ]
      refine wpAny_done (by kernel_rfl) ?_ _
      have hmn : (if (m2 : Int) < (m1 : Int) then (m2 : Int) else (m1 : Int)) = (m : Int) := by have := HMN.out; split <;> omega
      have hmn2 : (if (m1 : Int) < (m2 : Int) then (m1 : Int) else (m2 : Int)) = (m : Int) := by have := HMN.out; split <;> omega
      have hmn5 : (if m2 < m1 then (m2 : Int) else (m1 : Int)) = (m : Int) := by have := HMN.out; split <;> omega
      have hmn3 : ((min m1 m2 : Nat) : Int) = (m : Int) := by have := HMN.out; omega
      have hmn4 : min (m1 : Int) (m2 : Int) = (m : Int) := by have := HMN.out; omega
      go_upto_region 10 with (fail)
      refine wp_region_any (by kernel_rfl) ?_
      change wpAny _ _ _ _ _ _ _ (World.drew _)
      replace W1 := Lib.hid W1.out.drew
      replace PX : Hid (P (World.drew v9) gx (.ideal s a S1 [] []) Mx) := HB.out.keep PX.out (Nat.le_refl _) (fun _ _ => rfl)
      replace PY : Hid (P (World.drew v9) gy (.ideal s a S2 [] []) My) := HB.out.keep PY.out (Nat.le_refl _) (fun _ _ => rfl)
      generalize World.drew v9 = z1 at *
      have hsl := SL1.out
      refine wpAny_take (i := 0) (oi := ?oi16) (v := .pointer (some ⟨gx, 0, none⟩)) ?hi16 (by kernel_rfl) (by kernel_rfl) (by kernel_rfl) ?hQ16 ?hy16 ?rest16
      case hi16 => simp only [List.getElem?_toArray, List.getElem?_cons_succ, List.getElem?_cons_zero]; rfl
      case hQ16 => exact fun _ _ _ h => h
      case hy16 => exact Or.inl ⟨by rfl, by intro w; go_simp⟩
      try simp only [Act.put, List.setIfInBounds_toArray, List.set_cons_zero, List.set_cons_succ]
      refine wpAny_take (i := 1) (oi := ?oi17) (v := .slice (some ⟨b1, f1, none⟩) n1 c1) ?hi17 (by kernel_rfl) (by kernel_rfl) (by kernel_rfl) ?hQ17 ?hy17 ?rest17
      case hi17 => simp only [List.getElem?_toArray, List.getElem?_cons_succ, List.getElem?_cons_zero]; rfl
      case hQ17 => exact fun _ _ _ h => h
      case hy17 => exact Or.inl ⟨by rfl, by intro w; go_simp⟩
      try simp only [Act.put, List.setIfInBounds_toArray, List.set_cons_zero, List.set_cons_succ]
      refine wpAny_take (i := 2) (oi := ?oi18) (v := .int .i64 (k : Int)) ?hi18 (by kernel_rfl) (by kernel_rfl) (by kernel_rfl) ?hQ18 ?hy18 ?rest18
      case hi18 => simp only [List.getElem?_toArray, List.getElem?_cons_succ, List.getElem?_cons_zero]; rfl
      case hQ18 => exact fun _ _ _ h => h
      case hy18 => exact Or.inl ⟨by rfl, by intro w; go_simp⟩
      try simp only [Act.put, List.setIfInBounds_toArray, List.set_cons_zero, List.set_cons_succ]
      refine wpAny_take (i := 3) (oi := ?oi19) (v := .pointer (some ⟨b1, o1, none⟩)) ?hi19 (by kernel_rfl) (by kernel_rfl) (by kernel_rfl) ?hQ19 ?hy19 ?rest19
      case hi19 => simp only [List.getElem?_toArray, List.getElem?_cons_succ, List.getElem?_cons_zero]; rfl
      case hQ19 => exact fun _ _ _ h => h
      case hy19 => exact Or.inl ⟨by rfl, by intro w; go_simp⟩
      try simp only [Act.put, List.setIfInBounds_toArray, List.set_cons_zero, List.set_cons_succ]
      refine wpAny_take (i := 4) (oi := ?oi20) (v := .pointer (some ⟨b1, o1 + 2, none⟩)) ?hi20 (by kernel_rfl) (by kernel_rfl) (by kernel_rfl) ?hQ20 ?hy20 ?rest20
      case hi20 => simp only [List.getElem?_toArray, List.getElem?_cons_succ, List.getElem?_cons_zero]; rfl
      case hQ20 => exact fun _ _ _ h => h
      case hy20 => exact Or.inl ⟨by rfl, by intro w; go_simp⟩
      try simp only [Act.put, List.setIfInBounds_toArray, List.set_cons_zero, List.set_cons_succ]
      refine wpAny_take (i := 7) (oi := ?oi21) (v := .int .i64 (k : Int)) ?hi21 (by kernel_rfl) (by kernel_rfl) (by kernel_rfl) ?hQ21 ?hy21 ?rest21
      case hi21 => simp only [List.getElem?_toArray, List.getElem?_cons_succ, List.getElem?_cons_zero]; rfl
      case hQ21 => exact fun _ _ _ h => h
      case hy21 => exact Or.inl ⟨by rfl, by intro w; go_simp⟩
      try simp only [Act.put, List.setIfInBounds_toArray, List.set_cons_zero, List.set_cons_succ]
      refine wpAny_take (i := 8) (oi := ?oi22) (v := .slice (some ⟨b1, f1, none⟩) n1 c1) ?hi22 (by kernel_rfl) (by kernel_rfl) (by kernel_rfl) ?hQ22 ?hy22 ?rest22
      case hi22 => simp only [List.getElem?_toArray, List.getElem?_cons_succ, List.getElem?_cons_zero]; rfl
      case hQ22 => exact fun _ _ _ h => h
      case hy22 => exact Or.inl ⟨by rfl, by intro w; go_simp⟩
      try simp only [Act.put, List.setIfInBounds_toArray, List.set_cons_zero, List.set_cons_succ]
      refine wpAny_take (i := 9) (oi := ?oi23) (v := .int .i64 (k : Int)) ?hi23 (by kernel_rfl) (by kernel_rfl) (by kernel_rfl) ?hQ23 ?hy23 ?rest23
      case hi23 => simp only [List.getElem?_toArray, List.getElem?_cons_succ, List.getElem?_cons_zero]; rfl
      case hQ23 => exact fun _ _ _ h => h
      case hy23 => exact Or.inl ⟨by rfl, by intro w; go_simp⟩
      try simp only [Act.put, List.setIfInBounds_toArray, List.set_cons_zero, List.set_cons_succ]
      refine wpAny_take (i := 10) (oi := ?oi24) (v := .pointer (some ⟨b1, o1, none⟩)) ?hi24 (by kernel_rfl) (by kernel_rfl) (by kernel_rfl) ?hQ24 ?hy24 ?rest24
      case hi24 => simp only [List.getElem?_toArray, List.getElem?_cons_succ, List.getElem?_cons_zero]; rfl
      case hQ24 => exact fun _ _ _ h => h
      case hy24 => exact Or.inl ⟨by rfl, by intro w; go_simp⟩
      try simp only [Act.put, List.setIfInBounds_toArray, List.set_cons_zero, List.set_cons_succ]
      refine wpAny_take (i := 11) (oi := ?oi25) (v := .pointer (some ⟨b1, o1 + 4, none⟩)) ?hi25 (by kernel_rfl) (by kernel_rfl) (by kernel_rfl) ?hQ25 ?hy25 ?rest25
      case hi25 => simp only [List.getElem?_toArray, List.getElem?_cons_succ, List.getElem?_cons_zero]; rfl
      case hQ25 => exact fun _ _ _ h => h
      case hy25 => exact Or.inl ⟨by rfl, by intro w; go_simp⟩
      try simp only [Act.put, List.setIfInBounds_toArray, List.set_cons_zero, List.set_cons_succ]
      refine wpAny_take (i := 13) (oi := ?oi26) (v := .slice Ab1 m1 cb1) ?hi26 (by kernel_rfl) (by kernel_rfl) (by kernel_rfl) ?hQ26 ?hy26 ?rest26
      case hi26 => simp only [List.getElem?_toArray, List.getElem?_cons_succ, List.getElem?_cons_zero]; rfl
      case hQ26 => exact fun _ _ _ h => h
      case hy26 => exact Or.inl ⟨by rfl, by intro w; go_simp⟩
      try simp only [Act.put, List.setIfInBounds_toArray, List.set_cons_zero, List.set_cons_succ]
      refine wpAny_take (i := 14) (oi := ?oi27) (v := .int .i64 (m : Int)) ?hi27 (by kernel_rfl) (by kernel_rfl) (by kernel_rfl) ?hQ27 ?hy27 ?rest27
      case hi27 => simp only [List.getElem?_toArray, List.getElem?_cons_succ, List.getElem?_cons_zero]; rfl
      case hQ27 => exact fun _ _ _ h => h
      case hy27 => exact Or.inl ⟨by rfl, by intro w; go_simp⟩
      try simp only [Act.put, List.setIfInBounds_toArray, List.set_cons_zero, List.set_cons_succ]
      refine wpAny_take (i := 15) (oi := ?oi28) (v := .slice B1 m cb1) ?hi28 (by kernel_rfl) (by kernel_rfl) (by kernel_rfl) ?hQ28 ?hy28 ?rest28
      case hi28 => simp only [List.getElem?_toArray, List.getElem?_cons_succ, List.getElem?_cons_zero]; rfl
      case hQ28 => exact fun _ _ _ h => h
      case hy28 => exact Or.inl ⟨by rfl, by intro w; go_simp⟩
      try simp only [Act.put, List.setIfInBounds_toArray, List.set_cons_zero, List.set_cons_succ]
      refine phaseL (fun i => if i = 6 then [5] else []) (fun d a w' => ∃ x63 x64 x70 : Value, a = { tmps := #[.int .i64 s, .slice (some ⟨b1, f1, none⟩) n1 c1, .slice (some ⟨b2, f2, none⟩) n2 c2, undef, undef, undef, u6, .bool true, .pointer (some ⟨gx, 0, none⟩), .pointer (some ⟨gy, 0, none⟩), .int .i64 (k : Int), .slice Ab1 m1 cb1, .slice Ab2 m2 cb2, .int .i64 (m : Int), u14, u15, .bool true, .bool true, .bool false, .int .i64 s, .pointer (some ⟨t1, 0, none⟩), .pointer (some ⟨gx, 0, none⟩), .int .i64 s, .pointer (some ⟨t2, 0, none⟩), .pointer (some ⟨gy, 0, none⟩), .int .i64 (k : Int), .slice (some ⟨b1, f1, none⟩) n1 c1, .int .i64 (n1 : Int), .bool true, .bool true, .int .i64 (k : Int), .slice (some ⟨b2, f2, none⟩) n2 c2, .int .i64 (n2 : Int), .bool true, .bool true, .bool true, .int .i64 (k : Int), .bool true, .bool true, u39, u40, .slice (some ⟨b1, f1, none⟩) n1 c1, .int .i64 (k : Int), .pointer (some ⟨b1, o1, none⟩), .pointer (some ⟨b1, o1 + 5, none⟩), .slice Ab1 nb1 cb1, .slice Ab1 m1 cb1, .slice (some ⟨b2, f2, none⟩) n2 c2, .int .i64 (k : Int), .pointer (some ⟨b2, o2, none⟩), .pointer (some ⟨b2, o2 + 5, none⟩), .slice Ab2 nb2 cb2, .slice Ab2 m2 cb2, .slice Ab1 m1 cb1, .int .i64 (m1 : Int), .slice Ab2 m2 cb2, .int .i64 (m2 : Int), .int .i64 (m : Int), .pointer (some ⟨gx, 0, none⟩), .slice (some ⟨b1, f1, none⟩) n1 c1, .int .i64 (k : Int), .pointer (some ⟨b1, o1, none⟩), .pointer (some ⟨b1, o1 + 2, none⟩), x63, x64, .int .i64 (k : Int), .slice (some ⟨b1, f1, none⟩) n1 c1, .int .i64 (k : Int), .pointer (some ⟨b1, o1, none⟩), .pointer (some ⟨b1, o1 + 4, none⟩), x70, .slice Ab1 m1 cb1, .int .i64 (m : Int), .slice B1 m cb1, u74, u75, u76, u77, u78, u79, u80, u81, u82, u83, u84, u85, u86, u87, u88, u89, u90, u91, u92, u93, u94, u95, u96, u97, u98, u99, u100, u101, u102, u103], defers := [] } ∧ Hid (Below z1.heap.size z1 w') ∧ (d 5 = true → x63 = .int .u8 (x1.toNat : Int)) ∧ (d 6 = true → x64 = .agg kc1.toArray) ∧ (d 12 = true → x70 = .slice Aa1 na1 ca1)) [5, 6, 12] ?step29 2 3 [5, 6, 12] _ _ _ rfl (by decide) (fun _ h => h) (Fits.of (by kernel_rfl)) ?init29 ?fin29
      case init29 => refine ⟨_, _, _, rfl, Below.refl _ _, ?_, ?_, ?_⟩ <;> (intro h; exact absurd h (by decide))
      case step29 =>
        intro i hi d a v29 hI hdi hdeps
        obtain ⟨x63, x64, x70, rfl, BW, h5, h6, h12⟩ := hI
        have hsw := BW.out.size
        simp only [List.mem_cons, List.not_mem_nil, or_false] at hi
        rcases hi with rfl | rfl | rfl
        · have c0 := (E1.out.below (W1.out.trans (BW.out.mono W1.out.size))).key
          refine wpOp_step (o := ?os30) ?hos30 (fun K hK => ?_)
          case hos30 => simp only [List.getElem?_toArray, List.getElem?_cons_succ, List.getElem?_cons_zero]; rfl
          go_simp
          refine hK _ _ ?_
          clear hK K
          try simp only [Act.put, List.setIfInBounds_toArray, List.set_cons_zero, List.set_cons_succ]
          exact ⟨_, _, _, rfl, BW, fun _ => rfl, fun a => by first | exact h6 (by simpa using a) | rfl, fun a => by first | exact h12 (by simpa using a) | rfl⟩
        · obtain rfl := h5 (hdeps 5 (by simp))
          refine wpOp_step (o := ?os31) ?hos31 (fun K hK => ?_)
          case hos31 => simp only [List.getElem?_toArray, List.getElem?_cons_succ, List.getElem?_cons_zero]; rfl
          refine step_build rfl 34 #[(0, .tmp 63)] rfl kc1 (by simp only [List.map_toArray, List.map_cons, List.map_nil]; exact BK1.out) (hK _ _ ?_)
          clear hK K
          try simp only [Act.put, List.setIfInBounds_toArray, List.set_cons_zero, List.set_cons_succ]
          exact ⟨_, _, _, rfl, BW, fun a => by first | exact h5 (by simpa using a) | rfl, fun _ => rfl, fun a => by first | exact h12 (by simpa using a) | rfl⟩
        · have c0 := (E1.out.below (W1.out.trans (BW.out.mono W1.out.size))).adC
          refine wpOp_step (o := ?os32) ?hos32 (fun K hK => ?_)
          case hos32 => simp only [List.getElem?_toArray, List.getElem?_cons_succ, List.getElem?_cons_zero]; rfl
          go_simp
          refine hK _ _ ?_
          clear hK K
          try simp only [Act.put, List.setIfInBounds_toArray, List.set_cons_zero, List.set_cons_succ]
          exact ⟨_, _, _, rfl, BW, fun a => by first | exact h5 (by simpa using a) | rfl, fun a => by first | exact h6 (by simpa using a) | rfl, fun _ => rfl⟩
      case fin29 =>
        intro a v29 hI
        obtain ⟨x63, x64, x70, rfl, BW, h5, h6, h12⟩ := hI
        obtain rfl := h5 (by decide)
        obtain rfl := h6 (by decide)
        obtain rfl := h12 (by decide)
        replace W1 := Lib.hid (W1.out.trans (BW.out.mono W1.out.size))
        replace PX := Lib.hid (HB.out.below PX.out BW.out)
        replace PY := Lib.hid (HB.out.below PY.out BW.out)
        clear h5 h6 h12 BW hsl
        try dsimp only
        refine wpAny_ready (rs := [16]) (by kernel_rfl) (by simp) ?_
        refine AllReady.cons (o := ?p33) ?q33 (fun K hK => ?_) AllReady.nil
        case q33 => simp only [List.getElem?_toArray, List.getElem?_cons_succ, List.getElem?_cons_zero]; rfl
        go_simp
        refine (CSE.out _ gx x1 kc1 S1 Mx _ _ _ _ _ ad1 bs1 KC1.out W1.out MX.out PX.out E1.out.adR RB1.out).mono ?_
        rintro e y1 ⟨A5, c5, T1, M1, rfl, hR, hP, hF, hM', hN⟩
        refine hK _ _ ?_
        clear hK K
        try simp only [Act.put, List.setIfInBounds_toArray, List.set_cons_zero, List.set_cons_succ]
        have RC := Lib.hid hR
        have NC : Hid (∀ x : Addr, A5 = some x → ¬ My x.block) := fun x hx hm => by have q1 := hN x hx; have q2 := HB.out.lt PY.out hm; omega
        have MDn : Hid (∀ b, M1 b → ¬ My b) := fun b hb hy => by
          rcases hM' b hb with h | h
          · exact MD.out b h hy
          · have q2 := HB.out.lt PY.out hy
            omega
        have MXn : Hid (∀ b, M1 b → w.heap.size ≤ b) := fun b hb => by
          rcases hM' b hb with h | h
          · exact MX.out b h
          · have := W1.out.size
            omega
        replace PY := Lib.hid (HB.out.apart PY.out hF (fun b hy hx => MD.out b hx hy))
        replace W1 := Lib.hid (hF.below W1.out MX.out W1.out.size)
        replace PX := Lib.hid hP
        clear hR hP hF hM' hN MD MX
        refine wpAny_take (i := 17) (oi := ?oi34) (v := .slice A5 mo c5) ?hi34 (by kernel_rfl) (by kernel_rfl) (by kernel_rfl) ?hQ34 ?hy34 ?rest34
        case hi34 => simp only [List.getElem?_toArray, List.getElem?_cons_succ, List.getElem?_cons_zero]; rfl
        case hQ34 => exact fun _ _ _ h => h
        case hy34 => exact Or.inl ⟨by rfl, by intro w; go_simp⟩
        try simp only [Act.put, List.setIfInBounds_toArray, List.set_cons_zero, List.set_cons_succ]
        refine wpAny_done (by kernel_rfl) ?_ _
        go_upto_region 11 with (fail)
        refine wp_region_any (by kernel_rfl) ?_
        change wpAny _ _ _ _ _ _ _ (World.drew _)
        replace W1 := Lib.hid W1.out.drew
        replace PX : Hid (P (World.drew y1) gx (.ideal s (a + mo) T1 [] []) M1) := HB.out.keep PX.out (Nat.le_refl _) (fun _ _ => rfl)
        replace PY : Hid (P (World.drew y1) gy (.ideal s a S2 [] []) My) := HB.out.keep PY.out (Nat.le_refl _) (fun _ _ => rfl)
        replace RC := Lib.hid RC.out.drew
        generalize World.drew y1 = z2 at *
        have hsl := SL2.out
        refine wpAny_take (i := 0) (oi := ?oi35) (v := .pointer (some ⟨gy, 0, none⟩)) ?hi35 (by kernel_rfl) (by kernel_rfl) (by kernel_rfl) ?hQ35 ?hy35 ?rest35
        case hi35 => simp only [List.getElem?_toArray, List.getElem?_cons_succ, List.getElem?_cons_zero]; rfl
        case hQ35 => exact fun _ _ _ h => h
        case hy35 => exact Or.inl ⟨by rfl, by intro w; go_simp⟩
        try simp only [Act.put, List.setIfInBounds_toArray, List.set_cons_zero, List.set_cons_succ]
        refine wpAny_take (i := 1) (oi := ?oi36) (v := .slice (some ⟨b2, f2, none⟩) n2 c2) ?hi36 (by kernel_rfl) (by kernel_rfl) (by kernel_rfl) ?hQ36 ?hy36 ?rest36
        case hi36 => simp only [List.getElem?_toArray, List.getElem?_cons_succ, List.getElem?_cons_zero]; rfl
        case hQ36 => exact fun _ _ _ h => h
        case hy36 => exact Or.inl ⟨by rfl, by intro w; go_simp⟩
        try simp only [Act.put, List.setIfInBounds_toArray, List.set_cons_zero, List.set_cons_succ]
        refine wpAny_take (i := 2) (oi := ?oi37) (v := .int .i64 (k : Int)) ?hi37 (by kernel_rfl) (by kernel_rfl) (by kernel_rfl) ?hQ37 ?hy37 ?rest37
        case hi37 => simp only [List.getElem?_toArray, List.getElem?_cons_succ, List.getElem?_cons_zero]; rfl
        case hQ37 => exact fun _ _ _ h => h
        case hy37 => exact Or.inl ⟨by rfl, by intro w; go_simp⟩
        try simp only [Act.put, List.setIfInBounds_toArray, List.set_cons_zero, List.set_cons_succ]
        refine wpAny_take (i := 3) (oi := ?oi38) (v := .pointer (some ⟨b2, o2, none⟩)) ?hi38 (by kernel_rfl) (by kernel_rfl) (by kernel_rfl) ?hQ38 ?hy38 ?rest38
        case hi38 => simp only [List.getElem?_toArray, List.getElem?_cons_succ, List.getElem?_cons_zero]; rfl
        case hQ38 => exact fun _ _ _ h => h
        case hy38 => exact Or.inl ⟨by rfl, by intro w; go_simp⟩
        try simp only [Act.put, List.setIfInBounds_toArray, List.set_cons_zero, List.set_cons_succ]
        refine wpAny_take (i := 4) (oi := ?oi39) (v := .pointer (some ⟨b2, o2 + 2, none⟩)) ?hi39 (by kernel_rfl) (by kernel_rfl) (by kernel_rfl) ?hQ39 ?hy39 ?rest39
        case hi39 => simp only [List.getElem?_toArray, List.getElem?_cons_succ, List.getElem?_cons_zero]; rfl
        case hQ39 => exact fun _ _ _ h => h
        case hy39 => exact Or.inl ⟨by rfl, by intro w; go_simp⟩
        try simp only [Act.put, List.setIfInBounds_toArray, List.set_cons_zero, List.set_cons_succ]
        refine wpAny_take (i := 7) (oi := ?oi40) (v := .int .i64 (k : Int)) ?hi40 (by kernel_rfl) (by kernel_rfl) (by kernel_rfl) ?hQ40 ?hy40 ?rest40
        case hi40 => simp only [List.getElem?_toArray, List.getElem?_cons_succ, List.getElem?_cons_zero]; rfl
        case hQ40 => exact fun _ _ _ h => h
        case hy40 => exact Or.inl ⟨by rfl, by intro w; go_simp⟩
        try simp only [Act.put, List.setIfInBounds_toArray, List.set_cons_zero, List.set_cons_succ]
        refine wpAny_take (i := 8) (oi := ?oi41) (v := .slice (some ⟨b2, f2, none⟩) n2 c2) ?hi41 (by kernel_rfl) (by kernel_rfl) (by kernel_rfl) ?hQ41 ?hy41 ?rest41
        case hi41 => simp only [List.getElem?_toArray, List.getElem?_cons_succ, List.getElem?_cons_zero]; rfl
        case hQ41 => exact fun _ _ _ h => h
        case hy41 => exact Or.inl ⟨by rfl, by intro w; go_simp⟩
        try simp only [Act.put, List.setIfInBounds_toArray, List.set_cons_zero, List.set_cons_succ]
        refine wpAny_take (i := 9) (oi := ?oi42) (v := .int .i64 (k : Int)) ?hi42 (by kernel_rfl) (by kernel_rfl) (by kernel_rfl) ?hQ42 ?hy42 ?rest42
        case hi42 => simp only [List.getElem?_toArray, List.getElem?_cons_succ, List.getElem?_cons_zero]; rfl
        case hQ42 => exact fun _ _ _ h => h
        case hy42 => exact Or.inl ⟨by rfl, by intro w; go_simp⟩
        try simp only [Act.put, List.setIfInBounds_toArray, List.set_cons_zero, List.set_cons_succ]
        refine wpAny_take (i := 10) (oi := ?oi43) (v := .pointer (some ⟨b2, o2, none⟩)) ?hi43 (by kernel_rfl) (by kernel_rfl) (by kernel_rfl) ?hQ43 ?hy43 ?rest43
        case hi43 => simp only [List.getElem?_toArray, List.getElem?_cons_succ, List.getElem?_cons_zero]; rfl
        case hQ43 => exact fun _ _ _ h => h
        case hy43 => exact Or.inl ⟨by rfl, by intro w; go_simp⟩
        try simp only [Act.put, List.setIfInBounds_toArray, List.set_cons_zero, List.set_cons_succ]
        refine wpAny_take (i := 11) (oi := ?oi44) (v := .pointer (some ⟨b2, o2 + 4, none⟩)) ?hi44 (by kernel_rfl) (by kernel_rfl) (by kernel_rfl) ?hQ44 ?hy44 ?rest44
        case hi44 => simp only [List.getElem?_toArray, List.getElem?_cons_succ, List.getElem?_cons_zero]; rfl
        case hQ44 => exact fun _ _ _ h => h
        case hy44 => exact Or.inl ⟨by rfl, by intro w; go_simp⟩
        try simp only [Act.put, List.setIfInBounds_toArray, List.set_cons_zero, List.set_cons_succ]
        refine wpAny_take (i := 13) (oi := ?oi45) (v := .slice Ab2 m2 cb2) ?hi45 (by kernel_rfl) (by kernel_rfl) (by kernel_rfl) ?hQ45 ?hy45 ?rest45
        case hi45 => simp only [List.getElem?_toArray, List.getElem?_cons_succ, List.getElem?_cons_zero]; rfl
        case hQ45 => exact fun _ _ _ h => h
        case hy45 => exact Or.inl ⟨by rfl, by intro w; go_simp⟩
        try simp only [Act.put, List.setIfInBounds_toArray, List.set_cons_zero, List.set_cons_succ]
        refine wpAny_take (i := 14) (oi := ?oi46) (v := .int .i64 (m : Int)) ?hi46 (by kernel_rfl) (by kernel_rfl) (by kernel_rfl) ?hQ46 ?hy46 ?rest46
        case hi46 => simp only [List.getElem?_toArray, List.getElem?_cons_succ, List.getElem?_cons_zero]; rfl
        case hQ46 => exact fun _ _ _ h => h
        case hy46 => exact Or.inl ⟨by rfl, by intro w; go_simp⟩
        try simp only [Act.put, List.setIfInBounds_toArray, List.set_cons_zero, List.set_cons_succ]
        refine wpAny_take (i := 15) (oi := ?oi47) (v := .slice B2 m cb2) ?hi47 (by kernel_rfl) (by kernel_rfl) (by kernel_rfl) ?hQ47 ?hy47 ?rest47
        case hi47 => simp only [List.getElem?_toArray, List.getElem?_cons_succ, List.getElem?_cons_zero]; rfl
        case hQ47 => exact fun _ _ _ h => h
        case hy47 => exact Or.inl ⟨by rfl, by intro w; go_simp⟩
        try simp only [Act.put, List.setIfInBounds_toArray, List.set_cons_zero, List.set_cons_succ]
        refine phaseL (fun i => if i = 6 then [5] else []) (fun d a w' => ∃ x80 x81 x87 : Value, a = { tmps := #[.int .i64 s, .slice (some ⟨b1, f1, none⟩) n1 c1, .slice (some ⟨b2, f2, none⟩) n2 c2, undef, undef, undef, u6, .bool true, .pointer (some ⟨gx, 0, none⟩), .pointer (some ⟨gy, 0, none⟩), .int .i64 (k : Int), .slice Ab1 m1 cb1, .slice Ab2 m2 cb2, .int .i64 (m : Int), .slice A5 mo c5, u15, .bool true, .bool true, .bool false, .int .i64 s, .pointer (some ⟨t1, 0, none⟩), .pointer (some ⟨gx, 0, none⟩), .int .i64 s, .pointer (some ⟨t2, 0, none⟩), .pointer (some ⟨gy, 0, none⟩), .int .i64 (k : Int), .slice (some ⟨b1, f1, none⟩) n1 c1, .int .i64 (n1 : Int), .bool true, .bool true, .int .i64 (k : Int), .slice (some ⟨b2, f2, none⟩) n2 c2, .int .i64 (n2 : Int), .bool true, .bool true, .bool true, .int .i64 (k : Int), .bool true, .bool true, u39, u40, .slice (some ⟨b1, f1, none⟩) n1 c1, .int .i64 (k : Int), .pointer (some ⟨b1, o1, none⟩), .pointer (some ⟨b1, o1 + 5, none⟩), .slice Ab1 nb1 cb1, .slice Ab1 m1 cb1, .slice (some ⟨b2, f2, none⟩) n2 c2, .int .i64 (k : Int), .pointer (some ⟨b2, o2, none⟩), .pointer (some ⟨b2, o2 + 5, none⟩), .slice Ab2 nb2 cb2, .slice Ab2 m2 cb2, .slice Ab1 m1 cb1, .int .i64 (m1 : Int), .slice Ab2 m2 cb2, .int .i64 (m2 : Int), .int .i64 (m : Int), .pointer (some ⟨gx, 0, none⟩), .slice (some ⟨b1, f1, none⟩) n1 c1, .int .i64 (k : Int), .pointer (some ⟨b1, o1, none⟩), .pointer (some ⟨b1, o1 + 2, none⟩), .int .u8 (x1.toNat : Int), .agg kc1.toArray, .int .i64 (k : Int), .slice (some ⟨b1, f1, none⟩) n1 c1, .int .i64 (k : Int), .pointer (some ⟨b1, o1, none⟩), .pointer (some ⟨b1, o1 + 4, none⟩), .slice Aa1 na1 ca1, .slice Ab1 m1 cb1, .int .i64 (m : Int), .slice B1 m cb1, .slice A5 mo c5, .pointer (some ⟨gy, 0, none⟩), .slice (some ⟨b2, f2, none⟩) n2 c2, .int .i64 (k : Int), .pointer (some ⟨b2, o2, none⟩), .pointer (some ⟨b2, o2 + 2, none⟩), x80, x81, .int .i64 (k : Int), .slice (some ⟨b2, f2, none⟩) n2 c2, .int .i64 (k : Int), .pointer (some ⟨b2, o2, none⟩), .pointer (some ⟨b2, o2 + 4, none⟩), x87, .slice Ab2 m2 cb2, .int .i64 (m : Int), .slice B2 m cb2, u91, u92, u93, u94, u95, u96, u97, u98, u99, u100, u101, u102, u103], defers := [] } ∧ Hid (Below z2.heap.size z2 w') ∧ (d 5 = true → x80 = .int .u8 (x2.toNat : Int)) ∧ (d 6 = true → x81 = .agg kc2.toArray) ∧ (d 12 = true → x87 = .slice Aa2 na2 ca2)) [5, 6, 12] ?step48 2 3 [5, 6, 12] _ _ _ rfl (by decide) (fun _ h => h) (Fits.of (by kernel_rfl)) ?init48 ?fin48
        case init48 => refine ⟨_, _, _, rfl, Below.refl _ _, ?_, ?_, ?_⟩ <;> (intro h; exact absurd h (by decide))
        case step48 =>
          intro i hi d a v48 hI hdi hdeps
          obtain ⟨x80, x81, x87, rfl, BW, h5, h6, h12⟩ := hI
          have hsw := BW.out.size
          simp only [List.mem_cons, List.not_mem_nil, or_false] at hi
          rcases hi with rfl | rfl | rfl
          · have c0 := (E2.out.below (W1.out.trans (BW.out.mono W1.out.size))).key
            refine wpOp_step (o := ?os49) ?hos49 (fun K hK => ?_)
            case hos49 => simp only [List.getElem?_toArray, List.getElem?_cons_succ, List.getElem?_cons_zero]; rfl
            go_simp
            refine hK _ _ ?_
            clear hK K
            try simp only [Act.put, List.setIfInBounds_toArray, List.set_cons_zero, List.set_cons_succ]
            exact ⟨_, _, _, rfl, BW, fun _ => rfl, fun a => by first | exact h6 (by simpa using a) | rfl, fun a => by first | exact h12 (by simpa using a) | rfl⟩
          · obtain rfl := h5 (hdeps 5 (by simp))
            refine wpOp_step (o := ?os50) ?hos50 (fun K hK => ?_)
            case hos50 => simp only [List.getElem?_toArray, List.getElem?_cons_succ, List.getElem?_cons_zero]; rfl
            refine step_build rfl 34 #[(0, .tmp 80)] rfl kc2 (by simp only [List.map_toArray, List.map_cons, List.map_nil]; exact BK2.out) (hK _ _ ?_)
            clear hK K
            try simp only [Act.put, List.setIfInBounds_toArray, List.set_cons_zero, List.set_cons_succ]
            exact ⟨_, _, _, rfl, BW, fun a => by first | exact h5 (by simpa using a) | rfl, fun _ => rfl, fun a => by first | exact h12 (by simpa using a) | rfl⟩
          · have c0 := (E2.out.below (W1.out.trans (BW.out.mono W1.out.size))).adC
            refine wpOp_step (o := ?os51) ?hos51 (fun K hK => ?_)
            case hos51 => simp only [List.getElem?_toArray, List.getElem?_cons_succ, List.getElem?_cons_zero]; rfl
            go_simp
            refine hK _ _ ?_
            clear hK K
            try simp only [Act.put, List.setIfInBounds_toArray, List.set_cons_zero, List.set_cons_succ]
            exact ⟨_, _, _, rfl, BW, fun a => by first | exact h5 (by simpa using a) | rfl, fun a => by first | exact h6 (by simpa using a) | rfl, fun _ => rfl⟩
        case fin48 =>
          intro a v48 hI
          obtain ⟨x80, x81, x87, rfl, BW, h5, h6, h12⟩ := hI
          obtain rfl := h5 (by decide)
          obtain rfl := h6 (by decide)
          obtain rfl := h12 (by decide)
          replace W1 := Lib.hid (W1.out.trans (BW.out.mono W1.out.size))
          replace PX := Lib.hid (HB.out.below PX.out BW.out)
          replace PY := Lib.hid (HB.out.below PY.out BW.out)
          replace RC := Lib.hid (RC.out.below BW.out)
          clear h5 h6 h12 BW hsl
          try dsimp only
          refine wpAny_ready (rs := [16]) (by kernel_rfl) (by simp) ?_
          refine AllReady.cons (o := ?p52) ?q52 (fun K hK => ?_) AllReady.nil
          case q52 => simp only [List.getElem?_toArray, List.getElem?_cons_succ, List.getElem?_cons_zero]; rfl
          go_simp
          refine (CSE.out _ gy x2 kc2 S2 My _ _ _ _ _ ad2 bs2 KC2.out W1.out MY.out PY.out E2.out.adR RB2.out).mono ?_
          rintro e y2 ⟨A6, c6, T2, M2, rfl, hR, hP, hF, hM', hN⟩
          refine hK _ _ ?_
          clear hK K
          try simp only [Act.put, List.setIfInBounds_toArray, List.set_cons_zero, List.set_cons_succ]
          have RD := Lib.hid hR
          have MDm : Hid (∀ b, M1 b → ¬ M2 b) := fun b hb hy => by
            rcases hM' b hy with h | h
            · exact MDn.out b hb h
            · have q2 := HB.out.lt PX.out hb
              omega
          have MYn : Hid (∀ b, M2 b → w.heap.size ≤ b) := fun b hb => by
            rcases hM' b hb with h | h
            · exact MY.out b h
            · have := W1.out.size
              omega
          replace RC := Lib.hid (hF.rd RC.out (fun x hx _ => NC.out x hx))
          replace PX := Lib.hid (HB.out.apart PX.out hF (fun b hx hy => MDn.out b hx hy))
          replace W1 := Lib.hid (hF.below W1.out MY.out W1.out.size)
          replace PY := Lib.hid hP
          clear hR hP hF hM' hN MDn MY NC
          refine wpAny_take (i := 17) (oi := ?oi53) (v := .slice A6 mo c6) ?hi53 (by kernel_rfl) (by kernel_rfl) (by kernel_rfl) ?hQ53 ?hy53 ?rest53
          case hi53 => simp only [List.getElem?_toArray, List.getElem?_cons_succ, List.getElem?_cons_zero]; rfl
          case hQ53 => exact fun _ _ _ h => h
          case hy53 => exact Or.inl ⟨by rfl, by intro w; go_simp⟩
          try simp only [Act.put, List.setIfInBounds_toArray, List.set_cons_zero, List.set_cons_succ]
          refine wpAny_done (by kernel_rfl) ?_ _
          have hcv1 := conv_bytes RC.out
          have hcv2 := conv_bytes RD.out
          have hss := str_same out
          clear hmn hmn2 hmn3 hmn4 hmn5 hi1 hi2
          go_wp2_with fail
          clear hcv1 hcv2 hss
          go_roundw
          case rel => exact ⟨k + 1, a + mo, T1, T2, M1, M2, by omega, by go_num, PX, PY, MXn, MYn, MDm, by unfold Hid; have := HA.out; omega, W1⟩
          case measure => simp [intOf]; omega
end Go.Proofs.YtpbfeobifpmjbaaDoor.boxIdeal
