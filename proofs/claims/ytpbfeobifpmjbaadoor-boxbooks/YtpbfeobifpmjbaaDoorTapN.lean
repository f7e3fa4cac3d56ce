/- The contract of package tape's Next. -/
import Derived.Test.YtpbfeobifpmjbaaDoorTapPa
import Derived.Test.YtpbfeobifpmjbaaDoorTap
namespace Go.Proofs.YtpbfeobifpmjbaaDoor
set_option linter.unusedVariables false
set_option linter.unusedSimpArgs false
set_option maxRecDepth 100000
open Go.RowKit

theorem outC_step (p t : List UInt8) (n j m : Nat) (hp : p.length = j) (ht : t.length = m) (h : j + m ≤ n) :
    (outC p n).take j ++ t.map cellOf ++ (outC p n).drop (j + m) = outC (p ++ t) n := by
  have e1 : p.take n = p := List.take_of_length_le (by omega)
  have e2 : (p ++ t).take n = p ++ t := List.take_of_length_le (by rw [List.length_append]; omega)
  unfold outC
  rw [e1, e2, List.take_append_of_le_length (by simp; omega), List.take_of_length_le (by simp; omega), List.drop_append, List.drop_of_length_le (by simp; omega), List.nil_append, List.drop_replicate, List.length_map, hp, List.length_append, hp, ht, List.map_append]
  congr 2
  omega
/-- The value reads as these bytes. -/
def TGot (w : World) (x : Value) (l : List UInt8) : Prop := ∃ A n c, x = .slice A n c ∧ Rd w A n c l
theorem TGot.below {w w' : World} {x : Value} {l : List UInt8} (h : TGot w x l) (hb : Below w.heap.size w w') : TGot w' x l := by
  obtain ⟨A, n, c, e, hr⟩ := h
  exact ⟨A, n, c, e, hr.below hb⟩
/-- What holds while the parts of Next's sum come up. -/
structure NextI (w5 : World) (s : Int) (p q : Nat) (es ej : List UInt8) (D : List Value) (d : Nat → Bool) (w' : World) (x7 x28 x29 x33 x34 x35 x36 x37 : Value) : Prop where
  bel : Below w5.heap.size w5 w'
  i3 : d 3 = true → x28 = .int .i64 s
  i4 : d 4 = true → TGot w' x29 es
  i8 : d 8 = true → x33 = .int .i64 (p : Int)
  i9 : d 9 = true → x34 = .int .i64 (q : Int)
  i10 : d 10 = true → TGot w' x35 ej
  i11 : d 11 = true → ∃ g, x36 = .slice (some ⟨g, 0, none⟩) 2 2 ∧ RdP w' (some ⟨g, 0, none⟩) 2 [es, ej]
  i12 : d 12 = true → x37 = .agg D.toArray
  i13 : d 13 = true → ∃ h, x7 = .pointer (some ⟨h, 0, none⟩) ∧ w5.heap.size ≤ h ∧ Blk w' h 34 (List.replicate 32 (.int .u8 0))
theorem NextI.below {w5 : World} {s : Int} {p q : Nat} {es ej : List UInt8} {D : List Value} {d : Nat → Bool} {w' w'' : World} {x7 x28 x29 x33 x34 x35 x36 x37 : Value} (h : NextI w5 s p q es ej D d w' x7 x28 x29 x33 x34 x35 x36 x37) (hb : Below w'.heap.size w' w'') : NextI w5 s p q es ej D d w'' x7 x28 x29 x33 x34 x35 x36 x37 :=
  ⟨h.bel.trans (hb.mono h.bel.size), h.i3, fun a => (h.i4 a).below hb, h.i8, h.i9, fun a => (h.i10 a).below hb, fun a => by obtain ⟨g, e, hr⟩ := h.i11 a; exact ⟨g, e, hr.below hb⟩, h.i12, fun a => by obtain ⟨k, e, h1, h2⟩ := h.i13 a; exact ⟨k, e, h1, h2.below hb h2.lt⟩⟩

set_option maxRecDepth 100000 in
set_option maxHeartbeats 8000000 in
theorem tnext_any {w : World} {g : Nat} {s : Int} {a : Nat} (n : Nat) (hG : Gl w) (h2 : 2 ≤ g) (hT : TapeAt w g s a) (hn : n ≤ 4000) (ha : a ≤ 1000000) :
    Calls Tryd.prog 38 #[.pointer (some ⟨g, 0, none⟩), .int .i64 (n : Int)] w fun e w' => ∃ A c, e = .returned (.slice A n c) ∧ Rd w' A n c (Tap.tape s a n) ∧ TapeAt w' g s (a + n) ∧ w.grownBy w' (some g) ∧ (∀ ad, A = some ad → w.heap.size ≤ ad.block) := by
  have hmk := make_bytes n (by omega)
  have h0 : ¬ ((n : Int) < 0) := by omega
  have h4 : ¬ ((4000 : Int) < (n : Int)) := by omega
  have HG := Lib.hid hG
  have HT := Lib.hid hT
  have hgl : g < w.heap.size := hT.blk.lt
  have hs1 := hT.lo
  have hs2 := hT.hi
  obtain ⟨O, hO⟩ : ∃ O, O = outC [] n := ⟨_, rfl⟩
  rw [← hO] at hmk
  have HO := Lib.hid hO
  clear hG hT hO
  go_enter Tryd.func38, Tryd.ntmps38
  go_wp2_with fail
  clear hmk h0 h4
  obtain ⟨B, hB⟩ : ∃ B, B = w.heap.size := ⟨_, rfl⟩
  have W0 : Hid (w.grownBy (w.alloc (.cells O.toArray 5)) (some g)) := only_alloc (only_refl _ _) _
  have G0 : Hid (Blk (w.alloc (.cells O.toArray 5)) g 56 [.int .i64 s, .int .i64 (a : Int)]) := HT.out.blk.alloc _
  have B0 : Hid (Blk (w.alloc (.cells O.toArray 5)) B 5 (outC (Tap.tape s a 0) n)) := by unfold Hid; rw [hB, Tap.tape_zero, ← HO.out]; exact Blk.new _ _ _
  rw [← hB]
  generalize w.alloc (.cells O.toArray 5) = w1 at *
  have hBw : w.heap.size ≤ B := by omega
  clear hB
  have CP := Lib.hid (fun W => put_any s hs1 hs2 (Rd.nil W none 0 (by unfold maxLen; omega)) (by omega))
  simp only [List.nil_append] at CP
  have hz1 : (Num.enc (Num.zig s)).length ≤ 10 := Num.enc_len10 (Num.zig_lt s hs1 hs2)
  clear HT HO
  go_loopw [6] (fun v wr => ∃ (k : Nat) (A : Option Addr), k ≤ n ∧ v = .slice A (n - k) (n - k) ∧ Hid (k < n → A = some ⟨B, k, none⟩) ∧ Hid (Blk wr g 56 [.int .i64 s, .int .i64 ((a + k : Nat) : Int)]) ∧ Hid (Blk wr B 5 (outC (Tap.tape s a k) n)) ∧ Hid (w.grownBy wr (some g))) (fun v _ => slen v)
  case atStart => exact ⟨0, _, by omega, rfl, fun _ => rfl, G0, B0, W0⟩
  case round =>
    clear W0 G0 B0
    obtain ⟨k, A, hk, rfl, HA, HGB, HOB, HW⟩ := hrel
    by_cases hlt : k < n
    · obtain rfl := HA.out hlt
      clear HA
      have hl0 : decide ((0 : Int) < ((n - k : Nat) : Int)) = true := by simp; omega
      obtain ⟨p, hp⟩ : ∃ p, p = a + k := ⟨_, rfl⟩
      obtain ⟨q, hq⟩ : ∃ q, q = p / 32 := ⟨_, rfl⟩
      obtain ⟨r, hr⟩ : ∃ r, r = p % 32 := ⟨_, rfl⟩
      rw [← hp] at HGB
      have eq1 : (p : Int) / 32 = (q : Int) := by omega
      have eqt : (p : Int).tdiv 32 = (q : Int) := by rw [Int.tdiv_eq_ediv_of_nonneg (by omega)]; exact eq1
      have er1 : (p : Int) % 32 = (r : Int) := by omega
      have ert : (p : Int).tmod 32 = (r : Int) := by rw [Int.tmod_eq_emod_of_nonneg (by omega)]; exact er1
      have hpq : Hid (p = 32 * q + r) := by unfold Hid; omega
      have hr32 : r < 32 := by omega
      have hwq : IntKind.i64.wrap (q : Int) = (q : Int) := by rw [IntKind.wrap_i64]; omega
      have hp6 : p ≤ 1004000 := by omega
      have CJ := Lib.hid (fun W => put_any (q : Int) (by omega) (by omega) (Rd.nil W none 0 (by unfold maxLen; omega)) (by omega))
      simp only [List.nil_append] at CJ
      have hz2 : (Num.enc (Num.zig (q : Int))).length ≤ 10 := Num.enc_len10 (Num.zig_lt _ (by omega) (by omega))
      obtain ⟨D, hD⟩ : ∃ D, D = (Tap.blk s q).map cellOf := ⟨_, rfl⟩
      have hDl : D.length = 32 := by rw [hD, List.length_map, Tap.blk_length]
      have ID : Hid ((Tryd.prog.info? 34).map (·.size) = some D.length) := by unfold Hid; rw [hDl]; kernel_rfl
      have LD : Hid ((List.replicate 32 (Value.int .u8 0)).length = D.length) := by unfold Hid; rw [hDl]; rfl
      have OD : Hid (∀ v ∈ D, v.oneCell' = true) := by unfold Hid; rw [hD]; exact cells_u8 _
      obtain ⟨es, hes⟩ : ∃ l, l = Num.enc (Num.zig s) := ⟨_, rfl⟩
      obtain ⟨ej, hej⟩ : ∃ l, l = Num.enc (Num.zig (q : Int)) := ⟨_, rfl⟩
      rw [← hes] at CP hz1
      rw [← hej] at CJ hz2
      have CS : Hid (∀ (W : World) (AX : Option Addr) (c : Nat), Gl W → RdP W AX 2 [es, ej] → Calls Tryd.prog 53 #[.slice AX 2 c] W fun e w' => e = .returned (.agg D.toArray) ∧ Below W.heap.size W w') := fun W AX c hg hR => by
        refine (shaSum_any (c := c) hg hR (by omega) (by simp; omega)).mono ?_
        rintro e w' ⟨D', rfl, hS, hX⟩
        have e1 : D' = D := by
          rw [hS, hD, Tap.blk, ← hes, ← hej]
          simp
        rw [e1]
        exact ⟨rfl, hX⟩
      have HD := Lib.hid hD
      have HP := Lib.hid hp
      clear hes hej hD hDl hp hq hr eq1 er1
      go_upto_region 6 with (fail)
      refine wp_region_any (by kernel_rfl) ?_
      change wpAny _ _ _ _ _ _ _ (World.drew _)
      have DG : Hid (Blk wr.drew g 56 [.int .i64 s, .int .i64 (p : Int)]) := HGB.out.drew
      have DO : Hid (Blk wr.drew B 5 (outC (Tap.tape s a k) n)) := HOB.out.drew
      have DW : Hid (w.grownBy wr.drew (some g)) := only_drew HW.out
      have GW : Hid (Gl wr.drew) := HG.out.only DW.out h2
      clear HGB HOB HW
      generalize wr.drew = w5 at *
      refine wpAny_take (i := 0) (oi := ?oit1) (v := .pointer (some ⟨g, 0, none⟩)) ?hit1 (by kernel_rfl) (by kernel_rfl) (by kernel_rfl) ?hQt1 ?hyt1 ?restt1
      case hit1 => simp only [List.getElem?_toArray, List.getElem?_cons_succ, List.getElem?_cons_zero]; rfl
      case hQt1 => exact fun _ _ _ h => h
      case hyt1 => exact Or.inl ⟨by rfl, by intro w; go_simp⟩
      try simp only [Act.put, List.setIfInBounds_toArray, List.set_cons_zero, List.set_cons_succ]
      refine wpAny_take (i := 1) (oi := ?oit2) (v := .pointer (some ⟨g, 0, none⟩)) ?hit2 (by kernel_rfl) (by kernel_rfl) (by kernel_rfl) ?hQt2 ?hyt2 ?restt2
      case hit2 => simp only [List.getElem?_toArray, List.getElem?_cons_succ, List.getElem?_cons_zero]; rfl
      case hQt2 => exact fun _ _ _ h => h
      case hyt2 => exact Or.inl ⟨by rfl, by intro w; go_simp⟩
      try simp only [Act.put, List.setIfInBounds_toArray, List.set_cons_zero, List.set_cons_succ]
      refine wpAny_take (i := 2) (oi := ?oit3) (v := .pointer (some ⟨g, 0, none⟩)) ?hit3 (by kernel_rfl) (by kernel_rfl) (by kernel_rfl) ?hQt3 ?hyt3 ?restt3
      case hit3 => simp only [List.getElem?_toArray, List.getElem?_cons_succ, List.getElem?_cons_zero]; rfl
      case hQt3 => exact fun _ _ _ h => h
      case hyt3 => exact Or.inl ⟨by rfl, by intro w; go_simp⟩
      try simp only [Act.put, List.setIfInBounds_toArray, List.set_cons_zero, List.set_cons_succ]
      refine wpAny_take (i := 5) (oi := ?oit4) (v := .pointer (some ⟨g, 0, none⟩)) ?hit4 (by kernel_rfl) (by kernel_rfl) (by kernel_rfl) ?hQt4 ?hyt4 ?restt4
      case hit4 => simp only [List.getElem?_toArray, List.getElem?_cons_succ, List.getElem?_cons_zero]; rfl
      case hQt4 => exact fun _ _ _ h => h
      case hyt4 => exact Or.inl ⟨by rfl, by intro w; go_simp⟩
      try simp only [Act.put, List.setIfInBounds_toArray, List.set_cons_zero, List.set_cons_succ]
      refine wpAny_take (i := 6) (oi := ?oit5) (v := .pointer (some ⟨g, 0, none⟩)) ?hit5 (by kernel_rfl) (by kernel_rfl) (by kernel_rfl) ?hQt5 ?hyt5 ?restt5
      case hit5 => simp only [List.getElem?_toArray, List.getElem?_cons_succ, List.getElem?_cons_zero]; rfl
      case hQt5 => exact fun _ _ _ h => h
      case hyt5 => exact Or.inl ⟨by rfl, by intro w; go_simp⟩
      try simp only [Act.put, List.setIfInBounds_toArray, List.set_cons_zero, List.set_cons_succ]
      refine wpAny_take (i := 7) (oi := ?oit6) (v := .pointer (some ⟨g, 1, none⟩)) ?hit6 (by kernel_rfl) (by kernel_rfl) (by kernel_rfl) ?hQt6 ?hyt6 ?restt6
      case hit6 => simp only [List.getElem?_toArray, List.getElem?_cons_succ, List.getElem?_cons_zero]; rfl
      case hQt6 => exact fun _ _ _ h => h
      case hyt6 => exact Or.inl ⟨by rfl, by intro w; go_simp⟩
      try simp only [Act.put, List.setIfInBounds_toArray, List.set_cons_zero, List.set_cons_succ]
      refine phase (fun i => if i = 4 then [3] else if i = 9 then [8] else if i = 10 then [4, 9] else if i = 11 then [4, 10] else if i = 12 then [11] else []) (fun d a w' => ∃ x7 x24 x28 x29 x33 x34 x35 x36 x37 : Value, a = { tmps := #[.pointer (some ⟨g, 0, none⟩), .int .i64 (n : Int), undef, undef, .slice none 0 0, .slice (some ⟨B, 0, none⟩) n n, .slice (some ⟨B, k, none⟩) (n - k) (n - k), x7, u8, .pointer (some ⟨g, 0, none⟩), .bool false, .bool false, .int .i64 (n : Int), .bool false, .bool false, .bool false, .int .i64 (n : Int), .bool false, .bool false, .int .i64 (n : Int), .slice (some ⟨B, 0, none⟩) n n, .slice (some ⟨B, 0, none⟩) n n, .slice (some ⟨B, k, none⟩) (n - k) (n - k), .int .i64 ((n - k : Nat) : Int), x24, .pointer (some ⟨g, 0, none⟩), .pointer (some ⟨g, 0, none⟩), .pointer (some ⟨g, 0, none⟩), x28, x29, .pointer (some ⟨g, 0, none⟩), .pointer (some ⟨g, 0, none⟩), .pointer (some ⟨g, 1, none⟩), x33, x34, x35, x36, x37, u38, u39, u40, u41, u42, u43, u44, u45, u46, u47, u48, u49, u50, u51, u52, u53, u54, u55, u56, undef], defers := [] } ∧ Hid (NextI w5 s p q es ej D d w' x7 x28 x29 x33 x34 x35 x36 x37)) [3, 4, 8, 9, 10, 11, 12, 13] ?step 1 8 [3, 4, 8, 9, 10, 11, 12, 13] _ _ _ rfl (by decide) (fun _ h => h) (by kernel_rfl) ?init ?fin
      case init =>
        refine ⟨_, _, _, _, _, _, _, _, _, rfl, Below.refl _ _, ?_, ?_, ?_, ?_, ?_, ?_, ?_, ?_⟩ <;> (intro h; exact absurd h (by decide))
      case step =>
        intro i hi d a w6 hI hdi hdeps
        obtain ⟨x7, x24, x28, x29, x33, x34, x35, x36, x37, rfl, HI⟩ := hI
        simp only [List.mem_cons, List.not_mem_nil, or_false] at hi
        rcases hi with rfl | rfl | rfl | rfl | rfl | rfl | rfl | rfl
        · have c0 : w6.cell? ⟨g, 0, none⟩ = some (.int .i64 s) := (DG.out.below HI.out.bel DG.out.lt).cell 0
          refine wpOp_step (o := ?osa3) ?hosa3 (fun K hK => ?_)
          case hosa3 => simp only [List.getElem?_toArray, List.getElem?_cons_succ, List.getElem?_cons_zero]; rfl
          go_simp
          have hJ := HI.out
          refine hK _ _ ?_
          clear hK K
          try simp only [Act.put, List.setIfInBounds_toArray, List.set_cons_zero, List.set_cons_succ]
          exact ⟨_, _, _, _, _, _, _, _, _, rfl, hJ.bel, fun _ => rfl, fun a => hJ.i4 (by simpa using a), fun a => hJ.i8 (by simpa using a), fun a => hJ.i9 (by simpa using a), fun a => hJ.i10 (by simpa using a), fun a => hJ.i11 (by simpa using a), fun a => hJ.i12 (by simpa using a), fun a => hJ.i13 (by simpa using a)⟩
        · obtain rfl := HI.out.i3 (hdeps 3 (by simp))
          refine wpOp_step (o := ?osa4) ?hosa4 (fun K hK => ?_)
          case hosa4 => simp only [List.getElem?_toArray, List.getElem?_cons_succ, List.getElem?_cons_zero]; rfl
          go_simp
          refine (CP.out w6).mono ?_
          rintro e w7 ⟨v, rfl, hO, hX⟩
          obtain ⟨A1, c1, rfl, hR1, _⟩ := hO.value
          have hJ := HI.out.below hX
          refine hK _ _ ?_
          clear hK K
          try simp only [Act.put, List.setIfInBounds_toArray, List.set_cons_zero, List.set_cons_succ]
          exact ⟨_, _, _, _, _, _, _, _, _, rfl, hJ.bel, fun a => hJ.i3 (by simpa using a), fun _ => ⟨_, _, _, rfl, hR1⟩, fun a => hJ.i8 (by simpa using a), fun a => hJ.i9 (by simpa using a), fun a => hJ.i10 (by simpa using a), fun a => hJ.i11 (by simpa using a), fun a => hJ.i12 (by simpa using a), fun a => hJ.i13 (by simpa using a)⟩
        · have c0 : w6.cell? ⟨g, 1, none⟩ = some (.int .i64 (p : Int)) := (DG.out.below HI.out.bel DG.out.lt).cell 1
          refine wpOp_step (o := ?osa8) ?hosa8 (fun K hK => ?_)
          case hosa8 => simp only [List.getElem?_toArray, List.getElem?_cons_succ, List.getElem?_cons_zero]; rfl
          go_simp
          have hJ := HI.out
          refine hK _ _ ?_
          clear hK K
          try simp only [Act.put, List.setIfInBounds_toArray, List.set_cons_zero, List.set_cons_succ]
          exact ⟨_, _, _, _, _, _, _, _, _, rfl, hJ.bel, fun a => hJ.i3 (by simpa using a), fun a => hJ.i4 (by simpa using a), fun _ => rfl, fun a => hJ.i9 (by simpa using a), fun a => hJ.i10 (by simpa using a), fun a => hJ.i11 (by simpa using a), fun a => hJ.i12 (by simpa using a), fun a => hJ.i13 (by simpa using a)⟩
        · obtain rfl := HI.out.i8 (hdeps 8 (by simp))
          refine wpOp_step (o := ?osa9) ?hosa9 (fun K hK => ?_)
          case hosa9 => simp only [List.getElem?_toArray, List.getElem?_cons_succ, List.getElem?_cons_zero]; rfl
          go_simp
          have hJ := HI.out
          refine hK _ _ ?_
          clear hK K
          try simp only [Act.put, List.setIfInBounds_toArray, List.set_cons_zero, List.set_cons_succ]
          exact ⟨_, _, _, _, _, _, _, _, _, rfl, hJ.bel, fun a => hJ.i3 (by simpa using a), fun a => hJ.i4 (by simpa using a), fun a => hJ.i8 (by simpa using a), fun _ => rfl, fun a => hJ.i10 (by simpa using a), fun a => hJ.i11 (by simpa using a), fun a => hJ.i12 (by simpa using a), fun a => hJ.i13 (by simpa using a)⟩
        · obtain rfl := HI.out.i9 (hdeps 9 (by simp))
          refine wpOp_step (o := ?osa10) ?hosa10 (fun K hK => ?_)
          case hosa10 => simp only [List.getElem?_toArray, List.getElem?_cons_succ, List.getElem?_cons_zero]; rfl
          go_simp
          refine (CJ.out w6).mono ?_
          rintro e w7 ⟨v, rfl, hO, hX⟩
          obtain ⟨A1, c1, rfl, hR1, _⟩ := hO.value
          have hJ := HI.out.below hX
          refine hK _ _ ?_
          clear hK K
          try simp only [Act.put, List.setIfInBounds_toArray, List.set_cons_zero, List.set_cons_succ]
          exact ⟨_, _, _, _, _, _, _, _, _, rfl, hJ.bel, fun a => hJ.i3 (by simpa using a), fun a => hJ.i4 (by simpa using a), fun a => hJ.i8 (by simpa using a), fun a => hJ.i9 (by simpa using a), fun _ => ⟨_, _, _, rfl, hR1⟩, fun a => hJ.i11 (by simpa using a), fun a => hJ.i12 (by simpa using a), fun a => hJ.i13 (by simpa using a)⟩
        · obtain ⟨q1, m1, d1, rfl, hR1⟩ := HI.out.i4 (hdeps 4 (by simp))
          obtain ⟨q2, m2, d2, rfl, hR2⟩ := HI.out.i10 (hdeps 10 (by simp))
          have HPP := Lib.hid (lit_parts2 w6 hR1 hR2 rfl)
          have hX := (Below.refl w6.heap.size w6).alloc (Nat.le_refl _) (.cells #[.slice q1 m1 d1, .slice q2 m2 d2] 28)
          have HJ := Lib.hid (HI.out.below hX)
          clear hR1 hR2 hX
          refine wpOp_step (o := ?osa11) ?hosa11 (fun K hK => ?_)
          case hosa11 => simp only [List.getElem?_toArray, List.getElem?_cons_succ, List.getElem?_cons_zero]; rfl
          go_simp
          have hJ := HJ.out
          refine hK _ _ ?_
          clear hK K
          try simp only [Act.put, List.setIfInBounds_toArray, List.set_cons_zero, List.set_cons_succ]
          exact ⟨_, _, _, _, _, _, _, _, _, rfl, hJ.bel, fun a => hJ.i3 (by simpa using a), fun a => hJ.i4 (by simpa using a), fun a => hJ.i8 (by simpa using a), fun a => hJ.i9 (by simpa using a), fun a => hJ.i10 (by simpa using a), fun _ => ⟨_, rfl, HPP.out⟩, fun a => hJ.i12 (by simpa using a), fun a => hJ.i13 (by simpa using a)⟩
        · obtain ⟨g1, rfl, hR⟩ := HI.out.i11 (hdeps 11 (by simp))
          have HPP := Lib.hid hR
          clear hR
          refine wpOp_step (o := ?osa12) ?hosa12 (fun K hK => ?_)
          case hosa12 => simp only [List.getElem?_toArray, List.getElem?_cons_succ, List.getElem?_cons_zero]; rfl
          go_simp
          refine (CS.out w6 _ _ (GW.out.below HI.out.bel GW.out.size) HPP.out).mono ?_
          rintro e w7 ⟨rfl, hX⟩
          have hJ := HI.out.below hX
          refine hK _ _ ?_
          clear hK K
          try simp only [Act.put, List.setIfInBounds_toArray, List.set_cons_zero, List.set_cons_succ]
          exact ⟨_, _, _, _, _, _, _, _, _, rfl, hJ.bel, fun a => hJ.i3 (by simpa using a), fun a => hJ.i4 (by simpa using a), fun a => hJ.i8 (by simpa using a), fun a => hJ.i9 (by simpa using a), fun a => hJ.i10 (by simpa using a), fun a => hJ.i11 (by simpa using a), fun _ => rfl, fun a => hJ.i13 (by simpa using a)⟩
        · have hX := (Below.refl w6.heap.size w6).alloc (Nat.le_refl _) (.cells (List.replicate 32 (.int .u8 0)).toArray 34)
          have HJ := Lib.hid (HI.out.below hX)
          have hle := HI.out.bel.size
          clear hX
          refine wpOp_step (o := ?osa13) ?hosa13 (fun K hK => ?_)
          case hosa13 => simp only [List.getElem?_toArray, List.getElem?_cons_succ, List.getElem?_cons_zero]; rfl
          go_simp
          have hJ := HJ.out
          refine hK _ _ ?_
          clear hK K
          try simp only [Act.put, List.setIfInBounds_toArray, List.set_cons_zero, List.set_cons_succ]
          exact ⟨_, _, _, _, _, _, _, _, _, rfl, hJ.bel, fun a => hJ.i3 (by simpa using a), fun a => hJ.i4 (by simpa using a), fun a => hJ.i8 (by simpa using a), fun a => hJ.i9 (by simpa using a), fun a => hJ.i10 (by simpa using a), fun a => hJ.i11 (by simpa using a), fun a => hJ.i12 (by simpa using a), fun _ => ⟨_, rfl, hle, Blk.at_new _ _ _ _ _ rfl rfl⟩⟩
      case fin =>
        intro a w6 hI
        obtain ⟨x7, x24, x28, x29, x33, x34, x35, x36, x37, rfl, HI⟩ := hI
        obtain rfl := HI.out.i12 (by decide)
        obtain ⟨h, rfl, hh, FZ⟩ := HI.out.i13 (by decide)
        have hgl5 : g < w5.heap.size := DG.out.lt
        have hBl5 : B < w5.heap.size := DO.out.lt
        have FG := DG.out.below HI.out.bel DG.out.lt
        have FO := DO.out.below HI.out.bel DO.out.lt
        have FW := only_trans DW.out (only_of_below HI.out.bel (some g))
        clear HI CP CJ CS
        dsimp only
        refine wpAny_ready (rs := [14]) (by kernel_rfl) (by simp) ?_
        refine AllReady.cons (o := ?pz) ?qz (fun K hK => ?_) AllReady.nil
        case qz => simp only [List.getElem?_toArray, List.getElem?_cons_succ, List.getElem?_cons_zero]; rfl
        refine step_storeAll rfl 34 (.tmp 7) (.tmp 37) rfl h rfl D rfl 34 (List.replicate 32 (Value.int .u8 0)) FZ ID.out LD.out OD.out (hK _ _ ?_)
        clear hK K
        try simp only [Act.put, List.setIfInBounds_toArray, List.set_cons_zero, List.set_cons_succ]
        refine wpAny_done (by kernel_rfl) ?_ _
        have hws : w.heap.size ≤ h := Nat.le_trans DW.out.size hh
        have SD : Blk (w6.setRow h D.toArray) h 34 D := Blk.row FZ
        have SG := FG.rowFar (k := h) (by omega) D.toArray
        have SO := FO.rowFar (k := h) (by omega) D.toArray
        have SW := only_setRow FW (k := h) (.inr hws) D.toArray
        clear FZ FG FO FW DG DO DW GW
        generalize w6.setRow h D.toArray = w7 at *
        have hat := fun W => sliceAt_l 34 32 Tryd.underlying34 h 0 r hr32 W
        have c1 : w7.cell? ⟨g, 1, none⟩ = some (.int .i64 (p : Int)) := SG.cell 1
        have RH : Rd w7 (some ⟨h, r, none⟩) (32 - r) (32 - r) (Tap.tape s p (32 - r)) := by
          have h1 := (Tap.hash_rd SD HD.out (Tap.blk_length s q)).cut (k := r) (e := 32) (by omega) (by omega)
          rw [Tap.blk_tape, Tap.tape_cut s (32 * q) 32 r (32 - r) (by omega), ← hpq.out] at h1
          unfold cutA at h1
          rw [if_neg (by omega), Option.map_some, add_plain, Nat.zero_add] at h1
          exact h1
        obtain ⟨m, hm⟩ : ∃ m, m = min (32 - r) (n - k) := ⟨_, rfl⟩
        have hm0 : 0 < m := by omega
        have hm1 : m ≤ n - k := by omega
        have hm2 : m ≤ 32 - r := by omega
        obtain ⟨w8, hcopy, QO, QW⟩ := copy_into (dCap := n - k) SO RH (show k + (n - k) ≤ (outC (Tap.tape s a k) n).length by rw [outC_length]; omega)
        rw [← hm] at hcopy QO
        rw [Tap.tape_front s p (32 - r) m hm2, outC_step _ _ n k m (Tap.tape_length _ _ _) (Tap.tape_length _ _ _) (by omega), HP.out, ← Tap.tape_add] at QO
        have hgB : g ≠ B := by omega
        have QG : Blk w8 g 56 [.int .i64 s, .int .i64 (p : Int)] := (QW.block g SG.lt (by simp; omega)).trans SG
        have c2 : w8.cell? ⟨g, 1, none⟩ = some (.int .i64 (p : Int)) := QG.cell 1
        have f2 : w8.frozen? ⟨g, 1, none⟩ = false := QG.frozen 1
        have hcut := fun W => slice_l (some ⟨B, k, none⟩) (n - k) (n - k) m hm1 W
        have XW : w.grownBy w8 (some g) := ⟨QW.os.trans SW.os, QW.tape.trans SW.tape, QW.output.trans SW.output, Nat.le_trans SW.size QW.size, fun i hi hne => (QW.block i (Nat.lt_of_lt_of_le hi SW.size) (by simp; omega)).trans (SW.block i hi hne)⟩
        obtain ⟨w9, hw9⟩ : ∃ w9, w9 = w8.setCell ⟨g, 1, none⟩ (.int .i64 ((p : Int) + (m : Int))) := ⟨_, rfl⟩
        have YG : Hid (Blk w9 g 56 [.int .i64 s, .int .i64 ((p + m : Nat) : Int)]) := by
          unfold Hid
          rw [hw9, show ((p + m : Nat) : Int) = (p : Int) + (m : Int) by omega]
          exact QG.set_ 1 _
        have YO : Hid (Blk w9 B 5 (outC (Tap.tape s a (k + m)) n)) := by unfold Hid; rw [hw9]; exact QO.far (p := ⟨g, 1, none⟩) (Ne.symm hgB) _
        have YW : Hid (w.grownBy w9 (some g)) := by unfold Hid; rw [hw9]; exact only_setCell XW (.inl rfl) _
        have HW9 := Lib.hid hw9
        clear hw9 QO QG QW XW RH SD SG SO SW hm
        go_wp2_with fail
        rw [← HW9.out]
        go_roundw
        case rel => exact ⟨k + m, _, by omega, by rw [Nat.sub_sub], fun hlt2 => by unfold cutA; rw [if_neg (by omega), Option.map_some, add_plain], by rw [show a + (k + m) = p + m by have := HP.out; omega]; exact YG, YO, YW⟩
        case measure => simp [slen]; omega
    · obtain rfl : k = n := by omega
      have hl0 : ¬ (0 < k - k) := by omega
      go_wp2_with fail
      go_ret
      refine ⟨_, _, rfl, outC_rd HOB.out (Tap.tape_length _ _ _) (by omega), ⟨HGB.out, hs1, hs2⟩, HW.out, fun ad had => ?_⟩
      injection had with had
      rw [← had]
      omega
end Go.Proofs.YtpbfeobifpmjbaaDoor
