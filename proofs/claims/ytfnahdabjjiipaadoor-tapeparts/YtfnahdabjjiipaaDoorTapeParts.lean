/- The walk of TapeParts. -/
import Derived.Test.YtfnahdabjjiipaaDoorTk
namespace Go.Proofs.YtfnahdabjjiipaaDoor.tapeParts
set_option linter.unusedVariables false
set_option linter.unusedSimpArgs false
set_option maxRecDepth 100000
open Go.RowKit

theorem ne_own {v : Value} {g : Nat} (h : ∀ b, v.ownBlock = some b → b ≠ g) : v.ownBlock = none ∨ v.ownBlock ≠ some g := by
  cases hq : v.ownBlock with
  | none => exact .inl rfl
  | some b => exact .inr (fun e => h b hq (by injection e))
theorem rd_row {w w' : World} {A : Option Addr} {n c : Nat} {l : List UInt8} {row : Option Nat} (h : Rd w A n c l) (hb : w.grownBy w' row) (hne : 0 < n → ∀ ad, A = some ad → some ad.block ≠ row) : Rd w' A n c l :=
  h.keep hb.size fun b off e h0 hb' => hb.block b hb' (by have := hne h0 _ e; simpa using this)

set_option maxRecDepth 100000 in
set_option maxHeartbeats 8000000 in
theorem walk {Tp : World → Nat → Int → Nat → Prop} {Mm : World → Nat → Nat → Prop} (hT : TapeOk Tp Mm) (s n p0 : Int) (W : World) (hG : Gl W) (hs1 : -9223372036854775808 ≤ s) (hs2 : s ≤ 9223372036854775807) :
    Calls Tryd.prog 5 #[.int .i64 s, .int .i64 n, .int .i64 p0] W fun e w' => e = .returned (.bool true) ∧ Below W.heap.size W w' := by
  have HG := Lib.hid hG
  have HT := Lib.hid hT
  have hsz := hG.size
  clear hG hT
  by_cases hr0 : n < 0
  · have d0 : decide (n < 0) = true := decide_eq_true hr0
    go_enter Tryd.func5, Tryd.ntmps5
    go_wp2_with fail
    refine (begun7_any HT.out HG.out).mono ?_
    rintro e w1 ⟨rfl, HB⟩
    have W1 := Lib.hid HB
    have hs1' := HB.size
    clear HB
    go_wp2_with fail
    go_ret
    exact ⟨rfl, W1.out⟩
  have d0 : decide (n < 0) = false := decide_eq_false hr0
  by_cases hr1 : 500 < n
  · have d1 : decide (500 < n) = true := decide_eq_true hr1
    go_enter Tryd.func5, Tryd.ntmps5
    go_wp2_with fail
    refine (begun7_any HT.out HG.out).mono ?_
    rintro e w1 ⟨rfl, HB⟩
    have W1 := Lib.hid HB
    have hs1' := HB.size
    clear HB
    go_wp2_with fail
    go_ret
    exact ⟨rfl, W1.out⟩
  have d1 : decide (500 < n) = false := decide_eq_false hr1
  by_cases hr2 : p0 < 1
  · have d2 : decide (p0 < 1) = true := decide_eq_true hr2
    go_enter Tryd.func5, Tryd.ntmps5
    go_wp2_with fail
    refine (begun7_any HT.out HG.out).mono ?_
    rintro e w1 ⟨rfl, HB⟩
    have W1 := Lib.hid HB
    have hs1' := HB.size
    clear HB
    go_wp2_with fail
    go_ret
    exact ⟨rfl, W1.out⟩
  have d2 : decide (p0 < 1) = false := decide_eq_false hr2
  by_cases hr3 : 60 < p0
  · have d3 : decide (60 < p0) = true := decide_eq_true hr3
    go_enter Tryd.func5, Tryd.ntmps5
    go_wp2_with fail
    refine (begun7_any HT.out HG.out).mono ?_
    rintro e w1 ⟨rfl, HB⟩
    have W1 := Lib.hid HB
    have hs1' := HB.size
    clear HB
    go_wp2_with fail
    go_ret
    exact ⟨rfl, W1.out⟩
  have d3 : decide (60 < p0) = false := decide_eq_false hr3
  obtain ⟨m, hm⟩ : ∃ m : Nat, n = (m : Int) := ⟨n.toNat, by omega⟩
  obtain ⟨p, hp⟩ : ∃ p : Nat, p0 = (p : Int) := ⟨p0.toNat, by omega⟩
  subst hm
  subst hp
  go_enter Tryd.func5, Tryd.ntmps5
  go_wp2_with fail
  refine (begun7_any HT.out HG.out).mono ?_
  rintro e w1 ⟨rfl, HB⟩
  have W1 := Lib.hid HB
  have hs1' := HB.size
  clear HB
  go_wp2_with fail
  refine (HT.out.new s w1 hs1 hs2).mono ?_
  rintro e w2 ⟨g, rfl, hgw, hT_, hX_⟩
  have Tg := Lib.hid hT_
  have hgl : g < w2.heap.size := HT.out.lt hT_
  have W2 := Lib.hid (W1.out.trans (hX_.mono W1.out.size))
  have hs2' := hX_.size
  clear hT_ hX_
  go_wp2_with fail
  refine (HT.out.new s w2 hs1 hs2).mono ?_
  rintro e w3 ⟨h, rfl, hhw, hT_, hX_⟩
  have Th := Lib.hid hT_
  have hhl : h < w3.heap.size := HT.out.lt hT_
  have W3 := Lib.hid (W2.out.trans (hX_.mono W2.out.size))
  have hs3' := hX_.size
  replace Tg := Lib.hid (HT.out.below Tg.out hX_)
  clear hT_ hX_
  go_wp2_with fail
  refine (HT.out.next m (HG.out.below W3.out hsz) (by omega) Tg.out (by omega) (by omega)).mono ?_
  rintro e w4 ⟨A1, c1, rfl, hR_, hT_, hO_, hf_, hm_⟩
  have hs4' := hO_.size
  replace Th := Lib.hid (HT.out.apart Th.out Tg.out (by omega) hO_)
  replace Tg := Lib.hid hT_
  have RA1 := Lib.hid hR_
  have FA1 := Lib.hid hf_
  have NA1 := Lib.hid hR_.in_
  have W4 := Lib.hid (below_of_only W3.out hO_ (by omega) W3.out.size)
  clear hR_ hT_ hO_ hf_ hm_
  rw [Nat.zero_add] at Tg
  have hsW : W.heap.size ≤ w4.heap.size := W4.out.size
  go_upto_region 9 with (fail)
  go_loopw [11] (fun v wr => ∃ (j : Nat) (A : Option Addr) (c : Nat), v = .slice A j c ∧ j ≤ m ∧ w4.heap.size ≤ wr.heap.size ∧ Hid (Ow wr w4.heap.size (.slice A j c) (Tap.tape s 0 j)) ∧ Hid (Tp wr h s j) ∧ Hid (Tp wr g s m) ∧ Hid (Rd wr A1 m c1 (Tap.tape s 0 m)) ∧ Hid (∀ b, (Value.slice A j c).ownBlock = some b → ¬ Mm wr g b) ∧ Hid (∀ b, (Value.slice A j c).ownBlock = some b → ¬ Mm wr h b) ∧ Hid (Below W.heap.size W wr)) (fun v _ => m - Tap.vlen v)
  case atStart => exact ⟨0, none, 0, rfl, by omega, Nat.le_refl _, Ow.empty _ _, Th, Tg, RA1, (fun b hb => by cases hb), (fun b hb => by cases hb), W4⟩
  case round =>
    clear Tg Th RA1 W1 W2 W3 W4
    obtain ⟨j, A, c, rfl, hj, hsr, OW, TH, TG, RA, OG, OH, BW⟩ := hrel
    by_cases hlt : j < m
    · have hlb : decide ((j : Int) < (m : Int)) = true := by simp; omega
      obtain ⟨k, hk⟩ : ∃ k, k = min p (m - j) := ⟨_, rfl⟩
      have hk1 : 0 < k := by omega
      have hk2 : j + k ≤ m := by omega
      have hk3 : k ≤ 60 := by omega
      have hmin1 : (if (p : Int) < (m : Int) - (j : Int) then (p : Int) else (m : Int) - (j : Int)) = (k : Int) := by split <;> omega
      have hmin2 : (if (m : Int) - (j : Int) < (p : Int) then (m : Int) - (j : Int) else (p : Int)) = (k : Int) := by split <;> omega
      clear hk
      go_wp2_with fail
      refine (HT.out.next k (HG.out.below BW.out hsz) (by omega) TH.out (by omega) (by omega)).mono ?_
      rintro e w5 ⟨A2, c2, rfl, hR2, hT2, hO, hf2, hm2⟩
      have hs5 := hO.size
      obtain ⟨b2, off2, hA2, _, _⟩ := hR2.at_ hk1
      subst hA2
      have R2 := Lib.hid hR2
      have OW5 := Lib.hid (OW.out.kept hO (ne_own fun b hb => by have := (OW.out.lt_ b hb).1; omega))
      have TG5 := Lib.hid (HT.out.apart TG.out TH.out (by omega) hO)
      have OG5 : Hid (∀ b, (Value.slice A j c).ownBlock = some b → ¬ Mm w5 g b) := fun b hb hm => OG.out b hb (HT.out.apartM TG.out TH.out (by omega) hO hm)
      have OH5 : Hid (∀ b, (Value.slice A j c).ownBlock = some b → ¬ Mm w5 h b) := fun b hb hm => (hm2 b hm).elim (OH.out b hb) (fun hge => by have := (OW.out.lt_ b hb).2; omega)
      have TH5 := Lib.hid hT2
      have RA5 := Lib.hid (RA.out.by_ hO (fun h0 ad had => by have := FA1.out h0 ad had; omega))
      have BW5 := Lib.hid (below_of_only BW.out hO (by omega) BW.out.size)
      have LN : Hid ((Tap.tape s 0 j).length + k ≤ 140737488355328) := by unfold Hid; rw [Tap.tape_length]; omega
      have hs5b : w4.heap.size ≤ w5.heap.size := by omega
      clear hR2 hT2 hO hf2 hm2 OW TG TH OG OH RA BW hmin1 hmin2
      go_wp2_with (first
        | (at_builtin; refine onto_lies rfl (.tmp 40) (.tmp 48) rfl rfl rfl R2.out hk1 OW5.out LN.out hs5b (Below.refl _ w5) ?_; intro v6 w6 O6 X6 G6 L6))
      have q1 := HT.out.own TG5.out OG5.out G6.out
      have q2 := HT.out.own TH5.out OH5.out G6.out
      have TG6 := Lib.hid q1.1
      have TH6 := Lib.hid q2.1
      have OG6 : Hid (∀ b, v6.ownBlock = some b → ¬ Mm w6 g b) := fun b hb hm => by
        have h1 := q1.2 b hm
        rcases L6.out with hl | ⟨q, hq, hge⟩
        · exact OG5.out b (hl ▸ hb) h1
        · have := HT.out.mlt TG5.out h1
          rw [hb] at hq
          injection hq with hq
          omega
      have OH6 : Hid (∀ b, v6.ownBlock = some b → ¬ Mm w6 h b) := fun b hb hm => by
        have h1 := q2.2 b hm
        rcases L6.out with hl | ⟨q, hq, hge⟩
        · exact OH5.out b (hl ▸ hb) h1
        · have := HT.out.mlt TH5.out h1
          rw [hb] at hq
          injection hq with hq
          omega
      have RA6 := Lib.hid (rd_row RA5.out G6.out (fun h0 ad had e => by have h1 := NA1.out h0 ad had; have h2 := (OW5.out.lt_ ad.block e.symm).1; omega))
      have BW6 := Lib.hid (BW5.out.grown G6.out BW5.out.size fun k hk => Nat.le_trans hsW (OW5.out.lt_ k hk).1)
      have hs6 := G6.out.size
      have hta := Tap.tape_add s 0 j k
      rw [Nat.zero_add] at hta
      rw [← hta] at O6
      obtain ⟨A6, c6, rfl, _, _⟩ := O6.out.value
      rw [Tap.tape_length] at O6 OG6 OH6
      rw [Tap.tape_length]
      clear q1 q2 hta R2 OW5 TG5 OG5 OH5 TH5 RA5 BW5 G6 L6 X6
      go_roundw
      case rel => exact ⟨j + k, A6, c6, rfl, hk2, by omega, O6, TH6, TG6, RA6, OG6, OH6, BW6⟩
      case measure => simp [Tap.vlen]; omega
    · obtain rfl : j = m := by omega
      have RO := Lib.hid (OW.out.rdv (Tap.tape_length _ _ _)).drew
      have RA7 := Lib.hid RA.out.drew
      have TG7 := Lib.hid (HT.out.below TG.out (Below.refl _ wr).drew)
      have TH7 := Lib.hid (HT.out.below TH.out (Below.refl _ wr).drew)
      have BW7 := Lib.hid BW.out.drew
      have hh7 : h < wr.drew.heap.size := by show h < wr.heap.size; omega
      obtain ⟨l, hl⟩ : ∃ l, l = Tap.tape s 0 j := ⟨_, rfl⟩
      rw [← hl] at RO RA7
      obtain ⟨l9, hl9⟩ : ∃ l, l = Tap.tape s j 9 := ⟨_, rfl⟩
      have CN : Hid (∀ (w : World) (q : Nat), Gl w → 2 ≤ q → Tp w q s j → Calls Tryd.prog 9 #[.pointer (some ⟨q, 0, none⟩), .int .i64 9] w fun e w' => ∃ A c, e = .returned (.slice A 9 c) ∧ Rd w' A 9 c l9 ∧ w.grownBy w' (some q) ∧ (∀ ad, A = some ad → w.heap.size ≤ ad.block)) := fun w q h1 h2 h3 => by
        rw [hl9]
        exact (HT.out.next 9 h1 h2 h3 (by omega) (by omega)).mono fun e w' ⟨A, c, h1, h2, _, h3, h4, _⟩ => ⟨A, c, h1, h2, h3, h4 (by omega)⟩
      clear hl hl9 OW RA TG TH BW OG OH FA1 NA1 hj hlt
      go_upto_region 11 with (fail)
      refine wp_region_any (by kernel_rfl) ?_
      change wpAny _ _ _ _ _ _ _ (World.drew _)
      generalize wr.drew = w7 at *
      refine wpAny_take (i := 0) (oi := ?oi1) (v := .slice A j c) ?hi1 (by kernel_rfl) (by kernel_rfl) (by kernel_rfl) ?hQ1 ?hy1 ?rest1
      case hi1 => simp only [List.getElem?_toArray, List.getElem?_cons_succ, List.getElem?_cons_zero]; rfl
      case hQ1 => exact fun _ _ _ h => h
      case hy1 => exact Or.inl ⟨by rfl, by intro w; go_simp⟩
      try simp only [Act.put, List.setIfInBounds_toArray, List.set_cons_zero, List.set_cons_succ]
      refine wpAny_take (i := 2) (oi := ?oi2) (v := .slice A1 j c1) ?hi2 (by kernel_rfl) (by kernel_rfl) (by kernel_rfl) ?hQ2 ?hy2 ?rest2
      case hi2 => simp only [List.getElem?_toArray, List.getElem?_cons_succ, List.getElem?_cons_zero]; rfl
      case hQ2 => exact fun _ _ _ h => h
      case hy2 => exact Or.inl ⟨by rfl, by intro w; go_simp⟩
      try simp only [Act.put, List.setIfInBounds_toArray, List.set_cons_zero, List.set_cons_succ]
      refine phase (fun _ => []) (fun d a w' => ∃ x51 x53 : Value, a = { tmps := #[.int .i64 s, .int .i64 (j : Int), .int .i64 (p : Int), undef, undef, undef, .bool false, .bool true, .pointer (some ⟨g, 0, none⟩), .pointer (some ⟨h, 0, none⟩), .slice A1 j c1, .slice A j c, .bool true, .bool true, .bool false, .int .i64 (j : Int), .bool false, .bool false, .int .i64 (j : Int), .bool false, .bool false, .bool false, .int .i64 (p : Int), .bool false, .bool false, .bool false, .int .i64 (p : Int), .bool false, .bool false, .int .i64 s, .pointer (some ⟨g, 0, none⟩), .int .i64 s, .pointer (some ⟨h, 0, none⟩), .pointer (some ⟨g, 0, none⟩), .int .i64 (j : Int), .slice A1 j c1, .slice A j c, .int .i64 (j : Int), .int .i64 (j : Int), .bool false, u40, u41, u42, u43, u44, u45, u46, u47, u48, u49, .slice A j c, x51, .slice A1 j c1, x53, undef, undef, undef, undef, undef, undef, undef, undef, undef, undef], defers := [] } ∧ Hid (Below w7.heap.size w7 w') ∧ (d 1 = true → x51 = .string ⟨l.toArray⟩) ∧ (d 3 = true → x53 = .string ⟨l.toArray⟩)) [1, 3] ?step1 11 2 [1, 3] _ _ _ rfl (by decide) (fun _ h => h) (by kernel_rfl) ?init1 ?fin1
      case init1 => refine ⟨_, _, rfl, Below.refl _ _, ?_, ?_⟩ <;> (intro h; exact absurd h (by decide))
      case step1 =>
        intro i hi d a w10 hI hdi hdeps
        obtain ⟨x51, x53, rfl, BX, h1, h3⟩ := hI
        simp only [List.mem_cons, List.not_mem_nil, or_false] at hi
        rcases hi with rfl | rfl
        · have hcv := conv_bytes (RO.out.below BX.out)
          refine wpOp_step (o := ?os3) ?hos3 (fun K hK => ?_)
          case hos3 => simp only [List.getElem?_toArray, List.getElem?_cons_succ, List.getElem?_cons_zero]; rfl
          go_simp
          refine hK _ _ ?_
          clear hK K
          try simp only [Act.put, List.setIfInBounds_toArray, List.set_cons_zero, List.set_cons_succ]
          exact ⟨_, _, rfl, BX, fun _ => rfl, fun a => h3 (by simpa using a)⟩
        · have hcv := conv_bytes (RA7.out.below BX.out)
          refine wpOp_step (o := ?os4) ?hos4 (fun K hK => ?_)
          case hos4 => simp only [List.getElem?_toArray, List.getElem?_cons_succ, List.getElem?_cons_zero]; rfl
          go_simp
          refine hK _ _ ?_
          clear hK K
          try simp only [Act.put, List.setIfInBounds_toArray, List.set_cons_zero, List.set_cons_succ]
          exact ⟨_, _, rfl, BX, fun a => h1 (by simpa using a), fun _ => rfl⟩
      case fin1 =>
        intro a w8 hI
        obtain ⟨x51, x53, rfl, BX, h1, h3⟩ := hI
        obtain rfl := h1 (by decide)
        obtain rfl := h3 (by decide)
        have W8 := Lib.hid (BW7.out.trans (BX.out.mono BW7.out.size))
        have TG8 := Lib.hid (HT.out.below TG7.out BX.out)
        have TH8 := Lib.hid (HT.out.below TH7.out BX.out)
        have hh8 : h < w8.heap.size := Nat.lt_of_lt_of_le hh7 BX.out.size
        clear h1 h3 BX RO RA7 TG7 TH7 BW7
        dsimp only
        have hss := str_same l
        refine wpAny_take (i := 4) (oi := ?oi5) (v := .bool true) ?hi5 (by kernel_rfl) (by kernel_rfl) (by kernel_rfl) ?hQ5 ?hy5 ?rest5
        case hi5 => simp only [List.getElem?_toArray, List.getElem?_cons_succ, List.getElem?_cons_zero]; rfl
        case hQ5 => exact fun _ _ _ h => h
        case hy5 => exact Or.inl ⟨by rfl, by intro w; go_simp⟩
        try simp only [Act.put, List.setIfInBounds_toArray, List.set_cons_zero, List.set_cons_succ]
        refine wpAny_take (i := 5) (oi := ?oi6) (v := .bool true) ?hi6 (by kernel_rfl) (by kernel_rfl) (by kernel_rfl) ?hQ6 ?hy6 ?rest6
        case hi6 => simp only [List.getElem?_toArray, List.getElem?_cons_succ, List.getElem?_cons_zero]; rfl
        case hQ6 => exact fun _ _ _ h => h
        case hy6 => exact Or.inl ⟨by rfl, by intro w; go_simp⟩
        try simp only [Act.put, List.setIfInBounds_toArray, List.set_cons_zero, List.set_cons_succ]
        refine wpAny_take (i := 6) (oi := ?oi7) (v := .pointer (some ⟨g, 0, none⟩)) ?hi7 (by kernel_rfl) (by kernel_rfl) (by kernel_rfl) ?hQ7 ?hy7 ?rest7
        case hi7 => simp only [List.getElem?_toArray, List.getElem?_cons_succ, List.getElem?_cons_zero]; rfl
        case hQ7 => exact fun _ _ _ h => h
        case hy7 => exact Or.inl ⟨by rfl, by intro w; go_simp⟩
        try simp only [Act.put, List.setIfInBounds_toArray, List.set_cons_zero, List.set_cons_succ]
        refine wpAny_take (i := 9) (oi := ?oi8) (v := .pointer (some ⟨h, 0, none⟩)) ?hi8 (by kernel_rfl) (by kernel_rfl) (by kernel_rfl) ?hQ8 ?hy8 ?rest8
        case hi8 => simp only [List.getElem?_toArray, List.getElem?_cons_succ, List.getElem?_cons_zero]; rfl
        case hQ8 => exact fun _ _ _ h => h
        case hy8 => exact Or.inl ⟨by rfl, by intro w; go_simp⟩
        try simp only [Act.put, List.setIfInBounds_toArray, List.set_cons_zero, List.set_cons_succ]
        refine phase (fun i => if i = 8 then [7] else if i = 10 then [7] else if i = 11 then [10] else []) (fun d a w' => ∃ x57 x58 x60 x61 : Value, a = { tmps := #[.int .i64 s, .int .i64 (j : Int), .int .i64 (p : Int), undef, undef, undef, .bool false, .bool true, .pointer (some ⟨g, 0, none⟩), .pointer (some ⟨h, 0, none⟩), .slice A1 j c1, .slice A j c, .bool true, .bool true, .bool false, .int .i64 (j : Int), .bool false, .bool false, .int .i64 (j : Int), .bool false, .bool false, .bool false, .int .i64 (p : Int), .bool false, .bool false, .bool false, .int .i64 (p : Int), .bool false, .bool false, .int .i64 s, .pointer (some ⟨g, 0, none⟩), .int .i64 s, .pointer (some ⟨h, 0, none⟩), .pointer (some ⟨g, 0, none⟩), .int .i64 (j : Int), .slice A1 j c1, .slice A j c, .int .i64 (j : Int), .int .i64 (j : Int), .bool false, u40, u41, u42, u43, u44, u45, u46, u47, u48, u49, .slice A j c, .string ⟨l.toArray⟩, .slice A1 j c1, .string ⟨l.toArray⟩, .bool true, .bool true, .pointer (some ⟨g, 0, none⟩), x57, x58, .pointer (some ⟨h, 0, none⟩), x60, x61, undef, undef], defers := [] } ∧ Hid (Below W.heap.size W w') ∧ h < w'.heap.size ∧ (d 7 = false → Hid (Tp w' g s j)) ∧ (d 10 = false → Hid (Tp w' h s j)) ∧ (d 7 = true → Hid (∃ A c, x57 = .slice A 9 c ∧ Rd w' A 9 c l9 ∧ ∀ ad, A = some ad → ad.block ≠ h)) ∧ (d 8 = true → x58 = .string ⟨l9.toArray⟩) ∧ (d 10 = true → Hid (∃ A c, x60 = .slice A 9 c ∧ Rd w' A 9 c l9)) ∧ (d 11 = true → x61 = .string ⟨l9.toArray⟩) ∧ Hid (d 10 = true → d 7 = true)) [7, 8, 10, 11] ?step2 3 4 [7, 8, 10, 11] _ _ _ rfl (by decide) (fun _ h => h) (by kernel_rfl) ?init2 ?fin2
        case init2 => refine ⟨_, _, _, _, rfl, W8, hh8, fun _ => TG8, fun _ => TH8, ?_, ?_, ?_, ?_, ?_⟩ <;> (intro h; exact absurd h (by decide))
        case step2 =>
          intro i hi d a w9 hI hdi hdeps
          obtain ⟨x57, x58, x60, x61, rfl, BW, hhs, hg0, hh0, h7, h8, h10, h11, H⟩ := hI
          simp only [List.mem_cons, List.not_mem_nil, or_false] at hi
          rcases hi with rfl | rfl | rfl | rfl
          · have TG := hg0 hdi
            have TH := hh0
            clear hg0 hh0 h7 h10
            refine wpOp_step (o := ?os9) ?hos9 (fun K hK => ?_)
            case hos9 => simp only [List.getElem?_toArray, List.getElem?_cons_succ, List.getElem?_cons_zero]; rfl
            go_simp
            refine (CN.out w9 g (HG.out.below BW.out hsz) (by omega) TG.out).mono ?_
            rintro e w10 ⟨A, c, rfl, hR, hO, hf⟩
            refine hK _ _ ?_
            clear hK K
            try simp only [Act.put, List.setIfInBounds_toArray, List.set_cons_zero, List.set_cons_succ]
            exact ⟨_, _, _, _, rfl, below_of_only BW.out hO (by omega) BW.out.size, Nat.lt_of_lt_of_le hhs hO.size, fun a => absurd a (by simp), fun a => HT.out.apart (TH (by simpa using a)).out TG.out (by omega) hO, fun _ => ⟨_, _, rfl, hR, fun ad had => by have := hf ad had; omega⟩, fun a => h8 (by simpa using a), fun a => absurd (H.out (by simpa using a)) (by simp [hdi]), fun a => h11 (by simpa using a), fun _ => by simp⟩
          · obtain ⟨A, c, rfl, hR, hne⟩ := (h7 (hdeps 7 (by simp))).out
            have hcv := conv_bytes hR
            refine wpOp_step (o := ?os10) ?hos10 (fun K hK => ?_)
            case hos10 => simp only [List.getElem?_toArray, List.getElem?_cons_succ, List.getElem?_cons_zero]; rfl
            go_simp
            refine hK _ _ ?_
            clear hK K
            try simp only [Act.put, List.setIfInBounds_toArray, List.set_cons_zero, List.set_cons_succ]
            exact ⟨_, _, _, _, rfl, BW, hhs, fun a => hg0 (by simpa using a), fun a => hh0 (by simpa using a), fun _ => ⟨_, _, rfl, hR, hne⟩, fun _ => rfl, fun a => h10 (by simpa using a), fun a => h11 (by simpa using a), fun a => by have := H.out (by simpa using a); simpa using this⟩
          · obtain ⟨A, c, rfl, hR, hne⟩ := (h7 (hdeps 7 (by simp))).out
            have TH := hh0 hdi
            have hd7 := hdeps 7 (by simp)
            clear h7
            refine wpOp_step (o := ?os11) ?hos11 (fun K hK => ?_)
            case hos11 => simp only [List.getElem?_toArray, List.getElem?_cons_succ, List.getElem?_cons_zero]; rfl
            go_simp
            refine (CN.out w9 h (HG.out.below BW.out hsz) (by omega) TH.out).mono ?_
            rintro e w10 ⟨A7, c7, rfl, hR7, hO, hf⟩
            refine hK _ _ ?_
            clear hK K
            try simp only [Act.put, List.setIfInBounds_toArray, List.set_cons_zero, List.set_cons_succ]
            exact ⟨_, _, _, _, rfl, below_of_only BW.out hO (by omega) BW.out.size, Nat.lt_of_lt_of_le hhs hO.size, fun a => absurd a (by simp [hd7]), fun a => absurd a (by simp), fun _ => ⟨_, _, rfl, hR.by_ hO (fun _ ad had => hne ad had), hne⟩, fun a => h8 (by simpa using a), fun _ => ⟨_, _, rfl, hR7⟩, fun a => h11 (by simpa using a), fun _ => by simp [hd7]⟩
          · obtain ⟨A, c, rfl, hR⟩ := (h10 (hdeps 10 (by simp))).out
            have hcv := conv_bytes hR
            refine wpOp_step (o := ?os12) ?hos12 (fun K hK => ?_)
            case hos12 => simp only [List.getElem?_toArray, List.getElem?_cons_succ, List.getElem?_cons_zero]; rfl
            go_simp
            refine hK _ _ ?_
            clear hK K
            try simp only [Act.put, List.setIfInBounds_toArray, List.set_cons_zero, List.set_cons_succ]
            exact ⟨_, _, _, _, rfl, BW, hhs, fun a => hg0 (by simpa using a), fun a => hh0 (by simpa using a), fun a => h7 (by simpa using a), fun a => h8 (by simpa using a), fun _ => ⟨_, _, rfl, hR⟩, fun _ => rfl, fun a => by have := H.out (by simpa using a); simpa using this⟩
        case fin2 =>
          intro a w9 hI
          obtain ⟨x57, x58, x60, x61, rfl, BW, hhs, hg0, hh0, h7, h8, h10, h11, H⟩ := hI
          obtain rfl := h8 (by decide)
          obtain rfl := h11 (by decide)
          clear hg0 hh0 h7 h8 h10 h11 H
          dsimp only
          have hss9 := str_same l9
          refine wpAny_take (i := 12) (oi := ?oi13) (v := .bool true) ?hi13 (by kernel_rfl) (by kernel_rfl) (by kernel_rfl) ?hQ13 ?hy13 ?rest13
          case hi13 => simp only [List.getElem?_toArray, List.getElem?_cons_succ, List.getElem?_cons_zero]; rfl
          case hQ13 => exact fun _ _ _ h => h
          case hy13 => exact Or.inl ⟨by rfl, by intro w; go_simp⟩
          try simp only [Act.put, List.setIfInBounds_toArray, List.set_cons_zero, List.set_cons_succ]
          refine wpAny_take (i := 13) (oi := ?oi14) (v := .bool true) ?hi14 (by kernel_rfl) (by kernel_rfl) (by kernel_rfl) ?hQ14 ?hy14 ?rest14
          case hi14 => simp only [List.getElem?_toArray, List.getElem?_cons_succ, List.getElem?_cons_zero]; rfl
          case hQ14 => exact fun _ _ _ h => h
          case hy14 => exact Or.inl ⟨by rfl, by intro w; go_simp⟩
          try simp only [Act.put, List.setIfInBounds_toArray, List.set_cons_zero, List.set_cons_succ]
          refine wpAny_take (i := 14) (oi := ?oi15) (v := .bool true) ?hi15 (by kernel_rfl) (by kernel_rfl) (by kernel_rfl) ?hQ15 ?hy15 ?rest15
          case hi15 => simp only [List.getElem?_toArray, List.getElem?_cons_succ, List.getElem?_cons_zero]; rfl
          case hQ15 => exact fun _ _ _ h => h
          case hy15 => exact Or.inl ⟨by rfl, by intro w; go_simp⟩
          try simp only [Act.put, List.setIfInBounds_toArray, List.set_cons_zero, List.set_cons_succ]
          refine wpAny_done (by kernel_rfl) ?_ _
          go_wp2_with fail
          go_ret
          exact ⟨rfl, BW.out⟩
end Go.Proofs.YtfnahdabjjiipaaDoor.tapeParts
