/- The walk of TapeCopy. -/
import Derived.Test.YtfnahdabjjiipaaDoorTk
namespace Go.Proofs.YtfnahdabjjiipaaDoor.tapeCopy
set_option linter.unusedVariables false
set_option linter.unusedSimpArgs false
set_option maxRecDepth 100000
open Go.RowKit

set_option maxRecDepth 100000 in
set_option maxHeartbeats 8000000 in
theorem walk {Tp : World → Nat → Int → Nat → Prop} {Mm : World → Nat → Nat → Prop} (hT : TapeOk Tp Mm) (s a b : Int) (W : World) (hG : Gl W) (hs1 : -9223372036854775808 ≤ s) (hs2 : s ≤ 9223372036854775807) :
    Calls Tryd.prog 4 #[.int .i64 s, .int .i64 a, .int .i64 b] W fun e w' => e = .returned (.bool true) ∧ Below W.heap.size W w' := by
  have HG := Lib.hid hG
  have HT := Lib.hid hT
  have hsz := hG.size
  clear hG hT
  by_cases hr0 : a < 0
  · have d0 : decide (a < 0) = true := decide_eq_true hr0
    go_enter Tryd.func4, Tryd.ntmps4
    go_wp2_with fail
    refine (begun7_any HT.out HG.out).mono ?_
    rintro e w1 ⟨rfl, HB⟩
    have W1 := Lib.hid HB
    have hs1' := HB.size
    clear HB
    go_wp2_with fail
    go_ret
    exact ⟨rfl, W1.out⟩
  have d0 : decide (a < 0) = false := decide_eq_false hr0
  by_cases hr1 : 200 < a
  · have d1 : decide (200 < a) = true := decide_eq_true hr1
    go_enter Tryd.func4, Tryd.ntmps4
    go_wp2_with fail
    refine (begun7_any HT.out HG.out).mono ?_
    rintro e w1 ⟨rfl, HB⟩
    have W1 := Lib.hid HB
    have hs1' := HB.size
    clear HB
    go_wp2_with fail
    go_ret
    exact ⟨rfl, W1.out⟩
  have d1 : decide (200 < a) = false := decide_eq_false hr1
  by_cases hr2 : b < 0
  · have d2 : decide (b < 0) = true := decide_eq_true hr2
    go_enter Tryd.func4, Tryd.ntmps4
    go_wp2_with fail
    refine (begun7_any HT.out HG.out).mono ?_
    rintro e w1 ⟨rfl, HB⟩
    have W1 := Lib.hid HB
    have hs1' := HB.size
    clear HB
    go_wp2_with fail
    go_ret
    exact ⟨rfl, W1.out⟩
  have d2 : decide (b < 0) = false := decide_eq_false hr2
  by_cases hr3 : 200 < b
  · have d3 : decide (200 < b) = true := decide_eq_true hr3
    go_enter Tryd.func4, Tryd.ntmps4
    go_wp2_with fail
    refine (begun7_any HT.out HG.out).mono ?_
    rintro e w1 ⟨rfl, HB⟩
    have W1 := Lib.hid HB
    have hs1' := HB.size
    clear HB
    go_wp2_with fail
    go_ret
    exact ⟨rfl, W1.out⟩
  have d3 : decide (200 < b) = false := decide_eq_false hr3
  obtain ⟨m, hm⟩ : ∃ m : Nat, a = (m : Int) := ⟨a.toNat, by omega⟩
  obtain ⟨k, hk⟩ : ∃ k : Nat, b = (k : Int) := ⟨b.toNat, by omega⟩
  subst hm
  subst hk
  go_enter Tryd.func4, Tryd.ntmps4
  go_wp2_with fail
  refine (begun7_any HT.out HG.out).mono ?_
  rintro e w1 ⟨rfl, HB⟩
  have W1 := Lib.hid HB
  have hs1' := HB.size
  clear HB
  go_wp2_with fail
  refine (HT.out.new s w1 hs1 hs2).mono ?_
  rintro e w2 ⟨g, rfl, hgw, hT_, hX_⟩
  have Tg := Lib.hid hT_
  have hgl : g < w2.heap.size := HT.out.lt hT_
  have W2 := Lib.hid (W1.out.trans (hX_.mono W1.out.size))
  have hs2' := hX_.size
  clear hT_ hX_
  go_wp2_with fail
  refine (HT.out.new s w2 hs1 hs2).mono ?_
  rintro e w3 ⟨h, rfl, hhw, hT_, hX_⟩
  have Th := Lib.hid hT_
  have hhl : h < w3.heap.size := HT.out.lt hT_
  have W3 := Lib.hid (W2.out.trans (hX_.mono W2.out.size))
  have hs3' := hX_.size
  replace Tg := Lib.hid (HT.out.below Tg.out hX_)
  clear hT_ hX_
  go_wp2_with fail
  refine (HT.out.next m (HG.out.below W3.out hsz) (by omega) Tg.out (by omega) (by omega)).mono ?_
  rintro e w4 ⟨A0, c0, rfl, hR_, hT_, hO_, hf_, hm_⟩
  have hs4' := hO_.size
  replace Th := Lib.hid (HT.out.apart Th.out Tg.out (by omega) hO_)
  replace Tg := Lib.hid hT_
  have RA0 := Lib.hid hR_
  have FA0 := Lib.hid hf_
  have NA0 := Lib.hid hR_.in_
  have W4 := Lib.hid (below_of_only W3.out hO_ (by omega) W3.out.size)
  clear hR_ hT_ hO_ hf_ hm_
  clear RA0 FA0 NA0
  go_wp2_with fail
  refine (HT.out.copy Tg.out).mono ?_
  rintro e w5 ⟨q, rfl, hqw, hT_, hX_⟩
  have hs5' := hX_.size
  have hql : q < w5.heap.size := HT.out.lt hT_
  replace Tg := Lib.hid (HT.out.below Tg.out hX_)
  replace Th := Lib.hid (HT.out.below Th.out hX_)
  have Tq := Lib.hid hT_
  have W5 := Lib.hid (W4.out.trans (hX_.mono W4.out.size))
  clear hT_ hX_
  go_wp2_with fail
  refine (HT.out.next k (HG.out.below W5.out hsz) (by omega) Tg.out (by omega) (by omega)).mono ?_
  rintro e w6 ⟨A1, c1, rfl, hR_, hT_, hO_, hf_, hm_⟩
  have hs6' := hO_.size
  replace Th := Lib.hid (HT.out.apart Th.out Tg.out (by omega) hO_)
  replace Tq := Lib.hid (HT.out.apart Tq.out Tg.out (by omega) hO_)
  replace Tg := Lib.hid hT_
  have RA1 := Lib.hid hR_
  have FA1 := Lib.hid hf_
  have NA1 := Lib.hid hR_.in_
  have W6 := Lib.hid (below_of_only W5.out hO_ (by omega) W5.out.size)
  clear hR_ hT_ hO_ hf_ hm_
  go_wp2_with fail
  refine (HT.out.next k (HG.out.below W6.out hsz) (by omega) Tq.out (by omega) (by omega)).mono ?_
  rintro e w7 ⟨A2, c2, rfl, hR_, hT_, hO_, hf_, hm_⟩
  have hs7' := hO_.size
  replace Th := Lib.hid (HT.out.apart Th.out Tq.out (by omega) hO_)
  replace RA1 := Lib.hid (RA1.out.by_ hO_ (fun h0 ad had => by have h1 := FA1.out h0 ad had; have h2 := NA1.out h0 ad had; omega))
  replace Tq := Lib.hid hT_
  have RA2 := Lib.hid hR_
  have FA2 := Lib.hid hf_
  have NA2 := Lib.hid hR_.in_
  have W7 := Lib.hid (below_of_only W6.out hO_ (by omega) W6.out.size)
  clear hR_ hT_ hO_ hf_ hm_
  go_wp2_with fail
  refine (HT.out.next m (HG.out.below W7.out hsz) (by omega) Th.out (by omega) (by omega)).mono ?_
  rintro e w8 ⟨A3, c3, rfl, hR_, hT_, hO_, hf_, hm_⟩
  have hs8' := hO_.size
  replace RA1 := Lib.hid (RA1.out.by_ hO_ (fun h0 ad had => by have h1 := FA1.out h0 ad had; have h2 := NA1.out h0 ad had; omega))
  replace RA2 := Lib.hid (RA2.out.by_ hO_ (fun h0 ad had => by have h1 := FA2.out h0 ad had; have h2 := NA2.out h0 ad had; omega))
  replace Th := Lib.hid hT_
  have RA3 := Lib.hid hR_
  have FA3 := Lib.hid hf_
  have NA3 := Lib.hid hR_.in_
  have W8 := Lib.hid (below_of_only W7.out hO_ (by omega) W7.out.size)
  clear hR_ hT_ hO_ hf_ hm_
  clear RA3 FA3 NA3
  rw [Nat.zero_add] at RA1 RA2 Th
  obtain ⟨l, hl⟩ : ∃ l, l = Tap.tape s m k := ⟨_, rfl⟩
  have CN : Hid (∀ (w : World), Gl w → Tp w h s m → Calls Tryd.prog 9 #[.pointer (some ⟨h, 0, none⟩), .int .i64 (k : Int)] w fun e w' => ∃ A c, e = .returned (.slice A k c) ∧ Rd w' A k c l ∧ w.grownBy w' (some h)) := fun w h1 h3 => by
    rw [hl]
    exact (HT.out.next k h1 (by omega) h3 (by omega) (by omega)).mono fun e w' ⟨A, c, h1, h2, _, h3, h4⟩ => ⟨A, c, h1, h2, h3⟩
  rw [← hl] at RA1 RA2
  have R1 := Lib.hid RA1.out.drew
  have R2 := Lib.hid RA2.out.drew
  have NE1 : Hid (0 < k → ∀ ad, A1 = some ad → ad.block ≠ h) := fun h0 ad had => by have h1 := FA1.out h0 ad had; omega
  have T9 := Lib.hid (HT.out.below Th.out (Below.refl _ w8).drew)
  have W9 := Lib.hid W8.out.drew
  clear hl RA1 RA2 FA1 FA2 NA1 NA2 Tg Tq Th W1 W2 W3 W4 W5 W6 W7 W8
  go_upto_region 12 with (fail)
  refine wp_region_any (by kernel_rfl) ?_
  change wpAny _ _ _ _ _ _ _ (World.drew _)
  generalize w8.drew = w9 at *
  refine wpAny_take (i := 0) (oi := ?oi1) (v := .slice A1 k c1) ?hi1 (by kernel_rfl) (by kernel_rfl) (by kernel_rfl) ?hQ1 ?hy1 ?rest1
  case hi1 => simp only [List.getElem?_toArray, List.getElem?_cons_succ, List.getElem?_cons_zero]; rfl
  case hQ1 => exact fun _ _ _ h => h
  case hy1 => exact Or.inl ⟨by rfl, by intro w; go_simp⟩
  try simp only [Act.put, List.setIfInBounds_toArray, List.set_cons_zero, List.set_cons_succ]
  refine wpAny_take (i := 2) (oi := ?oi2) (v := .slice A2 k c2) ?hi2 (by kernel_rfl) (by kernel_rfl) (by kernel_rfl) ?hQ2 ?hy2 ?rest2
  case hi2 => simp only [List.getElem?_toArray, List.getElem?_cons_succ, List.getElem?_cons_zero]; rfl
  case hQ2 => exact fun _ _ _ h => h
  case hy2 => exact Or.inl ⟨by rfl, by intro w; go_simp⟩
  try simp only [Act.put, List.setIfInBounds_toArray, List.set_cons_zero, List.set_cons_succ]
  refine phase (fun _ => []) (fun d a w' => ∃ x50 x52 : Value, a = { tmps := #[.int .i64 s, .int .i64 (m : Int), .int .i64 (k : Int), undef, undef, undef, .bool false, .bool true, .pointer (some ⟨g, 0, none⟩), .pointer (some ⟨h, 0, none⟩), .pointer (some ⟨q, 0, none⟩), .slice A1 k c1, .slice A2 k c2, .pointer none, .bool true, .bool true, .bool false, .int .i64 (m : Int), .bool false, .bool false, .int .i64 (m : Int), .bool false, .bool false, .bool false, .int .i64 (k : Int), .bool false, .bool false, .bool false, .int .i64 (k : Int), .bool false, .bool false, .int .i64 s, .pointer (some ⟨g, 0, none⟩), .int .i64 s, .pointer (some ⟨h, 0, none⟩), .pointer (some ⟨g, 0, none⟩), .int .i64 (m : Int), .slice A0 m c0, .pointer (some ⟨g, 0, none⟩), .pointer (some ⟨q, 0, none⟩), .pointer (some ⟨g, 0, none⟩), .int .i64 (k : Int), .slice A1 k c1, .pointer (some ⟨q, 0, none⟩), .int .i64 (k : Int), .slice A2 k c2, .pointer (some ⟨h, 0, none⟩), .int .i64 (m : Int), .slice A3 m c3, .slice A1 k c1, x50, .slice A2 k c2, x52, undef, undef, undef, undef, undef, undef, undef, undef, undef, undef, undef, undef, undef, undef, undef, undef, undef, undef, undef, undef, undef], defers := [] } ∧ Hid (Below w9.heap.size w9 w') ∧ (d 1 = true → x50 = .string ⟨l.toArray⟩) ∧ (d 3 = true → x52 = .string ⟨l.toArray⟩)) [1, 3] ?step1 22 2 [1, 3] _ _ _ rfl (by decide) (fun _ h => h) (by kernel_rfl) ?init1 ?fin1
  case init1 => refine ⟨_, _, rfl, Below.refl _ _, ?_, ?_⟩ <;> (intro h; exact absurd h (by decide))
  case step1 =>
    intro i hi d a w10 hI hdi hdeps
    obtain ⟨x50, x52, rfl, BW, h1, h3⟩ := hI
    simp only [List.mem_cons, List.not_mem_nil, or_false] at hi
    rcases hi with rfl | rfl
    · have hcv := conv_bytes (R1.out.below BW.out)
      refine wpOp_step (o := ?os3) ?hos3 (fun K hK => ?_)
      case hos3 => simp only [List.getElem?_toArray, List.getElem?_cons_succ, List.getElem?_cons_zero]; rfl
      go_simp
      refine hK _ _ ?_
      clear hK K
      try simp only [Act.put, List.setIfInBounds_toArray, List.set_cons_zero, List.set_cons_succ]
      exact ⟨_, _, rfl, BW, fun _ => rfl, fun a => h3 (by simpa using a)⟩
    · have hcv := conv_bytes (R2.out.below BW.out)
      refine wpOp_step (o := ?os4) ?hos4 (fun K hK => ?_)
      case hos4 => simp only [List.getElem?_toArray, List.getElem?_cons_succ, List.getElem?_cons_zero]; rfl
      go_simp
      refine hK _ _ ?_
      clear hK K
      try simp only [Act.put, List.setIfInBounds_toArray, List.set_cons_zero, List.set_cons_succ]
      exact ⟨_, _, rfl, BW, fun a => h1 (by simpa using a), fun _ => rfl⟩
  case fin1 =>
    intro a w10 hI
    obtain ⟨x50, x52, rfl, BW, h1, h3⟩ := hI
    obtain rfl := h1 (by decide)
    obtain rfl := h3 (by decide)
    have W10 := Lib.hid (W9.out.trans (BW.out.mono W9.out.size))
    have Q1 := Lib.hid (R1.out.below BW.out)
    have T10 := Lib.hid (HT.out.below T9.out BW.out)
    clear h1 h3 BW R1 R2 T9 W9
    dsimp only
    have hss := str_same l
    refine wpAny_take (i := 4) (oi := ?oi5) (v := .bool true) ?hi5 (by kernel_rfl) (by kernel_rfl) (by kernel_rfl) ?hQ5 ?hy5 ?rest5
    case hi5 => simp only [List.getElem?_toArray, List.getElem?_cons_succ, List.getElem?_cons_zero]; rfl
    case hQ5 => exact fun _ _ _ h => h
    case hy5 => exact Or.inl ⟨by rfl, by intro w; go_simp⟩
    try simp only [Act.put, List.setIfInBounds_toArray, List.set_cons_zero, List.set_cons_succ]
    refine wpAny_take (i := 5) (oi := ?oi6) (v := .bool true) ?hi6 (by kernel_rfl) (by kernel_rfl) (by kernel_rfl) ?hQ6 ?hy6 ?rest6
    case hi6 => simp only [List.getElem?_toArray, List.getElem?_cons_succ, List.getElem?_cons_zero]; rfl
    case hQ6 => exact fun _ _ _ h => h
    case hy6 => exact Or.inl ⟨by rfl, by intro w; go_simp⟩
    try simp only [Act.put, List.setIfInBounds_toArray, List.set_cons_zero, List.set_cons_succ]
    refine wpAny_take (i := 6) (oi := ?oi7) (v := .pointer (some ⟨h, 0, none⟩)) ?hi7 (by kernel_rfl) (by kernel_rfl) (by kernel_rfl) ?hQ7 ?hy7 ?rest7
    case hi7 => simp only [List.getElem?_toArray, List.getElem?_cons_succ, List.getElem?_cons_zero]; rfl
    case hQ7 => exact fun _ _ _ h => h
    case hy7 => exact Or.inl ⟨by rfl, by intro w; go_simp⟩
    try simp only [Act.put, List.setIfInBounds_toArray, List.set_cons_zero, List.set_cons_succ]
    refine wpAny_take (i := 7) (oi := ?oi8) (v := .int .i64 (k : Int)) ?hi8 (by kernel_rfl) (by kernel_rfl) (by kernel_rfl) ?hQ8 ?hy8 ?rest8
    case hi8 => simp only [List.getElem?_toArray, List.getElem?_cons_succ, List.getElem?_cons_zero]; rfl
    case hQ8 => exact fun _ _ _ h => h
    case hy8 => exact Or.inl ⟨by rfl, by intro w; go_simp⟩
    try simp only [Act.put, List.setIfInBounds_toArray, List.set_cons_zero, List.set_cons_succ]
    refine wpAny_take (i := 10) (oi := ?oi9) (v := .slice A1 k c1) ?hi9 (by kernel_rfl) (by kernel_rfl) (by kernel_rfl) ?hQ9 ?hy9 ?rest9
    case hi9 => simp only [List.getElem?_toArray, List.getElem?_cons_succ, List.getElem?_cons_zero]; rfl
    case hQ9 => exact fun _ _ _ h => h
    case hy9 => exact Or.inl ⟨by rfl, by intro w; go_simp⟩
    try simp only [Act.put, List.setIfInBounds_toArray, List.set_cons_zero, List.set_cons_succ]
    refine phase (fun i => if i = 9 then [8] else []) (fun d a w' => ∃ x57 x58 x60 : Value, a = { tmps := #[.int .i64 s, .int .i64 (m : Int), .int .i64 (k : Int), undef, undef, undef, .bool false, .bool true, .pointer (some ⟨g, 0, none⟩), .pointer (some ⟨h, 0, none⟩), .pointer (some ⟨q, 0, none⟩), .slice A1 k c1, .slice A2 k c2, .pointer none, .bool true, .bool true, .bool false, .int .i64 (m : Int), .bool false, .bool false, .int .i64 (m : Int), .bool false, .bool false, .bool false, .int .i64 (k : Int), .bool false, .bool false, .bool false, .int .i64 (k : Int), .bool false, .bool false, .int .i64 s, .pointer (some ⟨g, 0, none⟩), .int .i64 s, .pointer (some ⟨h, 0, none⟩), .pointer (some ⟨g, 0, none⟩), .int .i64 (m : Int), .slice A0 m c0, .pointer (some ⟨g, 0, none⟩), .pointer (some ⟨q, 0, none⟩), .pointer (some ⟨g, 0, none⟩), .int .i64 (k : Int), .slice A1 k c1, .pointer (some ⟨q, 0, none⟩), .int .i64 (k : Int), .slice A2 k c2, .pointer (some ⟨h, 0, none⟩), .int .i64 (m : Int), .slice A3 m c3, .slice A1 k c1, .string ⟨l.toArray⟩, .slice A2 k c2, .string ⟨l.toArray⟩, .bool true, .bool true, .pointer (some ⟨h, 0, none⟩), .int .i64 (k : Int), x57, x58, .slice A1 k c1, x60, undef, undef, undef, undef, undef, undef, undef, undef, undef, undef, undef, undef, undef], defers := [] } ∧ Hid (Below W.heap.size W w') ∧ (d 8 = false → Hid (Tp w' h s m)) ∧ Hid (Rd w' A1 k c1 l) ∧ (d 8 = true → Hid (∃ A c, x57 = .slice A k c ∧ Rd w' A k c l)) ∧ (d 9 = true → x58 = .string ⟨l.toArray⟩) ∧ (d 11 = true → x60 = .string ⟨l.toArray⟩)) [8, 9, 11] ?step2 14 3 [8, 9, 11] _ _ _ rfl (by decide) (fun _ h => h) (by kernel_rfl) ?init2 ?fin2
    case init2 => refine ⟨_, _, _, rfl, W10, fun _ => T10, Q1, ?_, ?_, ?_⟩ <;> (intro h; exact absurd h (by decide))
    case step2 =>
      intro i hi d a w11 hI hdi hdeps
      obtain ⟨x57, x58, x60, rfl, BW, ht, RX, h8, h9, h11⟩ := hI
      simp only [List.mem_cons, List.not_mem_nil, or_false] at hi
      rcases hi with rfl | rfl | rfl
      · have TH := ht hdi
        clear ht h8
        refine wpOp_step (o := ?os10) ?hos10 (fun K hK => ?_)
        case hos10 => simp only [List.getElem?_toArray, List.getElem?_cons_succ, List.getElem?_cons_zero]; rfl
        go_simp
        refine (CN.out w11 (HG.out.below BW.out hsz) TH.out).mono ?_
        rintro e w12 ⟨A, c, rfl, hR, hO⟩
        refine hK _ _ ?_
        clear hK K
        try simp only [Act.put, List.setIfInBounds_toArray, List.set_cons_zero, List.set_cons_succ]
        exact ⟨_, _, _, rfl, below_of_only BW.out hO (by omega) BW.out.size, fun a => absurd a (by simp), RX.out.by_ hO NE1.out, fun _ => ⟨_, _, rfl, hR⟩, fun a => h9 (by simpa using a), fun a => h11 (by simpa using a)⟩
      · obtain ⟨A, c, rfl, hR⟩ := (h8 (hdeps 8 (by simp))).out
        have hcv := conv_bytes hR
        refine wpOp_step (o := ?os11) ?hos11 (fun K hK => ?_)
        case hos11 => simp only [List.getElem?_toArray, List.getElem?_cons_succ, List.getElem?_cons_zero]; rfl
        go_simp
        refine hK _ _ ?_
        clear hK K
        try simp only [Act.put, List.setIfInBounds_toArray, List.set_cons_zero, List.set_cons_succ]
        exact ⟨_, _, _, rfl, BW, fun a => ht (by simpa using a), RX, fun _ => ⟨_, _, rfl, hR⟩, fun _ => rfl, fun a => h11 (by simpa using a)⟩
      · have hcv := conv_bytes RX.out
        refine wpOp_step (o := ?os12) ?hos12 (fun K hK => ?_)
        case hos12 => simp only [List.getElem?_toArray, List.getElem?_cons_succ, List.getElem?_cons_zero]; rfl
        go_simp
        refine hK _ _ ?_
        clear hK K
        try simp only [Act.put, List.setIfInBounds_toArray, List.set_cons_zero, List.set_cons_succ]
        exact ⟨_, _, _, rfl, BW, fun a => ht (by simpa using a), RX, fun a => h8 (by simpa using a), fun a => h9 (by simpa using a), fun _ => rfl⟩
    case fin2 =>
      intro a w11 hI
      obtain ⟨x57, x58, x60, rfl, BW, ht, RX, h8, h9, h11⟩ := hI
      obtain rfl := h9 (by decide)
      obtain rfl := h11 (by decide)
      clear ht h8 h9 h11 RX CN
      dsimp only
      refine wpAny_take (i := 12) (oi := ?oi13) (v := .bool true) ?hi13 (by kernel_rfl) (by kernel_rfl) (by kernel_rfl) ?hQ13 ?hy13 ?rest13
      case hi13 => simp only [List.getElem?_toArray, List.getElem?_cons_succ, List.getElem?_cons_zero]; rfl
      case hQ13 => exact fun _ _ _ h => h
      case hy13 => exact Or.inl ⟨by rfl, by intro w; go_simp⟩
      try simp only [Act.put, List.setIfInBounds_toArray, List.set_cons_zero, List.set_cons_succ]
      refine wpAny_take (i := 13) (oi := ?oi14) (v := .bool true) ?hi14 (by kernel_rfl) (by kernel_rfl) (by kernel_rfl) ?hQ14 ?hy14 ?rest14
      case hi14 => simp only [List.getElem?_toArray, List.getElem?_cons_succ, List.getElem?_cons_zero]; rfl
      case hQ14 => exact fun _ _ _ h => h
      case hy14 => exact Or.inl ⟨by rfl, by intro w; go_simp⟩
      try simp only [Act.put, List.setIfInBounds_toArray, List.set_cons_zero, List.set_cons_succ]
      refine wpAny_take (i := 14) (oi := ?oi15) (v := .bool true) ?hi15 (by kernel_rfl) (by kernel_rfl) (by kernel_rfl) ?hQ15 ?hy15 ?rest15
      case hi15 => simp only [List.getElem?_toArray, List.getElem?_cons_succ, List.getElem?_cons_zero]; rfl
      case hQ15 => exact fun _ _ _ h => h
      case hy15 => exact Or.inl ⟨by rfl, by intro w; go_simp⟩
      try simp only [Act.put, List.setIfInBounds_toArray, List.set_cons_zero, List.set_cons_succ]
      refine wpAny_take (i := 15) (oi := ?oi16) (v := .pointer none) ?hi16 (by kernel_rfl) (by kernel_rfl) (by kernel_rfl) ?hQ16 ?hy16 ?rest16
      case hi16 => simp only [List.getElem?_toArray, List.getElem?_cons_succ, List.getElem?_cons_zero]; rfl
      case hQ16 => exact fun _ _ _ h => h
      case hy16 => exact Or.inl ⟨by rfl, by intro w; go_simp⟩
      try simp only [Act.put, List.setIfInBounds_toArray, List.set_cons_zero, List.set_cons_succ]
      refine wpAny_ready (rs := [16]) (by kernel_rfl) (by simp) ?_
      refine AllReady.cons (o := ?p17) ?q17 (fun K hK => ?_) AllReady.nil
      case q17 => simp only [List.getElem?_toArray, List.getElem?_cons_succ, List.getElem?_cons_zero]; rfl
      go_simp
      refine (HT.out.nilNext 3 w11).mono ?_
      rintro e w12 ⟨rfl, hX⟩
      refine hK _ _ ?_
      clear hK K
      try simp only [Act.put, List.setIfInBounds_toArray, List.set_cons_zero, List.set_cons_succ]
      have W12 := Lib.hid (BW.out.trans (hX.mono BW.out.size))
      clear hX BW
      refine wpAny_take (i := 17) (oi := ?oi18) (v := .int .i64 0) ?hi18 (by kernel_rfl) (by kernel_rfl) (by kernel_rfl) ?hQ18 ?hy18 ?rest18
      case hi18 => simp only [List.getElem?_toArray, List.getElem?_cons_succ, List.getElem?_cons_zero]; rfl
      case hQ18 => exact fun _ _ _ h => h
      case hy18 => exact Or.inl ⟨by rfl, by intro w; go_simp⟩
      try simp only [Act.put, List.setIfInBounds_toArray, List.set_cons_zero, List.set_cons_succ]
      refine wpAny_take (i := 18) (oi := ?oi19) (v := .bool true) ?hi19 (by kernel_rfl) (by kernel_rfl) (by kernel_rfl) ?hQ19 ?hy19 ?rest19
      case hi19 => simp only [List.getElem?_toArray, List.getElem?_cons_succ, List.getElem?_cons_zero]; rfl
      case hQ19 => exact fun _ _ _ h => h
      case hy19 => exact Or.inl ⟨by rfl, by intro w; go_simp⟩
      try simp only [Act.put, List.setIfInBounds_toArray, List.set_cons_zero, List.set_cons_succ]
      refine wpAny_take (i := 19) (oi := ?oi20) (v := .bool true) ?hi20 (by kernel_rfl) (by kernel_rfl) (by kernel_rfl) ?hQ20 ?hy20 ?rest20
      case hi20 => simp only [List.getElem?_toArray, List.getElem?_cons_succ, List.getElem?_cons_zero]; rfl
      case hQ20 => exact fun _ _ _ h => h
      case hy20 => exact Or.inl ⟨by rfl, by intro w; go_simp⟩
      try simp only [Act.put, List.setIfInBounds_toArray, List.set_cons_zero, List.set_cons_succ]
      refine wpAny_take (i := 20) (oi := ?oi21) (v := .bool true) ?hi21 (by kernel_rfl) (by kernel_rfl) (by kernel_rfl) ?hQ21 ?hy21 ?rest21
      case hi21 => simp only [List.getElem?_toArray, List.getElem?_cons_succ, List.getElem?_cons_zero]; rfl
      case hQ21 => exact fun _ _ _ h => h
      case hy21 => exact Or.inl ⟨by rfl, by intro w; go_simp⟩
      try simp only [Act.put, List.setIfInBounds_toArray, List.set_cons_zero, List.set_cons_succ]
      refine wpAny_take (i := 21) (oi := ?oi22) (v := .pointer none) ?hi22 (by kernel_rfl) (by kernel_rfl) (by kernel_rfl) ?hQ22 ?hy22 ?rest22
      case hi22 => simp only [List.getElem?_toArray, List.getElem?_cons_succ, List.getElem?_cons_zero]; rfl
      case hQ22 => exact fun _ _ _ h => h
      case hy22 => exact Or.inl ⟨by rfl, by intro w; go_simp⟩
      try simp only [Act.put, List.setIfInBounds_toArray, List.set_cons_zero, List.set_cons_succ]
      refine wpAny_ready (rs := [22]) (by kernel_rfl) (by simp) ?_
      refine AllReady.cons (o := ?p23) ?q23 (fun K hK => ?_) AllReady.nil
      case q23 => simp only [List.getElem?_toArray, List.getElem?_cons_succ, List.getElem?_cons_zero]; rfl
      go_simp
      refine (HT.out.nilCopy w12).mono ?_
      rintro e w13 ⟨rfl, hX⟩
      refine hK _ _ ?_
      clear hK K
      try simp only [Act.put, List.setIfInBounds_toArray, List.set_cons_zero, List.set_cons_succ]
      have W13 := Lib.hid (W12.out.trans (hX.mono W12.out.size))
      clear hX W12
      refine wpAny_take (i := 23) (oi := ?oi24) (v := .bool true) ?hi24 (by kernel_rfl) (by kernel_rfl) (by kernel_rfl) ?hQ24 ?hy24 ?rest24
      case hi24 => simp only [List.getElem?_toArray, List.getElem?_cons_succ, List.getElem?_cons_zero]; rfl
      case hQ24 => exact fun _ _ _ h => h
      case hy24 => exact Or.inl ⟨by rfl, by intro w; go_simp⟩
      try simp only [Act.put, List.setIfInBounds_toArray, List.set_cons_zero, List.set_cons_succ]
      refine wpAny_take (i := 24) (oi := ?oi25) (v := .bool true) ?hi25 (by kernel_rfl) (by kernel_rfl) (by kernel_rfl) ?hQ25 ?hy25 ?rest25
      case hi25 => simp only [List.getElem?_toArray, List.getElem?_cons_succ, List.getElem?_cons_zero]; rfl
      case hQ25 => exact fun _ _ _ h => h
      case hy25 => exact Or.inl ⟨by rfl, by intro w; go_simp⟩
      try simp only [Act.put, List.setIfInBounds_toArray, List.set_cons_zero, List.set_cons_succ]
      refine wpAny_take (i := 25) (oi := ?oi26) (v := .bool true) ?hi26 (by kernel_rfl) (by kernel_rfl) (by kernel_rfl) ?hQ26 ?hy26 ?rest26
      case hi26 => simp only [List.getElem?_toArray, List.getElem?_cons_succ, List.getElem?_cons_zero]; rfl
      case hQ26 => exact fun _ _ _ h => h
      case hy26 => exact Or.inl ⟨by rfl, by intro w; go_simp⟩
      try simp only [Act.put, List.setIfInBounds_toArray, List.set_cons_zero, List.set_cons_succ]
      refine wpAny_done (by kernel_rfl) ?_ _
      go_wp2_with fail
      go_ret
      exact ⟨rfl, W13.out⟩
end Go.Proofs.YtfnahdabjjiipaaDoor.tapeCopy
