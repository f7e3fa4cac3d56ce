/- The walk of TapeLong. -/
import Derived.Test.YtfnahdabjjiipaaDoorTk
namespace Go.Proofs.YtfnahdabjjiipaaDoor.tapeLong
set_option linter.unusedVariables false
set_option linter.unusedSimpArgs false
set_option maxRecDepth 100000
open Go.RowKit

set_option maxRecDepth 100000 in
set_option maxHeartbeats 8000000 in
theorem walk {Tp : World → Nat → Int → Nat → Prop} {Mm : World → Nat → Nat → Prop} (hT : TapeOk Tp Mm) (s n : Int) (W : World) (hG : Gl W) (hs1 : -9223372036854775808 ≤ s) (hs2 : s ≤ 9223372036854775807) :
    Calls Tryd.prog 6 #[.int .i64 s, .int .i64 n] W fun e w' => e = .returned (.bool true) ∧ Below W.heap.size W w' := by
  have HG := Lib.hid hG
  have HT := Lib.hid hT
  have hsz := hG.size
  clear hG hT
  by_cases hr1 : n < 3990
  · have d1 : decide (n < 3990) = true := decide_eq_true hr1
    go_enter Tryd.func6, Tryd.ntmps6
    go_wp2_with fail
    refine (begun7_any HT.out HG.out).mono ?_
    rintro e w1 ⟨rfl, HB⟩
    have W1 := Lib.hid HB
    have hs1' := HB.size
    clear HB
    go_wp2_with fail
    go_ret
    exact ⟨rfl, W1.out⟩
  have d1 : decide (n < 3990) = false := decide_eq_false hr1
  by_cases hr2 : 4010 < n
  · have d2 : decide (4010 < n) = true := decide_eq_true hr2
    go_enter Tryd.func6, Tryd.ntmps6
    go_wp2_with fail
    refine (begun7_any HT.out HG.out).mono ?_
    rintro e w1 ⟨rfl, HB⟩
    have W1 := Lib.hid HB
    have hs1' := HB.size
    clear HB
    go_wp2_with fail
    go_ret
    exact ⟨rfl, W1.out⟩
  have d2 : decide (4010 < n) = false := decide_eq_false hr2
  by_cases h4 : 4000 < n
  · have d3 : decide (4000 < n) = true := decide_eq_true h4
    go_enter Tryd.func6, Tryd.ntmps6
    go_wp2_with fail
    refine (begun7_any HT.out HG.out).mono ?_
    rintro e w1 ⟨rfl, HB⟩
    have W1 := Lib.hid HB
    have hs1' := HB.size
    clear HB
    go_wp2_with fail
    refine (HT.out.new s w1 hs1 hs2).mono ?_
    rintro e w2 ⟨g, rfl, hgw, hT_, hX_⟩
    have Tg := Lib.hid hT_
    have hgl : g < w2.heap.size := HT.out.lt hT_
    have W2 := Lib.hid (W1.out.trans (hX_.mono W1.out.size))
    have hs2' := hX_.size
    clear hT_ hX_
    go_wp2_with fail
    refine (HT.out.new s w2 hs1 hs2).mono ?_
    rintro e w3 ⟨h, rfl, hhw, hT_, hX_⟩
    have Th := Lib.hid hT_
    have hhl : h < w3.heap.size := HT.out.lt hT_
    have W3 := Lib.hid (W2.out.trans (hX_.mono W2.out.size))
    have hs3' := hX_.size
    replace Tg := Lib.hid (HT.out.below Tg.out hX_)
    clear hT_ hX_
    go_wp2_with fail
    refine (HT.out.none_ n Tg.out (Or.inr h4)).mono ?_
    rintro e w4 ⟨rfl, hX⟩
    have T4g := Lib.hid (HT.out.below (HT.out.below Tg.out hX) (Below.refl _ w4).drew)
    have T4h := Lib.hid (HT.out.below (HT.out.below Th.out hX) (Below.refl _ w4).drew)
    have W4 := Lib.hid (W3.out.trans (hX.mono W3.out.size)).drew
    have hs4 : w3.heap.size ≤ w4.drew.heap.size := hX.size
    clear hX Tg Th W3 W2 W1
    go_upto_region 9 with (fail)
    refine wp_region_any (by kernel_rfl) ?_
    change wpAny _ _ _ _ _ _ _ (World.drew _)
    generalize w4.drew = w5 at *
    obtain ⟨l, hl⟩ : ∃ l, l = Tap.tape s 0 20 := ⟨_, rfl⟩
    have CN : Hid (∀ (w : World) (q : Nat), Gl w → 2 ≤ q → Tp w q s 0 → Calls Tryd.prog 9 #[.pointer (some ⟨q, 0, none⟩), .int .i64 20] w fun e w' => ∃ A c, e = .returned (.slice A 20 c) ∧ Rd w' A 20 c l ∧ w.grownBy w' (some q) ∧ (∀ ad, A = some ad → w.heap.size ≤ ad.block)) := fun w q h1 h2 h3 => by
      rw [hl]
      exact (HT.out.next 20 h1 h2 h3 (by omega) (by omega)).mono fun e w' ⟨A, c, h1, h2, _, h3, h4, _⟩ => ⟨A, c, h1, h2, h3, h4 (by omega)⟩
    clear hl
    have hnil := nil_eq
    refine wpAny_take (i := 0) (oi := ?oi1) (v := .slice none 0 0) ?hi1 (by kernel_rfl) (by kernel_rfl) (by kernel_rfl) ?hQ1 ?hy1 ?rest1
    case hi1 => simp only [List.getElem?_toArray, List.getElem?_cons_succ, List.getElem?_cons_zero]; rfl
    case hQ1 => exact fun _ _ _ h => h
    case hy1 => exact Or.inl ⟨by rfl, by intro w; go_simp⟩
    try simp only [Act.put, List.setIfInBounds_toArray, List.set_cons_zero, List.set_cons_succ]
    refine wpAny_take (i := 1) (oi := ?oi2) (v := .bool true) ?hi2 (by kernel_rfl) (by kernel_rfl) (by kernel_rfl) ?hQ2 ?hy2 ?rest2
    case hi2 => simp only [List.getElem?_toArray, List.getElem?_cons_succ, List.getElem?_cons_zero]; rfl
    case hQ2 => exact fun _ _ _ h => h
    case hy2 => exact Or.inl ⟨by rfl, by intro w; go_simp⟩
    try simp only [Act.put, List.setIfInBounds_toArray, List.set_cons_zero, List.set_cons_succ]
    refine wpAny_take (i := 2) (oi := ?oi3) (v := .bool true) ?hi3 (by kernel_rfl) (by kernel_rfl) (by kernel_rfl) ?hQ3 ?hy3 ?rest3
    case hi3 => simp only [List.getElem?_toArray, List.getElem?_cons_succ, List.getElem?_cons_zero]; rfl
    case hQ3 => exact fun _ _ _ h => h
    case hy3 => exact Or.inl ⟨by rfl, by intro w; go_simp⟩
    try simp only [Act.put, List.setIfInBounds_toArray, List.set_cons_zero, List.set_cons_succ]
    refine wpAny_take (i := 3) (oi := ?oi4) (v := .pointer (some ⟨g, 0, none⟩)) ?hi4 (by kernel_rfl) (by kernel_rfl) (by kernel_rfl) ?hQ4 ?hy4 ?rest4
    case hi4 => simp only [List.getElem?_toArray, List.getElem?_cons_succ, List.getElem?_cons_zero]; rfl
    case hQ4 => exact fun _ _ _ h => h
    case hy4 => exact Or.inl ⟨by rfl, by intro w; go_simp⟩
    try simp only [Act.put, List.setIfInBounds_toArray, List.set_cons_zero, List.set_cons_succ]
    refine wpAny_take (i := 6) (oi := ?oi5) (v := .pointer (some ⟨h, 0, none⟩)) ?hi5 (by kernel_rfl) (by kernel_rfl) (by kernel_rfl) ?hQ5 ?hy5 ?rest5
    case hi5 => simp only [List.getElem?_toArray, List.getElem?_cons_succ, List.getElem?_cons_zero]; rfl
    case hQ5 => exact fun _ _ _ h => h
    case hy5 => exact Or.inl ⟨by rfl, by intro w; go_simp⟩
    try simp only [Act.put, List.setIfInBounds_toArray, List.set_cons_zero, List.set_cons_succ]
    refine phase (fun i => if i = 5 then [4] else if i = 7 then [4] else if i = 8 then [7] else []) (fun d a w' => ∃ x31 x32 x34 x35 : Value, a = { tmps := #[.int .i64 s, .int .i64 n, undef, undef, .bool false, .bool true, .pointer (some ⟨g, 0, none⟩), .pointer (some ⟨h, 0, none⟩), .slice none 0 0, .bool true, .bool true, .bool false, .int .i64 n, .bool false, .bool false, .int .i64 n, .bool false, .bool false, .int .i64 s, .pointer (some ⟨g, 0, none⟩), .int .i64 s, .pointer (some ⟨h, 0, none⟩), .pointer (some ⟨g, 0, none⟩), .int .i64 n, .slice none 0 0, .int .i64 n, .bool true, .slice none 0 0, .bool true, .bool true, .pointer (some ⟨g, 0, none⟩), x31, x32, .pointer (some ⟨h, 0, none⟩), x34, x35, undef, undef, undef, undef, undef, undef], defers := [] } ∧ Hid (Below W.heap.size W w') ∧ h < w'.heap.size ∧ (d 4 = false → Hid (Tp w' g s 0)) ∧ (d 7 = false → Hid (Tp w' h s 0)) ∧ (d 4 = true → Hid (∃ A c, x31 = .slice A 20 c ∧ Rd w' A 20 c l ∧ ∀ ad, A = some ad → ad.block ≠ h)) ∧ (d 5 = true → x32 = .string ⟨l.toArray⟩) ∧ (d 7 = true → Hid (∃ A c, x34 = .slice A 20 c ∧ Rd w' A 20 c l)) ∧ (d 8 = true → x35 = .string ⟨l.toArray⟩) ∧ Hid (d 7 = true → d 4 = true)) [4, 5, 7, 8] ?step1 3 4 [4, 5, 7, 8] _ _ _ rfl (by decide) (fun _ h => h) (by kernel_rfl) ?init1 ?fin1
    case init1 => refine ⟨_, _, _, _, rfl, W4, by omega, fun _ => T4g, fun _ => T4h, ?_, ?_, ?_, ?_, ?_⟩ <;> (intro h; exact absurd h (by decide))
    case step1 =>
      intro i hi d a w6 hI hdi hdeps
      obtain ⟨x31, x32, x34, x35, rfl, BW, hhs, hg0, hh0, h4', h5, h7, h8, H47⟩ := hI
      simp only [List.mem_cons, List.not_mem_nil, or_false] at hi
      rcases hi with rfl | rfl | rfl | rfl
      · have TG := hg0 hdi
        have TH := hh0
        refine wpOp_step (o := ?os6) ?hos6 (fun K hK => ?_)
        case hos6 => simp only [List.getElem?_toArray, List.getElem?_cons_succ, List.getElem?_cons_zero]; rfl
        clear hg0 hh0 h4' h7
        go_simp
        refine (CN.out w6 g (HG.out.below BW.out hsz) (by omega) TG.out).mono ?_
        rintro e w7 ⟨A, c, rfl, hR, hO, hf⟩
        refine hK _ _ ?_
        clear hK K
        try simp only [Act.put, List.setIfInBounds_toArray, List.set_cons_zero, List.set_cons_succ]
        exact ⟨_, _, _, _, rfl, below_of_only BW.out hO (by omega) BW.out.size, Nat.lt_of_lt_of_le hhs hO.size, fun a => absurd a (by simp), fun a => HT.out.apart (TH (by simpa using a)).out TG.out (by omega) hO, fun _ => ⟨_, _, rfl, hR, fun ad had => by have := hf ad had; omega⟩, fun a => h5 (by simpa using a), fun a => absurd (H47.out (by simpa using a)) (by simp [hdi]), fun a => h8 (by simpa using a), fun _ => by simp⟩
      · obtain ⟨A, c, rfl, hR, hne⟩ := (h4' (hdeps 4 (by simp))).out
        have hcv := conv_bytes hR
        refine wpOp_step (o := ?os7) ?hos7 (fun K hK => ?_)
        case hos7 => simp only [List.getElem?_toArray, List.getElem?_cons_succ, List.getElem?_cons_zero]; rfl
        clear h4'
        go_simp
        refine hK _ _ ?_
        clear hK K
        try simp only [Act.put, List.setIfInBounds_toArray, List.set_cons_zero, List.set_cons_succ]
        exact ⟨_, _, _, _, rfl, BW, hhs, fun a => hg0 (by simpa using a), fun a => hh0 (by simpa using a), fun _ => ⟨_, _, rfl, hR, hne⟩, fun _ => rfl, fun a => h7 (by simpa using a), fun a => h8 (by simpa using a), fun a => by have := H47.out (by simpa using a); simpa using this⟩
      · obtain ⟨A, c, rfl, hR, hne⟩ := (h4' (hdeps 4 (by simp))).out
        have TH := hh0 hdi
        have hd4 := hdeps 4 (by simp)
        clear h4'
        refine wpOp_step (o := ?os8) ?hos8 (fun K hK => ?_)
        case hos8 => simp only [List.getElem?_toArray, List.getElem?_cons_succ, List.getElem?_cons_zero]; rfl
        go_simp
        refine (CN.out w6 h (HG.out.below BW.out hsz) (by omega) TH.out).mono ?_
        rintro e w7 ⟨A7, c7, rfl, hR7, hO, hf⟩
        refine hK _ _ ?_
        clear hK K
        try simp only [Act.put, List.setIfInBounds_toArray, List.set_cons_zero, List.set_cons_succ]
        exact ⟨_, _, _, _, rfl, below_of_only BW.out hO (by omega) BW.out.size, Nat.lt_of_lt_of_le hhs hO.size, fun a => absurd a (by simp [hd4]), fun a => absurd a (by simp), fun _ => ⟨_, _, rfl, hR.by_ hO (fun _ ad had => hne ad had), hne⟩, fun a => h5 (by simpa using a), fun _ => ⟨_, _, rfl, hR7⟩, fun a => h8 (by simpa using a), fun _ => by simp [hd4]⟩
      · obtain ⟨A, c, rfl, hR⟩ := (h7 (hdeps 7 (by simp))).out
        have hcv := conv_bytes hR
        refine wpOp_step (o := ?os9) ?hos9 (fun K hK => ?_)
        case hos9 => simp only [List.getElem?_toArray, List.getElem?_cons_succ, List.getElem?_cons_zero]; rfl
        go_simp
        refine hK _ _ ?_
        clear hK K
        try simp only [Act.put, List.setIfInBounds_toArray, List.set_cons_zero, List.set_cons_succ]
        exact ⟨_, _, _, _, rfl, BW, hhs, fun a => hg0 (by simpa using a), fun a => hh0 (by simpa using a), fun a => h4' (by simpa using a), fun a => h5 (by simpa using a), fun _ => ⟨_, _, rfl, hR⟩, fun _ => rfl, fun a => by have := H47.out (by simpa using a); simpa using this⟩
    case fin1 =>
      intro a w6 hI
      obtain ⟨x31, x32, x34, x35, rfl, BW, hhs, hg0, hh0, h4', h5, h7, h8, H47⟩ := hI
      obtain rfl := h5 (by decide)
      obtain rfl := h8 (by decide)
      clear hg0 hh0 h4' h5 h7 h8 H47
      dsimp only
      have hss := str_same l
      refine wpAny_take (i := 9) (oi := ?oi10) (v := .bool true) ?hi10 (by kernel_rfl) (by kernel_rfl) (by kernel_rfl) ?hQ10 ?hy10 ?rest10
      case hi10 => simp only [List.getElem?_toArray, List.getElem?_cons_succ, List.getElem?_cons_zero]; rfl
      case hQ10 => exact fun _ _ _ h => h
      case hy10 => exact Or.inl ⟨by rfl, by intro w; go_simp⟩
      try simp only [Act.put, List.setIfInBounds_toArray, List.set_cons_zero, List.set_cons_succ]
      refine wpAny_take (i := 10) (oi := ?oi11) (v := .bool true) ?hi11 (by kernel_rfl) (by kernel_rfl) (by kernel_rfl) ?hQ11 ?hy11 ?rest11
      case hi11 => simp only [List.getElem?_toArray, List.getElem?_cons_succ, List.getElem?_cons_zero]; rfl
      case hQ11 => exact fun _ _ _ h => h
      case hy11 => exact Or.inl ⟨by rfl, by intro w; go_simp⟩
      try simp only [Act.put, List.setIfInBounds_toArray, List.set_cons_zero, List.set_cons_succ]
      refine wpAny_take (i := 11) (oi := ?oi12) (v := .bool true) ?hi12 (by kernel_rfl) (by kernel_rfl) (by kernel_rfl) ?hQ12 ?hy12 ?rest12
      case hi12 => simp only [List.getElem?_toArray, List.getElem?_cons_succ, List.getElem?_cons_zero]; rfl
      case hQ12 => exact fun _ _ _ h => h
      case hy12 => exact Or.inl ⟨by rfl, by intro w; go_simp⟩
      try simp only [Act.put, List.setIfInBounds_toArray, List.set_cons_zero, List.set_cons_succ]
      refine wpAny_done (by kernel_rfl) ?_ _
      go_wp2_with fail
      go_ret
      exact ⟨rfl, BW.out⟩
  · have d3 : decide (4000 < n) = false := decide_eq_false h4
    obtain ⟨m, hm⟩ : ∃ m : Nat, n = (m : Int) := ⟨n.toNat, by omega⟩
    subst hm
    go_enter Tryd.func6, Tryd.ntmps6
    go_wp2_with fail
    refine (begun7_any HT.out HG.out).mono ?_
    rintro e w1 ⟨rfl, HB⟩
    have W1 := Lib.hid HB
    have hs1' := HB.size
    clear HB
    go_wp2_with fail
    refine (HT.out.new s w1 hs1 hs2).mono ?_
    rintro e w2 ⟨g, rfl, hgw, hT_, hX_⟩
    have Tg := Lib.hid hT_
    have hgl : g < w2.heap.size := HT.out.lt hT_
    have W2 := Lib.hid (W1.out.trans (hX_.mono W1.out.size))
    have hs2' := hX_.size
    clear hT_ hX_
    go_wp2_with fail
    refine (HT.out.new s w2 hs1 hs2).mono ?_
    rintro e w3 ⟨h, rfl, hhw, hT_, hX_⟩
    have Th := Lib.hid hT_
    have hhl : h < w3.heap.size := HT.out.lt hT_
    have W3 := Lib.hid (W2.out.trans (hX_.mono W2.out.size))
    have hs3' := hX_.size
    replace Tg := Lib.hid (HT.out.below Tg.out hX_)
    clear hT_ hX_
    go_wp2_with fail
    refine (HT.out.next m (HG.out.below W3.out hsz) (by omega) Tg.out (by omega) (by omega)).mono ?_
    rintro e w4 ⟨A, c, rfl, hR, _, hO, _⟩
    have W4 := Lib.hid (below_of_only W3.out hO (by omega) W3.out.size)
    clear hR hO Tg Th
    go_wp2_with fail
    go_ret
    exact ⟨by simp, W4.out⟩
end Go.Proofs.YtfnahdabjjiipaaDoor.tapeLong
