/-
  PROVED: for all key, b and cut the law MacParts answers true (HMAC hangs on the bytes, not on the parts; it is the standard's). CONDITIONS: none beyond the card's own.
-/
import Derived.Test.YtbepofmkfloajaaDoorConv
import Derived.Test.YtbepofmkfloajaaDoorRefMac
import Derived.Test.YtbepofmkfloajaaDoorTie
import Derived.Test.YtbepofmkfloajaaDoorCards
import Derived.OpenShut
import Derived.Stop.Joined
import Derived.SevenTiedAt
namespace Go.Proofs.YtbepofmkfloajaaDoor.macParts
open Go.ChangeShapes Go.WideShapes Go.ChangeAt Go.RowKit
set_option linter.unusedVariables false
set_option linter.unusedSimpArgs false

theorem one (l : List UInt8) : [l].flatten = l := by simp

set_option maxRecDepth 100000 in
set_option maxHeartbeats 4000000 in
theorem walk {A0 A1 : Option Addr} {n0 c0 n1 c1 : Nat} {x0 x1 : List UInt8} (cut : Int) (w : World) (hg : Gl w) (hr0 : Rd w A0 n0 c0 x0) (hr1 : Rd w A1 n1 c1 x1) :
    Calls Tryd.prog 13 #[.slice A0 n0 c0, .slice A1 n1 c1, .int .i64 cut] w fun e w' => e = .returned (.bool true) ∧ Below w.heap.size w w' := by
  have HG := Lib.hid hg
  have hsz := hg.size
  have R0 := Lib.hid hr0
  have R1 := Lib.hid hr1
  clear hg hr0 hr1
  go_enter Tryd.func13, Tryd.ntmps13
  go_wp2_with (first | (go_at_call 15; refine (begun_any HG.out).mono ?_; rintro e w1 ⟨rfl, HB⟩; have W1 := Lib.hid HB; clear HB))
  refine (short_any 80 (R0.out.below W1.out) (by omega)).mono ?_
  rintro e w' ⟨A2, n2, c2, rfl, hr2, rfl⟩
  have R2 := Lib.hid hr2
  clear hr2
  go_wp2_with fail
  refine (short_any 150 (R1.out.below W1.out) (by omega)).mono ?_
  rintro e w' ⟨A3, n3, c3, rfl, hr3, rfl⟩
  have R3 := Lib.hid hr3
  have hc3 := hr3.cap
  have hl2 : n2 ≤ 80 := by rw [← R2.out.len, List.length_take]; omega
  have hl3 : n3 ≤ 150 := by rw [← hr3.len, List.length_take]; omega
  clear hr3 R0 R1
  obtain ⟨key, hke⟩ : ∃ l, l = x0.take 80 := ⟨_, rfl⟩
  obtain ⟨b, hbe⟩ : ∃ l, l = x1.take 150 := ⟨_, rfl⟩
  rw [← hke] at R2
  rw [← hbe] at R3
  clear hke hbe
  have NB := Lib.hid R3.out.len
  by_cases h1 : cut < 0
  · have hd : decide (cut < 0) = true := by simpa using h1
    go_wp2_with fail
    go_ret
    exact ⟨rfl, W1.out⟩
  have hd : decide (cut < 0) = false := by simpa using h1
  by_cases h2 : (n3 : Int) < cut
  · have hd2 : decide ((n3 : Int) < cut) = true := by simpa using h2
    go_wp2_with fail
    go_ret
    exact ⟨rfl, W1.out⟩
  have hd2 : decide ((n3 : Int) < cut) = false := by simpa using h2
  obtain ⟨k, rfl⟩ := Int.eq_ofNat_of_zero_le (show 0 ≤ cut by omega)
  have hk : k ≤ n3 := by omega
  have hd3 : decide (n3 < k) = false := by simp; omega
  go_upto_region 7 with (fail)
  clear hd hd2 hd3 h1 h2
  have hsl1 : ∀ W, (Instr.slice 23 (.slice A3 n3 c3) none (some (.int .i64 (k : Int))) none).run Tryd.prog W = .ok (.slice (cutA A3 c3 0) k c3) W := fun W => slice_h _ n3 c3 k (by omega) W
  have hsl2 : ∀ W, (Instr.slice 23 (.slice A3 n3 c3) (some (.int .i64 (k : Int))) none none).run Tryd.prog W = .ok (.slice (cutA A3 c3 k) (n3 - k) (c3 - k)) W := fun W => slice_l _ n3 c3 k hk W
  have K2 : Hid (Rd w1.drew A2 n2 c2 key) := R2.out.drew
  have B2 : Hid (Rd w1.drew A3 n3 c3 b) := R3.out.drew
  have W2 : Hid (Below w.heap.size w w1.drew) := W1.out.drew
  have G2 := Lib.hid (HG.out.below W2.out HG.out.size)
  have hr1 := B2.out.cut (k := 0) (e := k) (by omega) hk
  have hr2 := B2.out.cut (k := k) (e := n3) hk (Nat.le_refl _)
  simp only [List.drop_zero, Nat.sub_zero] at hr1
  rw [List.take_of_length_le (by rw [List.length_drop, NB.out]; omega)] at hr2
  have CA2 := Lib.hid hr1
  have CB2 := Lib.hid hr2
  clear hr1 hr2 R2 R3 W1
  refine wp_region_any (by kernel_rfl) ?_
  change wpAny _ _ _ _ _ _ _ (World.drew _)
  generalize w1.drew = w2 at *
  refine wpAny_take (i := 0) (oi := ?oi1) (v := .slice A2 n2 c2) ?hi1 (by kernel_rfl) (by kernel_rfl) (by kernel_rfl) ?hQ1 ?hy1 ?rest1
  case hi1 => simp only [List.getElem?_toArray, List.getElem?_cons_succ, List.getElem?_cons_zero]; rfl
  case hQ1 => exact fun _ _ _ h => h
  case hy1 => exact Or.inl ⟨by rfl, by intro w; go_simp⟩
  try simp only [Act.put, List.setIfInBounds_toArray, List.set_cons_zero, List.set_cons_succ]
  refine wpAny_take (i := 1) (oi := ?oi2) (v := .slice A3 n3 c3) ?hi2 (by kernel_rfl) (by kernel_rfl) (by kernel_rfl) ?hQ2 ?hy2 ?rest2
  case hi2 => simp only [List.getElem?_toArray, List.getElem?_cons_succ, List.getElem?_cons_zero]; rfl
  case hQ2 => exact fun _ _ _ h => h
  case hy2 => exact Or.inl ⟨by rfl, by intro w; go_simp⟩
  try simp only [Act.put, List.setIfInBounds_toArray, List.set_cons_zero, List.set_cons_succ]
  refine wpAny_take (i := 2) (oi := ?oi3) (v := .int .i64 (k : Int)) ?hi3 (by kernel_rfl) (by kernel_rfl) (by kernel_rfl) ?hQ3 ?hy3 ?rest3
  case hi3 => simp only [List.getElem?_toArray, List.getElem?_cons_succ, List.getElem?_cons_zero]; rfl
  case hQ3 => exact fun _ _ _ h => h
  case hy3 => exact Or.inl ⟨by rfl, by intro w; go_simp⟩
  try simp only [Act.put, List.setIfInBounds_toArray, List.set_cons_zero, List.set_cons_succ]
  refine wpAny_take (i := 3) (oi := ?oi4) (v := .slice (cutA A3 c3 0) k c3) ?hi4 (by kernel_rfl) (by kernel_rfl) (by kernel_rfl) ?hQ4 ?hy4 ?rest4
  case hi4 => simp only [List.getElem?_toArray, List.getElem?_cons_succ, List.getElem?_cons_zero]; rfl
  case hQ4 => exact fun _ _ _ h => h
  case hy4 => exact Or.inl ⟨by rfl, by intro w; go_simp⟩
  try simp only [Act.put, List.setIfInBounds_toArray, List.set_cons_zero, List.set_cons_succ]
  refine wpAny_take (i := 4) (oi := ?oi5) (v := .slice A3 n3 c3) ?hi5 (by kernel_rfl) (by kernel_rfl) (by kernel_rfl) ?hQ5 ?hy5 ?rest5
  case hi5 => simp only [List.getElem?_toArray, List.getElem?_cons_succ, List.getElem?_cons_zero]; rfl
  case hQ5 => exact fun _ _ _ h => h
  case hy5 => exact Or.inl ⟨by rfl, by intro w; go_simp⟩
  try simp only [Act.put, List.setIfInBounds_toArray, List.set_cons_zero, List.set_cons_succ]
  refine wpAny_take (i := 5) (oi := ?oi6) (v := .int .i64 (k : Int)) ?hi6 (by kernel_rfl) (by kernel_rfl) (by kernel_rfl) ?hQ6 ?hy6 ?rest6
  case hi6 => simp only [List.getElem?_toArray, List.getElem?_cons_succ, List.getElem?_cons_zero]; rfl
  case hQ6 => exact fun _ _ _ h => h
  case hy6 => exact Or.inl ⟨by rfl, by intro w; go_simp⟩
  try simp only [Act.put, List.setIfInBounds_toArray, List.set_cons_zero, List.set_cons_succ]
  refine wpAny_take (i := 6) (oi := ?oi7) (v := .slice (cutA A3 c3 k) (n3 - k) (c3 - k)) ?hi7 (by kernel_rfl) (by kernel_rfl) (by kernel_rfl) ?hQ7 ?hy7 ?rest7
  case hi7 => simp only [List.getElem?_toArray, List.getElem?_cons_succ, List.getElem?_cons_zero]; rfl
  case hQ7 => exact fun _ _ _ h => h
  case hy7 => exact Or.inl ⟨by rfl, by intro w; go_simp⟩
  try simp only [Act.put, List.setIfInBounds_toArray, List.set_cons_zero, List.set_cons_succ]
  refine wpAny_take (i := 9) (oi := ?oi8) (v := .slice A2 n2 c2) ?hi8 (by kernel_rfl) (by kernel_rfl) (by kernel_rfl) ?hQ8 ?hy8 ?rest8
  case hi8 => simp only [List.getElem?_toArray, List.getElem?_cons_succ, List.getElem?_cons_zero]; rfl
  case hQ8 => exact fun _ _ _ h => h
  case hy8 => exact Or.inl ⟨by rfl, by intro w; go_simp⟩
  try simp only [Act.put, List.setIfInBounds_toArray, List.set_cons_zero, List.set_cons_succ]
  refine wpAny_take (i := 10) (oi := ?oi9) (v := .slice A3 n3 c3) ?hi9 (by kernel_rfl) (by kernel_rfl) (by kernel_rfl) ?hQ9 ?hy9 ?rest9
  case hi9 => simp only [List.getElem?_toArray, List.getElem?_cons_succ, List.getElem?_cons_zero]; rfl
  case hQ9 => exact fun _ _ _ h => h
  case hy9 => exact Or.inl ⟨by rfl, by intro w; go_simp⟩
  try simp only [Act.put, List.setIfInBounds_toArray, List.set_cons_zero, List.set_cons_succ]
  refine wpAny_ready (rs := [7, 11]) (by kernel_rfl) (by simp) ?_
  refine AllReady.cons (o := ?o10) ?ho10 (fun K hK => ?_) ?more10
  case ho10 => simp only [List.getElem?_toArray, List.getElem?_cons_succ, List.getElem?_cons_zero]; rfl
  · go_simp
    refine hK _ _ ?_
    clear hK K
    have X101 := Lib.hid (alloc_below w2 (.cells #[.slice (cutA A3 c3 0) k c3, .slice none 0 0, .slice (cutA A3 c3 k) (n3 - k) (c3 - k)] 23))
    have PT101 := Lib.hid (lit_parts3' (g := w2.heap.size) w2 CA2.out (Rd.nil w2 none 0 (by unfold maxLen; omega)) CB2.out rfl)
    generalize w2.alloc (.cells #[.slice (cutA A3 c3 0) k c3, .slice none 0 0, .slice (cutA A3 c3 k) (n3 - k) (c3 - k)] 23) = w101 at *
    try simp only [Act.put, List.setIfInBounds_toArray, List.set_cons_zero, List.set_cons_succ]
    have W101 := Lib.hid (W2.out.trans (X101.out.mono W2.out.size))
    have G101 := Lib.hid (G2.out.below (X101.out.mono (Nat.le_refl _)) G2.out.size)
    have K101 := Lib.hid (K2.out.below (X101.out))
    have B101 := Lib.hid (B2.out.below (X101.out))
    have CA101 := Lib.hid (CA2.out.below (X101.out))
    have CB101 := Lib.hid (CB2.out.below (X101.out))
    clear W2 G2 K2 B2 CA2 CB2 
    clear X101
    refine wpAny_ready (rs := [8, 11]) (by kernel_rfl) (by simp) ?_
    refine AllReady.cons (o := ?o11) ?ho11 (fun K hK => ?_) ?more11
    case ho11 => simp only [List.getElem?_toArray, List.getElem?_cons_succ, List.getElem?_cons_zero]; rfl
    · go_simp
      refine (hmac_any G101.out K101.out (by omega) PT101.out (by omega) (by rw [three, NB.out]; omega)).mono ?_
      rintro e w102 ⟨D102, rfl, hS, hX⟩
      rw [three] at hS
      have SM := Lib.hid hS
      clear hS
      clear PT101
      have W102 := Lib.hid (W101.out.trans (hX.mono W101.out.size))
      have G102 := Lib.hid (G101.out.below (hX.mono (Nat.le_refl _)) G101.out.size)
      have K102 := Lib.hid (K101.out.below (hX))
      have B102 := Lib.hid (B101.out.below (hX))
      have CA102 := Lib.hid (CA101.out.below (hX))
      have CB102 := Lib.hid (CB101.out.below (hX))
      clear W101 G101 K101 B101 CA101 CB101 
      clear hX
      refine hK _ _ ?_
      clear hK K
      try simp only [Act.put, List.setIfInBounds_toArray, List.set_cons_zero, List.set_cons_succ]
      refine wpAny_ready (rs := [11]) (by kernel_rfl) (by simp) ?_
      refine AllReady.cons (o := ?o12) ?ho12 (fun K hK => ?_) AllReady.nil
      case ho12 => simp only [List.getElem?_toArray, List.getElem?_cons_succ, List.getElem?_cons_zero]; rfl
      go_simp
      refine hK _ _ ?_
      clear hK K
      have X103 := Lib.hid (alloc_below w102 (.cells #[.slice A3 n3 c3] 23))
      have PO103 := Lib.hid (lit_parts1' (g := w102.heap.size) w102 B102.out rfl)
      generalize w102.alloc (.cells #[.slice A3 n3 c3] 23) = w103 at *
      try simp only [Act.put, List.setIfInBounds_toArray, List.set_cons_zero, List.set_cons_succ]
      have W103 := Lib.hid (W102.out.trans (X103.out.mono W102.out.size))
      have G103 := Lib.hid (G102.out.below (X103.out.mono (Nat.le_refl _)) G102.out.size)
      have K103 := Lib.hid (K102.out.below (X103.out))
      have B103 := Lib.hid (B102.out.below (X103.out))
      have CA103 := Lib.hid (CA102.out.below (X103.out))
      have CB103 := Lib.hid (CB102.out.below (X103.out))
      clear W102 G102 K102 B102 CA102 CB102 
      clear X103
      refine wpAny_ready (rs := [12]) (by kernel_rfl) (by simp) ?_
      refine AllReady.cons (o := ?o13) ?ho13 (fun K hK => ?_) AllReady.nil
      case ho13 => simp only [List.getElem?_toArray, List.getElem?_cons_succ, List.getElem?_cons_zero]; rfl
      go_simp
      refine (hmac_any G103.out K103.out (by omega) PO103.out (by omega) (by rw [one, NB.out]; omega)).mono ?_
      rintro e w104 ⟨D104, rfl, hS, hX⟩
      rw [one] at hS
      obtain rfl := SM.out.uniq hS
      clear hS
      have hqm := fun W => SM.out.self W
      clear PO103
      have W104 := Lib.hid (W103.out.trans (hX.mono W103.out.size))
      have G104 := Lib.hid (G103.out.below (hX.mono (Nat.le_refl _)) G103.out.size)
      have K104 := Lib.hid (K103.out.below (hX))
      have B104 := Lib.hid (B103.out.below (hX))
      have CA104 := Lib.hid (CA103.out.below (hX))
      have CB104 := Lib.hid (CB103.out.below (hX))
      clear W103 G103 K103 B103 CA103 CB103 
      clear hX
      refine hK _ _ ?_
      clear hK K
      try simp only [Act.put, List.setIfInBounds_toArray, List.set_cons_zero, List.set_cons_succ]
      refine wpAny_take (i := 13) (oi := ?oi14) (v := .bool true) ?hi14 (by kernel_rfl) (by kernel_rfl) (by kernel_rfl) ?hQ14 ?hy14 ?rest14
      case hi14 => simp only [List.getElem?_toArray, List.getElem?_cons_succ, List.getElem?_cons_zero]; rfl
      case hQ14 => exact fun _ _ _ h => h
      case hy14 => exact Or.inl ⟨by rfl, by intro w; go_simp⟩
      try simp only [Act.put, List.setIfInBounds_toArray, List.set_cons_zero, List.set_cons_succ]
      refine wpAny_take (i := 14) (oi := ?oi15) (v := .bool true) ?hi15 (by kernel_rfl) (by kernel_rfl) (by kernel_rfl) ?hQ15 ?hy15 ?rest15
      case hi15 => simp only [List.getElem?_toArray, List.getElem?_cons_succ, List.getElem?_cons_zero]; rfl
      case hQ15 => exact fun _ _ _ h => h
      case hy15 => exact Or.inl ⟨by rfl, by intro w; go_simp⟩
      try simp only [Act.put, List.setIfInBounds_toArray, List.set_cons_zero, List.set_cons_succ]
      refine wpAny_take (i := 15) (oi := ?oi16) (v := .slice A2 n2 c2) ?hi16 (by kernel_rfl) (by kernel_rfl) (by kernel_rfl) ?hQ16 ?hy16 ?rest16
      case hi16 => simp only [List.getElem?_toArray, List.getElem?_cons_succ, List.getElem?_cons_zero]; rfl
      case hQ16 => exact fun _ _ _ h => h
      case hy16 => exact Or.inl ⟨by rfl, by intro w; go_simp⟩
      try simp only [Act.put, List.setIfInBounds_toArray, List.set_cons_zero, List.set_cons_succ]
      refine wpAny_take (i := 16) (oi := ?oi17) (v := .slice A3 n3 c3) ?hi17 (by kernel_rfl) (by kernel_rfl) (by kernel_rfl) ?hQ17 ?hy17 ?rest17
      case hi17 => simp only [List.getElem?_toArray, List.getElem?_cons_succ, List.getElem?_cons_zero]; rfl
      case hQ17 => exact fun _ _ _ h => h
      case hy17 => exact Or.inl ⟨by rfl, by intro w; go_simp⟩
      try simp only [Act.put, List.setIfInBounds_toArray, List.set_cons_zero, List.set_cons_succ]
      refine wpAny_take (i := 19) (oi := ?oi18) (v := .slice A2 n2 c2) ?hi18 (by kernel_rfl) (by kernel_rfl) (by kernel_rfl) ?hQ18 ?hy18 ?rest18
      case hi18 => simp only [List.getElem?_toArray, List.getElem?_cons_succ, List.getElem?_cons_zero]; rfl
      case hQ18 => exact fun _ _ _ h => h
      case hy18 => exact Or.inl ⟨by rfl, by intro w; go_simp⟩
      try simp only [Act.put, List.setIfInBounds_toArray, List.set_cons_zero, List.set_cons_succ]
      refine wpAny_take (i := 20) (oi := ?oi19) (v := .slice A3 n3 c3) ?hi19 (by kernel_rfl) (by kernel_rfl) (by kernel_rfl) ?hQ19 ?hy19 ?rest19
      case hi19 => simp only [List.getElem?_toArray, List.getElem?_cons_succ, List.getElem?_cons_zero]; rfl
      case hQ19 => exact fun _ _ _ h => h
      case hy19 => exact Or.inl ⟨by rfl, by intro w; go_simp⟩
      try simp only [Act.put, List.setIfInBounds_toArray, List.set_cons_zero, List.set_cons_succ]
      refine wpAny_ready (rs := [17]) (by kernel_rfl) (by simp) ?_
      refine AllReady.cons (o := ?o20) ?ho20 (fun K hK => ?_) AllReady.nil
      case ho20 => simp only [List.getElem?_toArray, List.getElem?_cons_succ, List.getElem?_cons_zero]; rfl
      go_simp
      refine hK _ _ ?_
      clear hK K
      have X105 := Lib.hid (alloc_below w104 (.cells #[.slice A3 n3 c3] 23))
      have P105 := Lib.hid (lit_parts1' (g := w104.heap.size) w104 B104.out rfl)
      generalize w104.alloc (.cells #[.slice A3 n3 c3] 23) = w105 at *
      try simp only [Act.put, List.setIfInBounds_toArray, List.set_cons_zero, List.set_cons_succ]
      have W105 := Lib.hid (W104.out.trans (X105.out.mono W104.out.size))
      have G105 := Lib.hid (G104.out.below (X105.out.mono (Nat.le_refl _)) G104.out.size)
      have K105 := Lib.hid (K104.out.below (X105.out))
      have B105 := Lib.hid (B104.out.below (X105.out))
      have CA105 := Lib.hid (CA104.out.below (X105.out))
      have CB105 := Lib.hid (CB104.out.below (X105.out))
      clear W104 G104 K104 B104 CA104 CB104 
      clear X105
      refine wpAny_ready (rs := [18]) (by kernel_rfl) (by simp) ?_
      refine AllReady.cons (o := ?o21) ?ho21 (fun K hK => ?_) AllReady.nil
      case ho21 => simp only [List.getElem?_toArray, List.getElem?_cons_succ, List.getElem?_cons_zero]; rfl
      go_simp
      refine (hmac_any G105.out K105.out (by omega) P105.out (by omega) (by rw [one, NB.out]; omega)).mono ?_
      rintro e w106 ⟨D106, rfl, hS, hX⟩
      rw [one] at hS
      obtain rfl := SM.out.uniq hS
      clear hS
      clear P105
      have W106 := Lib.hid (W105.out.trans (hX.mono W105.out.size))
      have G106 := Lib.hid (G105.out.below (hX.mono (Nat.le_refl _)) G105.out.size)
      have K106 := Lib.hid (K105.out.below (hX))
      have B106 := Lib.hid (B105.out.below (hX))
      have CA106 := Lib.hid (CA105.out.below (hX))
      have CB106 := Lib.hid (CB105.out.below (hX))
      clear W105 G105 K105 B105 CA105 CB105 
      clear hX
      refine hK _ _ ?_
      clear hK K
      try simp only [Act.put, List.setIfInBounds_toArray, List.set_cons_zero, List.set_cons_succ]
      refine wpAny_ready (rs := [21]) (by kernel_rfl) (by simp) ?_
      refine AllReady.cons (o := ?o22) ?ho22 (fun K hK => ?_) AllReady.nil
      case ho22 => simp only [List.getElem?_toArray, List.getElem?_cons_succ, List.getElem?_cons_zero]; rfl
      go_simp
      refine (rhmac_any K106.out (by omega) B106.out (by omega)).mono ?_
      rintro e w107 ⟨D107, rfl, hS, hX⟩
      obtain rfl := SM.out.uniq hS
      clear hS
      have W107 := Lib.hid (W106.out.trans (hX.mono W106.out.size))
      have G107 := Lib.hid (G106.out.below (hX.mono (Nat.le_refl _)) G106.out.size)
      have K107 := Lib.hid (K106.out.below (hX))
      have B107 := Lib.hid (B106.out.below (hX))
      have CA107 := Lib.hid (CA106.out.below (hX))
      have CB107 := Lib.hid (CB106.out.below (hX))
      clear W106 G106 K106 B106 CA106 CB106 
      clear hX
      refine hK _ _ ?_
      clear hK K
      try simp only [Act.put, List.setIfInBounds_toArray, List.set_cons_zero, List.set_cons_succ]
      refine wpAny_take (i := 22) (oi := ?oi23) (v := .bool true) ?hi23 (by kernel_rfl) (by kernel_rfl) (by kernel_rfl) ?hQ23 ?hy23 ?rest23
      case hi23 => simp only [List.getElem?_toArray, List.getElem?_cons_succ, List.getElem?_cons_zero]; rfl
      case hQ23 => exact fun _ _ _ h => h
      case hy23 => exact Or.inl ⟨by rfl, by intro w; go_simp⟩
      try simp only [Act.put, List.setIfInBounds_toArray, List.set_cons_zero, List.set_cons_succ]
      refine wpAny_take (i := 23) (oi := ?oi24) (v := .bool true) ?hi24 (by kernel_rfl) (by kernel_rfl) (by kernel_rfl) ?hQ24 ?hy24 ?rest24
      case hi24 => simp only [List.getElem?_toArray, List.getElem?_cons_succ, List.getElem?_cons_zero]; rfl
      case hQ24 => exact fun _ _ _ h => h
      case hy24 => exact Or.inl ⟨by rfl, by intro w; go_simp⟩
      try simp only [Act.put, List.setIfInBounds_toArray, List.set_cons_zero, List.set_cons_succ]
      refine wpAny_take (i := 24) (oi := ?oi25) (v := .bool true) ?hi25 (by kernel_rfl) (by kernel_rfl) (by kernel_rfl) ?hQ25 ?hy25 ?rest25
      case hi25 => simp only [List.getElem?_toArray, List.getElem?_cons_succ, List.getElem?_cons_zero]; rfl
      case hQ25 => exact fun _ _ _ h => h
      case hy25 => exact Or.inl ⟨by rfl, by intro w; go_simp⟩
      try simp only [Act.put, List.setIfInBounds_toArray, List.set_cons_zero, List.set_cons_succ]
      refine wpAny_take (i := 25) (oi := ?oi26) (v := .slice A3 n3 c3) ?hi26 (by kernel_rfl) (by kernel_rfl) (by kernel_rfl) ?hQ26 ?hy26 ?rest26
      case hi26 => simp only [List.getElem?_toArray, List.getElem?_cons_succ, List.getElem?_cons_zero]; rfl
      case hQ26 => exact fun _ _ _ h => h
      case hy26 => exact Or.inl ⟨by rfl, by intro w; go_simp⟩
      try simp only [Act.put, List.setIfInBounds_toArray, List.set_cons_zero, List.set_cons_succ]
      refine wpAny_take (i := 27) (oi := ?oi27) (v := .slice A3 n3 c3) ?hi27 (by kernel_rfl) (by kernel_rfl) (by kernel_rfl) ?hQ27 ?hy27 ?rest27
      case hi27 => simp only [List.getElem?_toArray, List.getElem?_cons_succ, List.getElem?_cons_zero]; rfl
      case hQ27 => exact fun _ _ _ h => h
      case hy27 => exact Or.inl ⟨by rfl, by intro w; go_simp⟩
      try simp only [Act.put, List.setIfInBounds_toArray, List.set_cons_zero, List.set_cons_succ]
      refine wpAny_ready (rs := [26]) (by kernel_rfl) (by simp) ?_
      refine AllReady.cons (o := ?o28) ?ho28 (fun K hK => ?_) AllReady.nil
      case ho28 => simp only [List.getElem?_toArray, List.getElem?_cons_succ, List.getElem?_cons_zero]; rfl
      go_simp
      refine (extract_any G107.out (Rd.nil w107 none 0 (by unfold maxLen; omega)) (by omega) B107.out (by omega)).mono ?_
      rintro e w108 ⟨D108, rfl, hS, hX⟩
      have SX := Lib.hid hS
      have hqx := fun W => SX.out.self W
      clear hS
      have W108 := Lib.hid (W107.out.trans (hX.mono W107.out.size))
      have G108 := Lib.hid (G107.out.below (hX.mono (Nat.le_refl _)) G107.out.size)
      have K108 := Lib.hid (K107.out.below (hX))
      have B108 := Lib.hid (B107.out.below (hX))
      have CA108 := Lib.hid (CA107.out.below (hX))
      have CB108 := Lib.hid (CB107.out.below (hX))
      clear W107 G107 K107 B107 CA107 CB107 
      clear hX
      refine hK _ _ ?_
      clear hK K
      try simp only [Act.put, List.setIfInBounds_toArray, List.set_cons_zero, List.set_cons_succ]
      refine wpAny_ready (rs := [28]) (by kernel_rfl) (by simp) ?_
      refine AllReady.cons (o := ?o29) ?ho29 (fun K hK => ?_) AllReady.nil
      case ho29 => simp only [List.getElem?_toArray, List.getElem?_cons_succ, List.getElem?_cons_zero]; rfl
      go_simp
      refine (rhmac_any (Rd.nil w108 none 0 (by unfold maxLen; omega)) (by omega) B108.out (by omega)).mono ?_
      rintro e w109 ⟨D109, rfl, hS, hX⟩
      obtain rfl := SX.out.uniq hS
      clear hS
      have W109 := Lib.hid (W108.out.trans (hX.mono W108.out.size))
      have G109 := Lib.hid (G108.out.below (hX.mono (Nat.le_refl _)) G108.out.size)
      have K109 := Lib.hid (K108.out.below (hX))
      have B109 := Lib.hid (B108.out.below (hX))
      have CA109 := Lib.hid (CA108.out.below (hX))
      have CB109 := Lib.hid (CB108.out.below (hX))
      clear W108 G108 K108 B108 CA108 CB108 
      clear hX
      refine hK _ _ ?_
      clear hK K
      try simp only [Act.put, List.setIfInBounds_toArray, List.set_cons_zero, List.set_cons_succ]
      refine wpAny_take (i := 29) (oi := ?oi30) (v := .bool true) ?hi30 (by kernel_rfl) (by kernel_rfl) (by kernel_rfl) ?hQ30 ?hy30 ?rest30
      case hi30 => simp only [List.getElem?_toArray, List.getElem?_cons_succ, List.getElem?_cons_zero]; rfl
      case hQ30 => exact fun _ _ _ h => h
      case hy30 => exact Or.inl ⟨by rfl, by intro w; go_simp⟩
      try simp only [Act.put, List.setIfInBounds_toArray, List.set_cons_zero, List.set_cons_succ]
      refine wpAny_take (i := 30) (oi := ?oi31) (v := .bool true) ?hi31 (by kernel_rfl) (by kernel_rfl) (by kernel_rfl) ?hQ31 ?hy31 ?rest31
      case hi31 => simp only [List.getElem?_toArray, List.getElem?_cons_succ, List.getElem?_cons_zero]; rfl
      case hQ31 => exact fun _ _ _ h => h
      case hy31 => exact Or.inl ⟨by rfl, by intro w; go_simp⟩
      try simp only [Act.put, List.setIfInBounds_toArray, List.set_cons_zero, List.set_cons_succ]
      refine wpAny_take (i := 31) (oi := ?oi32) (v := .bool true) ?hi32 (by kernel_rfl) (by kernel_rfl) (by kernel_rfl) ?hQ32 ?hy32 ?rest32
      case hi32 => simp only [List.getElem?_toArray, List.getElem?_cons_succ, List.getElem?_cons_zero]; rfl
      case hQ32 => exact fun _ _ _ h => h
      case hy32 => exact Or.inl ⟨by rfl, by intro w; go_simp⟩
      try simp only [Act.put, List.setIfInBounds_toArray, List.set_cons_zero, List.set_cons_succ]
      refine wpAny_done (by kernel_rfl) ?_ _
      clear hqm hqx
      go_wp2_with fail
      go_ret
      exact ⟨rfl, W109.out⟩
    refine AllReady.cons (o := ?o33) ?ho33 (fun K hK => ?_) AllReady.nil
    case ho33 => simp only [List.getElem?_toArray, List.getElem?_cons_succ, List.getElem?_cons_zero]; rfl
    go_simp
    refine hK _ _ ?_
    clear hK K
    have X110 := Lib.hid (alloc_below w101 (.cells #[.slice A3 n3 c3] 23))
    have PO110 := Lib.hid (lit_parts1' (g := w101.heap.size) w101 B101.out rfl)
    generalize w101.alloc (.cells #[.slice A3 n3 c3] 23) = w110 at *
    try simp only [Act.put, List.setIfInBounds_toArray, List.set_cons_zero, List.set_cons_succ]
    have W110 := Lib.hid (W101.out.trans (X110.out.mono W101.out.size))
    have G110 := Lib.hid (G101.out.below (X110.out.mono (Nat.le_refl _)) G101.out.size)
    have K110 := Lib.hid (K101.out.below (X110.out))
    have B110 := Lib.hid (B101.out.below (X110.out))
    have CA110 := Lib.hid (CA101.out.below (X110.out))
    have CB110 := Lib.hid (CB101.out.below (X110.out))
    have PT110 := Lib.hid (PT101.out.below (X110.out))
    clear W101 G101 K101 B101 CA101 CB101 PT101
    clear X110
    refine wpAny_ready (rs := [8]) (by kernel_rfl) (by simp) ?_
    refine AllReady.cons (o := ?o34) ?ho34 (fun K hK => ?_) AllReady.nil
    case ho34 => simp only [List.getElem?_toArray, List.getElem?_cons_succ, List.getElem?_cons_zero]; rfl
    go_simp
    refine (hmac_any G110.out K110.out (by omega) PT110.out (by omega) (by rw [three, NB.out]; omega)).mono ?_
    rintro e w111 ⟨D111, rfl, hS, hX⟩
    rw [three] at hS
    have SM := Lib.hid hS
    clear hS
    clear PT110
    have W111 := Lib.hid (W110.out.trans (hX.mono W110.out.size))
    have G111 := Lib.hid (G110.out.below (hX.mono (Nat.le_refl _)) G110.out.size)
    have K111 := Lib.hid (K110.out.below (hX))
    have B111 := Lib.hid (B110.out.below (hX))
    have CA111 := Lib.hid (CA110.out.below (hX))
    have CB111 := Lib.hid (CB110.out.below (hX))
    have PO111 := Lib.hid (PO110.out.below (hX))
    clear W110 G110 K110 B110 CA110 CB110 PO110
    clear hX
    refine hK _ _ ?_
    clear hK K
    try simp only [Act.put, List.setIfInBounds_toArray, List.set_cons_zero, List.set_cons_succ]
    refine wpAny_ready (rs := [12]) (by kernel_rfl) (by simp) ?_
    refine AllReady.cons (o := ?o35) ?ho35 (fun K hK => ?_) AllReady.nil
    case ho35 => simp only [List.getElem?_toArray, List.getElem?_cons_succ, List.getElem?_cons_zero]; rfl
    go_simp
    refine (hmac_any G111.out K111.out (by omega) PO111.out (by omega) (by rw [one, NB.out]; omega)).mono ?_
    rintro e w112 ⟨D112, rfl, hS, hX⟩
    rw [one] at hS
    obtain rfl := SM.out.uniq hS
    clear hS
    have hqm := fun W => SM.out.self W
    clear PO111
    have W112 := Lib.hid (W111.out.trans (hX.mono W111.out.size))
    have G112 := Lib.hid (G111.out.below (hX.mono (Nat.le_refl _)) G111.out.size)
    have K112 := Lib.hid (K111.out.below (hX))
    have B112 := Lib.hid (B111.out.below (hX))
    have CA112 := Lib.hid (CA111.out.below (hX))
    have CB112 := Lib.hid (CB111.out.below (hX))
    clear W111 G111 K111 B111 CA111 CB111 
    clear hX
    refine hK _ _ ?_
    clear hK K
    try simp only [Act.put, List.setIfInBounds_toArray, List.set_cons_zero, List.set_cons_succ]
    refine wpAny_take (i := 13) (oi := ?oi36) (v := .bool true) ?hi36 (by kernel_rfl) (by kernel_rfl) (by kernel_rfl) ?hQ36 ?hy36 ?rest36
    case hi36 => simp only [List.getElem?_toArray, List.getElem?_cons_succ, List.getElem?_cons_zero]; rfl
    case hQ36 => exact fun _ _ _ h => h
    case hy36 => exact Or.inl ⟨by rfl, by intro w; go_simp⟩
    try simp only [Act.put, List.setIfInBounds_toArray, List.set_cons_zero, List.set_cons_succ]
    refine wpAny_take (i := 14) (oi := ?oi37) (v := .bool true) ?hi37 (by kernel_rfl) (by kernel_rfl) (by kernel_rfl) ?hQ37 ?hy37 ?rest37
    case hi37 => simp only [List.getElem?_toArray, List.getElem?_cons_succ, List.getElem?_cons_zero]; rfl
    case hQ37 => exact fun _ _ _ h => h
    case hy37 => exact Or.inl ⟨by rfl, by intro w; go_simp⟩
    try simp only [Act.put, List.setIfInBounds_toArray, List.set_cons_zero, List.set_cons_succ]
    refine wpAny_take (i := 15) (oi := ?oi38) (v := .slice A2 n2 c2) ?hi38 (by kernel_rfl) (by kernel_rfl) (by kernel_rfl) ?hQ38 ?hy38 ?rest38
    case hi38 => simp only [List.getElem?_toArray, List.getElem?_cons_succ, List.getElem?_cons_zero]; rfl
    case hQ38 => exact fun _ _ _ h => h
    case hy38 => exact Or.inl ⟨by rfl, by intro w; go_simp⟩
    try simp only [Act.put, List.setIfInBounds_toArray, List.set_cons_zero, List.set_cons_succ]
    refine wpAny_take (i := 16) (oi := ?oi39) (v := .slice A3 n3 c3) ?hi39 (by kernel_rfl) (by kernel_rfl) (by kernel_rfl) ?hQ39 ?hy39 ?rest39
    case hi39 => simp only [List.getElem?_toArray, List.getElem?_cons_succ, List.getElem?_cons_zero]; rfl
    case hQ39 => exact fun _ _ _ h => h
    case hy39 => exact Or.inl ⟨by rfl, by intro w; go_simp⟩
    try simp only [Act.put, List.setIfInBounds_toArray, List.set_cons_zero, List.set_cons_succ]
    refine wpAny_take (i := 19) (oi := ?oi40) (v := .slice A2 n2 c2) ?hi40 (by kernel_rfl) (by kernel_rfl) (by kernel_rfl) ?hQ40 ?hy40 ?rest40
    case hi40 => simp only [List.getElem?_toArray, List.getElem?_cons_succ, List.getElem?_cons_zero]; rfl
    case hQ40 => exact fun _ _ _ h => h
    case hy40 => exact Or.inl ⟨by rfl, by intro w; go_simp⟩
    try simp only [Act.put, List.setIfInBounds_toArray, List.set_cons_zero, List.set_cons_succ]
    refine wpAny_take (i := 20) (oi := ?oi41) (v := .slice A3 n3 c3) ?hi41 (by kernel_rfl) (by kernel_rfl) (by kernel_rfl) ?hQ41 ?hy41 ?rest41
    case hi41 => simp only [List.getElem?_toArray, List.getElem?_cons_succ, List.getElem?_cons_zero]; rfl
    case hQ41 => exact fun _ _ _ h => h
    case hy41 => exact Or.inl ⟨by rfl, by intro w; go_simp⟩
    try simp only [Act.put, List.setIfInBounds_toArray, List.set_cons_zero, List.set_cons_succ]
    refine wpAny_ready (rs := [17]) (by kernel_rfl) (by simp) ?_
    refine AllReady.cons (o := ?o42) ?ho42 (fun K hK => ?_) AllReady.nil
    case ho42 => simp only [List.getElem?_toArray, List.getElem?_cons_succ, List.getElem?_cons_zero]; rfl
    go_simp
    refine hK _ _ ?_
    clear hK K
    have X113 := Lib.hid (alloc_below w112 (.cells #[.slice A3 n3 c3] 23))
    have P113 := Lib.hid (lit_parts1' (g := w112.heap.size) w112 B112.out rfl)
    generalize w112.alloc (.cells #[.slice A3 n3 c3] 23) = w113 at *
    try simp only [Act.put, List.setIfInBounds_toArray, List.set_cons_zero, List.set_cons_succ]
    have W113 := Lib.hid (W112.out.trans (X113.out.mono W112.out.size))
    have G113 := Lib.hid (G112.out.below (X113.out.mono (Nat.le_refl _)) G112.out.size)
    have K113 := Lib.hid (K112.out.below (X113.out))
    have B113 := Lib.hid (B112.out.below (X113.out))
    have CA113 := Lib.hid (CA112.out.below (X113.out))
    have CB113 := Lib.hid (CB112.out.below (X113.out))
    clear W112 G112 K112 B112 CA112 CB112 
    clear X113
    refine wpAny_ready (rs := [18]) (by kernel_rfl) (by simp) ?_
    refine AllReady.cons (o := ?o43) ?ho43 (fun K hK => ?_) AllReady.nil
    case ho43 => simp only [List.getElem?_toArray, List.getElem?_cons_succ, List.getElem?_cons_zero]; rfl
    go_simp
    refine (hmac_any G113.out K113.out (by omega) P113.out (by omega) (by rw [one, NB.out]; omega)).mono ?_
    rintro e w114 ⟨D114, rfl, hS, hX⟩
    rw [one] at hS
    obtain rfl := SM.out.uniq hS
    clear hS
    clear P113
    have W114 := Lib.hid (W113.out.trans (hX.mono W113.out.size))
    have G114 := Lib.hid (G113.out.below (hX.mono (Nat.le_refl _)) G113.out.size)
    have K114 := Lib.hid (K113.out.below (hX))
    have B114 := Lib.hid (B113.out.below (hX))
    have CA114 := Lib.hid (CA113.out.below (hX))
    have CB114 := Lib.hid (CB113.out.below (hX))
    clear W113 G113 K113 B113 CA113 CB113 
    clear hX
    refine hK _ _ ?_
    clear hK K
    try simp only [Act.put, List.setIfInBounds_toArray, List.set_cons_zero, List.set_cons_succ]
    refine wpAny_ready (rs := [21]) (by kernel_rfl) (by simp) ?_
    refine AllReady.cons (o := ?o44) ?ho44 (fun K hK => ?_) AllReady.nil
    case ho44 => simp only [List.getElem?_toArray, List.getElem?_cons_succ, List.getElem?_cons_zero]; rfl
    go_simp
    refine (rhmac_any K114.out (by omega) B114.out (by omega)).mono ?_
    rintro e w115 ⟨D115, rfl, hS, hX⟩
    obtain rfl := SM.out.uniq hS
    clear hS
    have W115 := Lib.hid (W114.out.trans (hX.mono W114.out.size))
    have G115 := Lib.hid (G114.out.below (hX.mono (Nat.le_refl _)) G114.out.size)
    have K115 := Lib.hid (K114.out.below (hX))
    have B115 := Lib.hid (B114.out.below (hX))
    have CA115 := Lib.hid (CA114.out.below (hX))
    have CB115 := Lib.hid (CB114.out.below (hX))
    clear W114 G114 K114 B114 CA114 CB114 
    clear hX
    refine hK _ _ ?_
    clear hK K
    try simp only [Act.put, List.setIfInBounds_toArray, List.set_cons_zero, List.set_cons_succ]
    refine wpAny_take (i := 22) (oi := ?oi45) (v := .bool true) ?hi45 (by kernel_rfl) (by kernel_rfl) (by kernel_rfl) ?hQ45 ?hy45 ?rest45
    case hi45 => simp only [List.getElem?_toArray, List.getElem?_cons_succ, List.getElem?_cons_zero]; rfl
    case hQ45 => exact fun _ _ _ h => h
    case hy45 => exact Or.inl ⟨by rfl, by intro w; go_simp⟩
    try simp only [Act.put, List.setIfInBounds_toArray, List.set_cons_zero, List.set_cons_succ]
    refine wpAny_take (i := 23) (oi := ?oi46) (v := .bool true) ?hi46 (by kernel_rfl) (by kernel_rfl) (by kernel_rfl) ?hQ46 ?hy46 ?rest46
    case hi46 => simp only [List.getElem?_toArray, List.getElem?_cons_succ, List.getElem?_cons_zero]; rfl
    case hQ46 => exact fun _ _ _ h => h
    case hy46 => exact Or.inl ⟨by rfl, by intro w; go_simp⟩
    try simp only [Act.put, List.setIfInBounds_toArray, List.set_cons_zero, List.set_cons_succ]
    refine wpAny_take (i := 24) (oi := ?oi47) (v := .bool true) ?hi47 (by kernel_rfl) (by kernel_rfl) (by kernel_rfl) ?hQ47 ?hy47 ?rest47
    case hi47 => simp only [List.getElem?_toArray, List.getElem?_cons_succ, List.getElem?_cons_zero]; rfl
    case hQ47 => exact fun _ _ _ h => h
    case hy47 => exact Or.inl ⟨by rfl, by intro w; go_simp⟩
    try simp only [Act.put, List.setIfInBounds_toArray, List.set_cons_zero, List.set_cons_succ]
    refine wpAny_take (i := 25) (oi := ?oi48) (v := .slice A3 n3 c3) ?hi48 (by kernel_rfl) (by kernel_rfl) (by kernel_rfl) ?hQ48 ?hy48 ?rest48
    case hi48 => simp only [List.getElem?_toArray, List.getElem?_cons_succ, List.getElem?_cons_zero]; rfl
    case hQ48 => exact fun _ _ _ h => h
    case hy48 => exact Or.inl ⟨by rfl, by intro w; go_simp⟩
    try simp only [Act.put, List.setIfInBounds_toArray, List.set_cons_zero, List.set_cons_succ]
    refine wpAny_take (i := 27) (oi := ?oi49) (v := .slice A3 n3 c3) ?hi49 (by kernel_rfl) (by kernel_rfl) (by kernel_rfl) ?hQ49 ?hy49 ?rest49
    case hi49 => simp only [List.getElem?_toArray, List.getElem?_cons_succ, List.getElem?_cons_zero]; rfl
    case hQ49 => exact fun _ _ _ h => h
    case hy49 => exact Or.inl ⟨by rfl, by intro w; go_simp⟩
    try simp only [Act.put, List.setIfInBounds_toArray, List.set_cons_zero, List.set_cons_succ]
    refine wpAny_ready (rs := [26]) (by kernel_rfl) (by simp) ?_
    refine AllReady.cons (o := ?o50) ?ho50 (fun K hK => ?_) AllReady.nil
    case ho50 => simp only [List.getElem?_toArray, List.getElem?_cons_succ, List.getElem?_cons_zero]; rfl
    go_simp
    refine (extract_any G115.out (Rd.nil w115 none 0 (by unfold maxLen; omega)) (by omega) B115.out (by omega)).mono ?_
    rintro e w116 ⟨D116, rfl, hS, hX⟩
    have SX := Lib.hid hS
    have hqx := fun W => SX.out.self W
    clear hS
    have W116 := Lib.hid (W115.out.trans (hX.mono W115.out.size))
    have G116 := Lib.hid (G115.out.below (hX.mono (Nat.le_refl _)) G115.out.size)
    have K116 := Lib.hid (K115.out.below (hX))
    have B116 := Lib.hid (B115.out.below (hX))
    have CA116 := Lib.hid (CA115.out.below (hX))
    have CB116 := Lib.hid (CB115.out.below (hX))
    clear W115 G115 K115 B115 CA115 CB115 
    clear hX
    refine hK _ _ ?_
    clear hK K
    try simp only [Act.put, List.setIfInBounds_toArray, List.set_cons_zero, List.set_cons_succ]
    refine wpAny_ready (rs := [28]) (by kernel_rfl) (by simp) ?_
    refine AllReady.cons (o := ?o51) ?ho51 (fun K hK => ?_) AllReady.nil
    case ho51 => simp only [List.getElem?_toArray, List.getElem?_cons_succ, List.getElem?_cons_zero]; rfl
    go_simp
    refine (rhmac_any (Rd.nil w116 none 0 (by unfold maxLen; omega)) (by omega) B116.out (by omega)).mono ?_
    rintro e w117 ⟨D117, rfl, hS, hX⟩
    obtain rfl := SX.out.uniq hS
    clear hS
    have W117 := Lib.hid (W116.out.trans (hX.mono W116.out.size))
    have G117 := Lib.hid (G116.out.below (hX.mono (Nat.le_refl _)) G116.out.size)
    have K117 := Lib.hid (K116.out.below (hX))
    have B117 := Lib.hid (B116.out.below (hX))
    have CA117 := Lib.hid (CA116.out.below (hX))
    have CB117 := Lib.hid (CB116.out.below (hX))
    clear W116 G116 K116 B116 CA116 CB116 
    clear hX
    refine hK _ _ ?_
    clear hK K
    try simp only [Act.put, List.setIfInBounds_toArray, List.set_cons_zero, List.set_cons_succ]
    refine wpAny_take (i := 29) (oi := ?oi52) (v := .bool true) ?hi52 (by kernel_rfl) (by kernel_rfl) (by kernel_rfl) ?hQ52 ?hy52 ?rest52
    case hi52 => simp only [List.getElem?_toArray, List.getElem?_cons_succ, List.getElem?_cons_zero]; rfl
    case hQ52 => exact fun _ _ _ h => h
    case hy52 => exact Or.inl ⟨by rfl, by intro w; go_simp⟩
    try simp only [Act.put, List.setIfInBounds_toArray, List.set_cons_zero, List.set_cons_succ]
    refine wpAny_take (i := 30) (oi := ?oi53) (v := .bool true) ?hi53 (by kernel_rfl) (by kernel_rfl) (by kernel_rfl) ?hQ53 ?hy53 ?rest53
    case hi53 => simp only [List.getElem?_toArray, List.getElem?_cons_succ, List.getElem?_cons_zero]; rfl
    case hQ53 => exact fun _ _ _ h => h
    case hy53 => exact Or.inl ⟨by rfl, by intro w; go_simp⟩
    try simp only [Act.put, List.setIfInBounds_toArray, List.set_cons_zero, List.set_cons_succ]
    refine wpAny_take (i := 31) (oi := ?oi54) (v := .bool true) ?hi54 (by kernel_rfl) (by kernel_rfl) (by kernel_rfl) ?hQ54 ?hy54 ?rest54
    case hi54 => simp only [List.getElem?_toArray, List.getElem?_cons_succ, List.getElem?_cons_zero]; rfl
    case hQ54 => exact fun _ _ _ h => h
    case hy54 => exact Or.inl ⟨by rfl, by intro w; go_simp⟩
    try simp only [Act.put, List.setIfInBounds_toArray, List.set_cons_zero, List.set_cons_succ]
    refine wpAny_done (by kernel_rfl) ?_ _
    clear hqm hqx
    go_wp2_with fail
    go_ret
    exact ⟨rfl, W117.out⟩
  refine AllReady.cons (o := ?o55) ?ho55 (fun K hK => ?_) AllReady.nil
  case ho55 => simp only [List.getElem?_toArray, List.getElem?_cons_succ, List.getElem?_cons_zero]; rfl
  go_simp
  refine hK _ _ ?_
  clear hK K
  have X118 := Lib.hid (alloc_below w2 (.cells #[.slice A3 n3 c3] 23))
  have PO118 := Lib.hid (lit_parts1' (g := w2.heap.size) w2 B2.out rfl)
  generalize w2.alloc (.cells #[.slice A3 n3 c3] 23) = w118 at *
  try simp only [Act.put, List.setIfInBounds_toArray, List.set_cons_zero, List.set_cons_succ]
  have W118 := Lib.hid (W2.out.trans (X118.out.mono W2.out.size))
  have G118 := Lib.hid (G2.out.below (X118.out.mono (Nat.le_refl _)) G2.out.size)
  have K118 := Lib.hid (K2.out.below (X118.out))
  have B118 := Lib.hid (B2.out.below (X118.out))
  have CA118 := Lib.hid (CA2.out.below (X118.out))
  have CB118 := Lib.hid (CB2.out.below (X118.out))
  clear W2 G2 K2 B2 CA2 CB2 
  clear X118
  refine wpAny_ready (rs := [7]) (by kernel_rfl) (by simp) ?_
  refine AllReady.cons (o := ?o56) ?ho56 (fun K hK => ?_) AllReady.nil
  case ho56 => simp only [List.getElem?_toArray, List.getElem?_cons_succ, List.getElem?_cons_zero]; rfl
  go_simp
  refine hK _ _ ?_
  clear hK K
  have X119 := Lib.hid (alloc_below w118 (.cells #[.slice (cutA A3 c3 0) k c3, .slice none 0 0, .slice (cutA A3 c3 k) (n3 - k) (c3 - k)] 23))
  have PT119 := Lib.hid (lit_parts3' (g := w118.heap.size) w118 CA118.out (Rd.nil w118 none 0 (by unfold maxLen; omega)) CB118.out rfl)
  generalize w118.alloc (.cells #[.slice (cutA A3 c3 0) k c3, .slice none 0 0, .slice (cutA A3 c3 k) (n3 - k) (c3 - k)] 23) = w119 at *
  try simp only [Act.put, List.setIfInBounds_toArray, List.set_cons_zero, List.set_cons_succ]
  have W119 := Lib.hid (W118.out.trans (X119.out.mono W118.out.size))
  have G119 := Lib.hid (G118.out.below (X119.out.mono (Nat.le_refl _)) G118.out.size)
  have K119 := Lib.hid (K118.out.below (X119.out))
  have B119 := Lib.hid (B118.out.below (X119.out))
  have CA119 := Lib.hid (CA118.out.below (X119.out))
  have CB119 := Lib.hid (CB118.out.below (X119.out))
  have PO119 := Lib.hid (PO118.out.below (X119.out))
  clear W118 G118 K118 B118 CA118 CB118 PO118
  clear X119
  refine wpAny_ready (rs := [8]) (by kernel_rfl) (by simp) ?_
  refine AllReady.cons (o := ?o57) ?ho57 (fun K hK => ?_) AllReady.nil
  case ho57 => simp only [List.getElem?_toArray, List.getElem?_cons_succ, List.getElem?_cons_zero]; rfl
  go_simp
  refine (hmac_any G119.out K119.out (by omega) PT119.out (by omega) (by rw [three, NB.out]; omega)).mono ?_
  rintro e w120 ⟨D120, rfl, hS, hX⟩
  rw [three] at hS
  have SM := Lib.hid hS
  clear hS
  clear PT119
  have W120 := Lib.hid (W119.out.trans (hX.mono W119.out.size))
  have G120 := Lib.hid (G119.out.below (hX.mono (Nat.le_refl _)) G119.out.size)
  have K120 := Lib.hid (K119.out.below (hX))
  have B120 := Lib.hid (B119.out.below (hX))
  have CA120 := Lib.hid (CA119.out.below (hX))
  have CB120 := Lib.hid (CB119.out.below (hX))
  have PO120 := Lib.hid (PO119.out.below (hX))
  clear W119 G119 K119 B119 CA119 CB119 PO119
  clear hX
  refine hK _ _ ?_
  clear hK K
  try simp only [Act.put, List.setIfInBounds_toArray, List.set_cons_zero, List.set_cons_succ]
  refine wpAny_ready (rs := [12]) (by kernel_rfl) (by simp) ?_
  refine AllReady.cons (o := ?o58) ?ho58 (fun K hK => ?_) AllReady.nil
  case ho58 => simp only [List.getElem?_toArray, List.getElem?_cons_succ, List.getElem?_cons_zero]; rfl
  go_simp
  refine (hmac_any G120.out K120.out (by omega) PO120.out (by omega) (by rw [one, NB.out]; omega)).mono ?_
  rintro e w121 ⟨D121, rfl, hS, hX⟩
  rw [one] at hS
  obtain rfl := SM.out.uniq hS
  clear hS
  have hqm := fun W => SM.out.self W
  clear PO120
  have W121 := Lib.hid (W120.out.trans (hX.mono W120.out.size))
  have G121 := Lib.hid (G120.out.below (hX.mono (Nat.le_refl _)) G120.out.size)
  have K121 := Lib.hid (K120.out.below (hX))
  have B121 := Lib.hid (B120.out.below (hX))
  have CA121 := Lib.hid (CA120.out.below (hX))
  have CB121 := Lib.hid (CB120.out.below (hX))
  clear W120 G120 K120 B120 CA120 CB120 
  clear hX
  refine hK _ _ ?_
  clear hK K
  try simp only [Act.put, List.setIfInBounds_toArray, List.set_cons_zero, List.set_cons_succ]
  refine wpAny_take (i := 13) (oi := ?oi59) (v := .bool true) ?hi59 (by kernel_rfl) (by kernel_rfl) (by kernel_rfl) ?hQ59 ?hy59 ?rest59
  case hi59 => simp only [List.getElem?_toArray, List.getElem?_cons_succ, List.getElem?_cons_zero]; rfl
  case hQ59 => exact fun _ _ _ h => h
  case hy59 => exact Or.inl ⟨by rfl, by intro w; go_simp⟩
  try simp only [Act.put, List.setIfInBounds_toArray, List.set_cons_zero, List.set_cons_succ]
  refine wpAny_take (i := 14) (oi := ?oi60) (v := .bool true) ?hi60 (by kernel_rfl) (by kernel_rfl) (by kernel_rfl) ?hQ60 ?hy60 ?rest60
  case hi60 => simp only [List.getElem?_toArray, List.getElem?_cons_succ, List.getElem?_cons_zero]; rfl
  case hQ60 => exact fun _ _ _ h => h
  case hy60 => exact Or.inl ⟨by rfl, by intro w; go_simp⟩
  try simp only [Act.put, List.setIfInBounds_toArray, List.set_cons_zero, List.set_cons_succ]
  refine wpAny_take (i := 15) (oi := ?oi61) (v := .slice A2 n2 c2) ?hi61 (by kernel_rfl) (by kernel_rfl) (by kernel_rfl) ?hQ61 ?hy61 ?rest61
  case hi61 => simp only [List.getElem?_toArray, List.getElem?_cons_succ, List.getElem?_cons_zero]; rfl
  case hQ61 => exact fun _ _ _ h => h
  case hy61 => exact Or.inl ⟨by rfl, by intro w; go_simp⟩
  try simp only [Act.put, List.setIfInBounds_toArray, List.set_cons_zero, List.set_cons_succ]
  refine wpAny_take (i := 16) (oi := ?oi62) (v := .slice A3 n3 c3) ?hi62 (by kernel_rfl) (by kernel_rfl) (by kernel_rfl) ?hQ62 ?hy62 ?rest62
  case hi62 => simp only [List.getElem?_toArray, List.getElem?_cons_succ, List.getElem?_cons_zero]; rfl
  case hQ62 => exact fun _ _ _ h => h
  case hy62 => exact Or.inl ⟨by rfl, by intro w; go_simp⟩
  try simp only [Act.put, List.setIfInBounds_toArray, List.set_cons_zero, List.set_cons_succ]
  refine wpAny_take (i := 19) (oi := ?oi63) (v := .slice A2 n2 c2) ?hi63 (by kernel_rfl) (by kernel_rfl) (by kernel_rfl) ?hQ63 ?hy63 ?rest63
  case hi63 => simp only [List.getElem?_toArray, List.getElem?_cons_succ, List.getElem?_cons_zero]; rfl
  case hQ63 => exact fun _ _ _ h => h
  case hy63 => exact Or.inl ⟨by rfl, by intro w; go_simp⟩
  try simp only [Act.put, List.setIfInBounds_toArray, List.set_cons_zero, List.set_cons_succ]
  refine wpAny_take (i := 20) (oi := ?oi64) (v := .slice A3 n3 c3) ?hi64 (by kernel_rfl) (by kernel_rfl) (by kernel_rfl) ?hQ64 ?hy64 ?rest64
  case hi64 => simp only [List.getElem?_toArray, List.getElem?_cons_succ, List.getElem?_cons_zero]; rfl
  case hQ64 => exact fun _ _ _ h => h
  case hy64 => exact Or.inl ⟨by rfl, by intro w; go_simp⟩
  try simp only [Act.put, List.setIfInBounds_toArray, List.set_cons_zero, List.set_cons_succ]
  refine wpAny_ready (rs := [17]) (by kernel_rfl) (by simp) ?_
  refine AllReady.cons (o := ?o65) ?ho65 (fun K hK => ?_) AllReady.nil
  case ho65 => simp only [List.getElem?_toArray, List.getElem?_cons_succ, List.getElem?_cons_zero]; rfl
  go_simp
  refine hK _ _ ?_
  clear hK K
  have X122 := Lib.hid (alloc_below w121 (.cells #[.slice A3 n3 c3] 23))
  have P122 := Lib.hid (lit_parts1' (g := w121.heap.size) w121 B121.out rfl)
  generalize w121.alloc (.cells #[.slice A3 n3 c3] 23) = w122 at *
  try simp only [Act.put, List.setIfInBounds_toArray, List.set_cons_zero, List.set_cons_succ]
  have W122 := Lib.hid (W121.out.trans (X122.out.mono W121.out.size))
  have G122 := Lib.hid (G121.out.below (X122.out.mono (Nat.le_refl _)) G121.out.size)
  have K122 := Lib.hid (K121.out.below (X122.out))
  have B122 := Lib.hid (B121.out.below (X122.out))
  have CA122 := Lib.hid (CA121.out.below (X122.out))
  have CB122 := Lib.hid (CB121.out.below (X122.out))
  clear W121 G121 K121 B121 CA121 CB121 
  clear X122
  refine wpAny_ready (rs := [18]) (by kernel_rfl) (by simp) ?_
  refine AllReady.cons (o := ?o66) ?ho66 (fun K hK => ?_) AllReady.nil
  case ho66 => simp only [List.getElem?_toArray, List.getElem?_cons_succ, List.getElem?_cons_zero]; rfl
  go_simp
  refine (hmac_any G122.out K122.out (by omega) P122.out (by omega) (by rw [one, NB.out]; omega)).mono ?_
  rintro e w123 ⟨D123, rfl, hS, hX⟩
  rw [one] at hS
  obtain rfl := SM.out.uniq hS
  clear hS
  clear P122
  have W123 := Lib.hid (W122.out.trans (hX.mono W122.out.size))
  have G123 := Lib.hid (G122.out.below (hX.mono (Nat.le_refl _)) G122.out.size)
  have K123 := Lib.hid (K122.out.below (hX))
  have B123 := Lib.hid (B122.out.below (hX))
  have CA123 := Lib.hid (CA122.out.below (hX))
  have CB123 := Lib.hid (CB122.out.below (hX))
  clear W122 G122 K122 B122 CA122 CB122 
  clear hX
  refine hK _ _ ?_
  clear hK K
  try simp only [Act.put, List.setIfInBounds_toArray, List.set_cons_zero, List.set_cons_succ]
  refine wpAny_ready (rs := [21]) (by kernel_rfl) (by simp) ?_
  refine AllReady.cons (o := ?o67) ?ho67 (fun K hK => ?_) AllReady.nil
  case ho67 => simp only [List.getElem?_toArray, List.getElem?_cons_succ, List.getElem?_cons_zero]; rfl
  go_simp
  refine (rhmac_any K123.out (by omega) B123.out (by omega)).mono ?_
  rintro e w124 ⟨D124, rfl, hS, hX⟩
  obtain rfl := SM.out.uniq hS
  clear hS
  have W124 := Lib.hid (W123.out.trans (hX.mono W123.out.size))
  have G124 := Lib.hid (G123.out.below (hX.mono (Nat.le_refl _)) G123.out.size)
  have K124 := Lib.hid (K123.out.below (hX))
  have B124 := Lib.hid (B123.out.below (hX))
  have CA124 := Lib.hid (CA123.out.below (hX))
  have CB124 := Lib.hid (CB123.out.below (hX))
  clear W123 G123 K123 B123 CA123 CB123 
  clear hX
  refine hK _ _ ?_
  clear hK K
  try simp only [Act.put, List.setIfInBounds_toArray, List.set_cons_zero, List.set_cons_succ]
  refine wpAny_take (i := 22) (oi := ?oi68) (v := .bool true) ?hi68 (by kernel_rfl) (by kernel_rfl) (by kernel_rfl) ?hQ68 ?hy68 ?rest68
  case hi68 => simp only [List.getElem?_toArray, List.getElem?_cons_succ, List.getElem?_cons_zero]; rfl
  case hQ68 => exact fun _ _ _ h => h
  case hy68 => exact Or.inl ⟨by rfl, by intro w; go_simp⟩
  try simp only [Act.put, List.setIfInBounds_toArray, List.set_cons_zero, List.set_cons_succ]
  refine wpAny_take (i := 23) (oi := ?oi69) (v := .bool true) ?hi69 (by kernel_rfl) (by kernel_rfl) (by kernel_rfl) ?hQ69 ?hy69 ?rest69
  case hi69 => simp only [List.getElem?_toArray, List.getElem?_cons_succ, List.getElem?_cons_zero]; rfl
  case hQ69 => exact fun _ _ _ h => h
  case hy69 => exact Or.inl ⟨by rfl, by intro w; go_simp⟩
  try simp only [Act.put, List.setIfInBounds_toArray, List.set_cons_zero, List.set_cons_succ]
  refine wpAny_take (i := 24) (oi := ?oi70) (v := .bool true) ?hi70 (by kernel_rfl) (by kernel_rfl) (by kernel_rfl) ?hQ70 ?hy70 ?rest70
  case hi70 => simp only [List.getElem?_toArray, List.getElem?_cons_succ, List.getElem?_cons_zero]; rfl
  case hQ70 => exact fun _ _ _ h => h
  case hy70 => exact Or.inl ⟨by rfl, by intro w; go_simp⟩
  try simp only [Act.put, List.setIfInBounds_toArray, List.set_cons_zero, List.set_cons_succ]
  refine wpAny_take (i := 25) (oi := ?oi71) (v := .slice A3 n3 c3) ?hi71 (by kernel_rfl) (by kernel_rfl) (by kernel_rfl) ?hQ71 ?hy71 ?rest71
  case hi71 => simp only [List.getElem?_toArray, List.getElem?_cons_succ, List.getElem?_cons_zero]; rfl
  case hQ71 => exact fun _ _ _ h => h
  case hy71 => exact Or.inl ⟨by rfl, by intro w; go_simp⟩
  try simp only [Act.put, List.setIfInBounds_toArray, List.set_cons_zero, List.set_cons_succ]
  refine wpAny_take (i := 27) (oi := ?oi72) (v := .slice A3 n3 c3) ?hi72 (by kernel_rfl) (by kernel_rfl) (by kernel_rfl) ?hQ72 ?hy72 ?rest72
  case hi72 => simp only [List.getElem?_toArray, List.getElem?_cons_succ, List.getElem?_cons_zero]; rfl
  case hQ72 => exact fun _ _ _ h => h
  case hy72 => exact Or.inl ⟨by rfl, by intro w; go_simp⟩
  try simp only [Act.put, List.setIfInBounds_toArray, List.set_cons_zero, List.set_cons_succ]
  refine wpAny_ready (rs := [26]) (by kernel_rfl) (by simp) ?_
  refine AllReady.cons (o := ?o73) ?ho73 (fun K hK => ?_) AllReady.nil
  case ho73 => simp only [List.getElem?_toArray, List.getElem?_cons_succ, List.getElem?_cons_zero]; rfl
  go_simp
  refine (extract_any G124.out (Rd.nil w124 none 0 (by unfold maxLen; omega)) (by omega) B124.out (by omega)).mono ?_
  rintro e w125 ⟨D125, rfl, hS, hX⟩
  have SX := Lib.hid hS
  have hqx := fun W => SX.out.self W
  clear hS
  have W125 := Lib.hid (W124.out.trans (hX.mono W124.out.size))
  have G125 := Lib.hid (G124.out.below (hX.mono (Nat.le_refl _)) G124.out.size)
  have K125 := Lib.hid (K124.out.below (hX))
  have B125 := Lib.hid (B124.out.below (hX))
  have CA125 := Lib.hid (CA124.out.below (hX))
  have CB125 := Lib.hid (CB124.out.below (hX))
  clear W124 G124 K124 B124 CA124 CB124 
  clear hX
  refine hK _ _ ?_
  clear hK K
  try simp only [Act.put, List.setIfInBounds_toArray, List.set_cons_zero, List.set_cons_succ]
  refine wpAny_ready (rs := [28]) (by kernel_rfl) (by simp) ?_
  refine AllReady.cons (o := ?o74) ?ho74 (fun K hK => ?_) AllReady.nil
  case ho74 => simp only [List.getElem?_toArray, List.getElem?_cons_succ, List.getElem?_cons_zero]; rfl
  go_simp
  refine (rhmac_any (Rd.nil w125 none 0 (by unfold maxLen; omega)) (by omega) B125.out (by omega)).mono ?_
  rintro e w126 ⟨D126, rfl, hS, hX⟩
  obtain rfl := SX.out.uniq hS
  clear hS
  have W126 := Lib.hid (W125.out.trans (hX.mono W125.out.size))
  have G126 := Lib.hid (G125.out.below (hX.mono (Nat.le_refl _)) G125.out.size)
  have K126 := Lib.hid (K125.out.below (hX))
  have B126 := Lib.hid (B125.out.below (hX))
  have CA126 := Lib.hid (CA125.out.below (hX))
  have CB126 := Lib.hid (CB125.out.below (hX))
  clear W125 G125 K125 B125 CA125 CB125 
  clear hX
  refine hK _ _ ?_
  clear hK K
  try simp only [Act.put, List.setIfInBounds_toArray, List.set_cons_zero, List.set_cons_succ]
  refine wpAny_take (i := 29) (oi := ?oi75) (v := .bool true) ?hi75 (by kernel_rfl) (by kernel_rfl) (by kernel_rfl) ?hQ75 ?hy75 ?rest75
  case hi75 => simp only [List.getElem?_toArray, List.getElem?_cons_succ, List.getElem?_cons_zero]; rfl
  case hQ75 => exact fun _ _ _ h => h
  case hy75 => exact Or.inl ⟨by rfl, by intro w; go_simp⟩
  try simp only [Act.put, List.setIfInBounds_toArray, List.set_cons_zero, List.set_cons_succ]
  refine wpAny_take (i := 30) (oi := ?oi76) (v := .bool true) ?hi76 (by kernel_rfl) (by kernel_rfl) (by kernel_rfl) ?hQ76 ?hy76 ?rest76
  case hi76 => simp only [List.getElem?_toArray, List.getElem?_cons_succ, List.getElem?_cons_zero]; rfl
  case hQ76 => exact fun _ _ _ h => h
  case hy76 => exact Or.inl ⟨by rfl, by intro w; go_simp⟩
  try simp only [Act.put, List.setIfInBounds_toArray, List.set_cons_zero, List.set_cons_succ]
  refine wpAny_take (i := 31) (oi := ?oi77) (v := .bool true) ?hi77 (by kernel_rfl) (by kernel_rfl) (by kernel_rfl) ?hQ77 ?hy77 ?rest77
  case hi77 => simp only [List.getElem?_toArray, List.getElem?_cons_succ, List.getElem?_cons_zero]; rfl
  case hQ77 => exact fun _ _ _ h => h
  case hy77 => exact Or.inl ⟨by rfl, by intro w; go_simp⟩
  try simp only [Act.put, List.setIfInBounds_toArray, List.set_cons_zero, List.set_cons_succ]
  refine wpAny_done (by kernel_rfl) ?_ _
  clear hqm hqx
  go_wp2_with fail
  go_ret
  exact ⟨rfl, W126.out⟩

set_option maxRecDepth 100000 in
theorem lifted (os : Os) (started : os.Started) (H : Type) (enc : TypeId × Value → H) :
    ReturnsInHanded {} Tryd.checked os 13 .any (fun w args => (Rows.macPartsSpec.pre enc Tryd.prog Tryd.f13 [] false w args ∧ laidMetH Tryd.prog laid2 w) ∧ sizedMet enc Tryd.prog Tryd.f13 (OpenSpec.ofChange Rows.macPartsSpec) false w args)
      (Rows.macPartsSpec.post enc Tryd.prog Tryd.f13 false true false false) := by
  refine returnsInHanded_of_change_and (C := Tryd.checked) (X := fun w _ => laidMetH Tryd.prog laid2 w) (fun _ _ _ hh h => h.of_heap hh) own started (by kernel_rfl) Tryd.func13
    (ChangeSpec.witness_shaped (enc := enc) (C := Tryd.checked) (os := os) (X := fun w _ => laidMetH Tryd.prog laid2 w) false (World.doorLaid Tryd.prog 400 os) #[.slice none 0 0, .slice none 0 0, .int .i64 0] 8 rfl (World.shaped_of_RefB (by kernel_rfl) (by kernel_rfl)) (by kernel_rfl) (by kernel_rfl) (by kernel_rfl) (door_met os _)) ?_
  intro W base args ds gs before hval0 hW _ _ hL _
  have hval : ∀ (j : Nat) t v, Tryd.f13.params[j]? = some t → args[j]? = some v → Value.okWide Tryd.prog W .any base t v := hval0
  have hW' := hW
  obtain ⟨p, q, hA0, hV, rfl, hfz, hnd⟩ := hW
  have hA : DataW.TrodAll enc Tryd.prog W 0 (fun _ => true) true Tryd.f13.params.toList args.toList ds p := hA0
  rw [Tryd.params13] at hA hval
  have hG := gl_of_laid hL
  obtain ⟨v0, vs0, d0, ds0, p0, q0, hargs, rfl, rfl, h0, r0⟩ := trodAll_cons hA
  obtain ⟨v1, vs1, d1, ds1, p1, q1, rfl, rfl, rfl, h1, r1⟩ := trodAll_cons r0
  obtain ⟨v2, vs2, d2, ds2, p2, q2, rfl, rfl, rfl, h2, r2⟩ := trodAll_cons r1
  obtain ⟨rfl, rfl, rfl⟩ := trodAll_nil r2
  obtain rfl : args = #[v0, v1, v2] := by cases args; simp_all
  obtain ⟨rfl, rfl⟩ := trodVars_none hV
  obtain ⟨a0, len0, cap0, rfl⟩ := okWide_slice Tryd.underlying23 (hval 0 23 v0 rfl rfl)
  have k0 := h0
  have lt0 : ∀ x ∈ p0, x.block < W.heap.size := by obtain ⟨m, hm⟩ := k0; exact DataW.trod_lt m _ _ _ hm
  obtain ⟨l0, hr0⟩ : ∃ l, Rd W a0 len0 cap0 l := by
    obtain ⟨fuel, hf⟩ := h0
    rcases open_ints Tryd.underlying23 Tryd.underlying5 (by kernel_rfl) hf with ⟨hcs, _⟩ | ⟨x, l, c, zs, hcs, _, hl, hm, hz, _, hcell, hwz⟩
    · simp [Value.cells] at hcs
      obtain ⟨rfl, rfl, rfl⟩ := hcs
      exact rd_came (zs := []) (.inl ⟨rfl, rfl, rfl, rfl⟩)
    · simp [Value.cells] at hcs
      obtain ⟨rfl, rfl, rfl⟩ := hcs
      exact rd_came (.inr ⟨_, rfl, hl, hm, by simpa using hz, hcell, hwz⟩)
  obtain ⟨a1, len1, cap1, rfl⟩ := okWide_slice Tryd.underlying23 (hval 1 23 v1 rfl rfl)
  have k1 := h1
  have lt1 : ∀ x ∈ p1, x.block < W.heap.size := by obtain ⟨m, hm⟩ := k1; exact DataW.trod_lt m _ _ _ hm
  obtain ⟨l1, hr1⟩ : ∃ l, Rd W a1 len1 cap1 l := by
    obtain ⟨fuel, hf⟩ := h1
    rcases open_ints Tryd.underlying23 Tryd.underlying5 (by kernel_rfl) hf with ⟨hcs, _⟩ | ⟨x, l, c, zs, hcs, _, hl, hm, hz, _, hcell, hwz⟩
    · simp [Value.cells] at hcs
      obtain ⟨rfl, rfl, rfl⟩ := hcs
      exact rd_came (zs := []) (.inl ⟨rfl, rfl, rfl, rfl⟩)
    · simp [Value.cells] at hcs
      obtain ⟨rfl, rfl, rfl⟩ := hcs
      exact rd_came (.inr ⟨_, rfl, hl, hm, by simpa using hz, hcell, hwz⟩)
  obtain ⟨a2, rfl, rfl, rfl, w2⟩ := open_int Tryd.underlying3 (hval 2 3 v2 rfl rfl) h2
  clear hA0 hval0
  refine (walk a2 W hG hr0 hr1).mono fun e W' ⟨he, bel⟩ => ?_
  subst he
  exact ⟨_, rfl, _, _, _, [], _, [], hW', trodAll_mk1 (shut_bool Tryd.underlying4 _), (trodAll_cons_mk (Below.trod laidOut (by kernel_rfl) (of_decide_eq_true (by kernel_rfl)) k0 bel lt0) (trodAll_cons_mk (Below.trod laidOut (by kernel_rfl) (of_decide_eq_true (by kernel_rfl)) k1 bel lt1) (trodAll_cons_mk (shut_int Tryd.underlying3 w2) trodAll_mk0))), rfl, bel.frame _, fun h => by cases h⟩

theorem over : Rows.macPartsRow.holds Tryd.pinned (OpenSpec.ofChange Rows.macPartsSpec) :=
  OpenClaim.holds_of_wide 13 Tryd.f13 rfl rfl rfl rfl rfl rfl rfl ⟨rfl, rfl, rfl, rfl, rfl⟩ rfl rfl rfl rfl rfl (by kernel_rfl) Tryd.func13 (by kernel_rfl)
    (of_decide_eq_true (by kernel_rfl)) (by unfold Func.isWrapper; first | (rw [if_pos (by decide +kernel)]; kernel_rfl) | (rw [if_neg (by decide +kernel)]; exact ⟨rfl, rfl⟩))
    (fun os started H enc _ => lifted os started H enc)
end Go.Proofs.YtbepofmkfloajaaDoor.macParts
namespace Go.Proofs.YtbepofmkfloajaaDoor
theorem macParts_card : Rows.MacPartsCardSaid :=
  Claim7.holds_tied_plain_at .later [] [.data, .data] true (true, "ac81aa9bd4a0dec26816718b789ea913be61d5e2860e2b9353823b24d89e6bc9") false
    macParts.over (fun _ h => by cases h) (by kernel_rfl) (fun _ h => by cases h) macParts_row_tie rfl ⟨rfl, rfl⟩ (by kernel_rfl) rfl
    (fun f fn hf hfn => by
      obtain rfl : f = 13 := Option.some.inj ((show Tryd.prog.funcNamed Tryd.f13.name = some 13 by kernel_rfl).symm.trans hf) |>.symm
      obtain rfl : fn = Tryd.f13 := (Option.some.inj (Tryd.func13.symm.trans hfn)).symm
      exact ⟨by kernel_rfl, fun j t ht => by
        rw [Tryd.params13] at ht
        have hm : t ∈ [23, 23, 3] := by simpa using Array.mem_of_getElem? ht
        have hall : (([23, 23, 3] : List TypeId).all fun u => !Tryd.prog.wantsStandIn u) = true := by kernel_rfl
        exact (show Tryd.prog.wantsStandIn t = false by simpa using List.all_eq_true.1 hall t hm)⟩)
    (by kernel_rfl)
#print axioms macParts_card
end Go.Proofs.YtbepofmkfloajaaDoor
