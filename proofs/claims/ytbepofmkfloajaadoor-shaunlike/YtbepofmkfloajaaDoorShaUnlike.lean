/-
  PROVED: for all b and bit the law ShaUnlike answers true (of two messages that differ in a bit the sums differ as the standard's do). CONDITIONS: none beyond the card's own.
-/
import Derived.Test.YtbepofmkfloajaaDoorConv
import Derived.Test.YtbepofmkfloajaaDoorApart
import Derived.Test.YtbepofmkfloajaaDoorTie
import Derived.Test.YtbepofmkfloajaaDoorCards
import Derived.OpenShut
import Derived.Stop.Joined
import Derived.SevenTiedAt
namespace Go.Proofs.YtbepofmkfloajaaDoor.shaUnlike
open Go.ChangeShapes Go.WideShapes Go.ChangeAt Go.RowKit
set_option linter.unusedVariables false
set_option linter.unusedSimpArgs false

theorem one (l : List UInt8) : [l].flatten = l := by simp
theorem two_sums {m m' : List UInt8} {D D' : List Value} (h : Summed m D) (h' : Summed m' D') (w : World) : (Op.equalIn 10000 30 (.agg D.toArray) (.agg D'.toArray)).run Tryd.prog w = .ok (sameB (Sha.sum m) (Sha.sum m')) w := by
  rw [h, h', equal30 _ _ (Sha.sum_length m) (Sha.sum_length m')]

set_option maxRecDepth 100000 in
set_option maxHeartbeats 4000000 in
theorem walk {A0 : Option Addr} {n0 c0 : Nat} {x0 : List UInt8} (bit : Int) (w : World) (hg : Gl w) (hr0 : Rd w A0 n0 c0 x0) :
    Calls Tryd.prog 12 #[.slice A0 n0 c0, .int .i64 bit] w fun e w' => e = .returned (.bool true) ∧ Below w.heap.size w w' := by
  have HG := Lib.hid hg
  have hsz := hg.size
  have R0 := Lib.hid hr0
  clear hg hr0
  go_enter Tryd.func12, Tryd.ntmps12
  go_wp2_with (go_at_call 15; refine (begun_any HG.out).mono ?_; rintro e w1 ⟨rfl, HB⟩; have W1 := Lib.hid HB; clear HB)
  refine (short_any 150 (R0.out.below W1.out) (by omega)).mono ?_
  rintro e w' ⟨A2, n2, c2, rfl, hr2, rfl⟩
  have R2 := Lib.hid hr2
  clear hr2
  have hl2 : n2 ≤ 150 := by rw [← R2.out.len, List.length_take]; omega
  clear R0
  obtain ⟨l2, hl2e⟩ : ∃ l, l = x0.take 150 := ⟨_, rfl⟩
  rw [← hl2e] at R2
  clear hl2e
  have N2 := Lib.hid R2.out.len
  have hs1 := W1.out.size
  by_cases h0 : n2 = 0
  · subst h0
    go_wp2_with fail
    go_ret
    exact ⟨rfl, W1.out⟩
  have he : ((n2 : Int) == 0) = false := by simp; omega
  by_cases h1 : bit < 0
  · have hd : decide (bit < 0) = true := by simpa using h1
    go_wp2_with fail
    go_ret
    exact ⟨rfl, W1.out⟩
  have hd : decide (bit < 0) = false := by simpa using h1
  go_upto_region 8 with (first | (at_builtin; refine onto_law rfl _ _ rfl rfl rfl R2.out (Ow.empty _ w1.heap.size) (by simp; omega) (Nat.le_refl _) (Below.refl _ _) ?_; intro v11 w11 O11 X11))
  rw [List.nil_append] at O11
  obtain ⟨g, c11, cur, rfl, hgb, hB, hlc, hcm, hcells⟩ := own_blk O11.out (by rw [N2.out]; omega)
  rw [N2.out]
  obtain ⟨k, hk, hkl⟩ : ∃ k : Nat, bit.tmod (8 * (n2 : Int)) = (k : Int) ∧ k < 8 * n2 := by
    refine ⟨bit.toNat % (8 * n2), ?_, Nat.mod_lt _ (by omega)⟩
    obtain ⟨q, rfl⟩ := Int.eq_ofNat_of_zero_le (show 0 ≤ bit by omega)
    have e : (8 * (n2 : Int)) = ((8 * n2 : Nat) : Int) := by simp
    rw [e]
    rfl
  have hnz : ((8 * (n2 : Int)) == 0) = false := by simp; omega
  obtain ⟨q, hq⟩ : ∃ q, q = k / 8 := ⟨_, rfl⟩
  obtain ⟨r, hr⟩ : ∃ r, r = k % 8 := ⟨_, rfl⟩
  have hq1 : (k : Int) / 8 = (q : Int) := by omega
  have hr1 : (k : Int) % 8 = (r : Int) := by omega
  have hql : q < n2 := by omega
  have hr8 : r < 8 := by omega
  clear hq hr hkl
  obtain ⟨z, hz⟩ : ∃ z, z = l2.getD q 0 := ⟨_, rfl⟩
  have e0 : w11.cell? ⟨g, q, none⟩ = some (.int .u8 (z.toNat : Int)) := by rw [hB.cell, hcells q (by rw [N2.out]; exact hql), hz]; rfl
  have f0 : w11.frozen? ⟨g, q, none⟩ = false := hB.frozen q
  have HZ := Lib.hid hz
  have HB := Lib.hid hB
  have HC := Lib.hid hcells
  clear hz hB hcells
  go_upto_region 10 with (fail)
  obtain ⟨y, hy⟩ : ∃ y : UInt8, (2 : Int) ^ r % 256 = (y.toNat : Int) := ⟨UInt8.ofNat (2 ^ r), by simp⟩
  have hcv : (Value.int IntKind.u8 ((z ^^^ y).toNat : Int)) = cellOf (z ^^^ y) := rfl
  rw [hy, xor_cell, hcv]
  have X12 := (X11.out.setCell (p := ⟨g, q, none⟩) hgb (cellOf (z ^^^ y))).drew
  have hrc := rd_set (z ^^^ y) HB.out hlc hcm HC.out (show q < l2.length by rw [N2.out]; exact hql)
  rw [N2.out] at hrc
  have RB2 := Lib.hid (R2.out.below X12)
  obtain ⟨l3, hl3⟩ : ∃ l, l = l2.set q (z ^^^ y) := ⟨_, rfl⟩
  rw [← hl3] at hrc
  have N3 : Hid (l3.length = n2) := by unfold Hid; rw [hl3, List.length_set, N2.out]
  have RC2 := Lib.hid hrc.drew
  have W2 := Lib.hid (W1.out.trans (X12.mono hs1))
  have G2 := Lib.hid (HG.out.below W2.out HG.out.size)
  clear hrc hl3 X12 X11 HB HC e0 f0 O11 R2 W1 hcv hy HZ hk hnz hq1 hr1 he
  refine wp_region_any (by kernel_rfl) ?_
  change wpAny _ _ _ _ _ _ _ (World.drew _)
  generalize (w11.setCell ⟨g, q, none⟩ (cellOf (z ^^^ y))).drew = w2 at *
  refine wpAny_take (i := 0) (oi := ?oi1) (v := .slice A2 n2 c2) ?hi1 (by kernel_rfl) (by kernel_rfl) (by kernel_rfl) ?hQ1 ?hy1 ?rest1
  case hi1 => simp only [List.getElem?_toArray, List.getElem?_cons_succ, List.getElem?_cons_zero]; rfl
  case hQ1 => exact fun _ _ _ h => h
  case hy1 => exact Or.inl ⟨by rfl, by intro w; go_simp⟩
  try simp only [Act.put, List.setIfInBounds_toArray, List.set_cons_zero, List.set_cons_succ]
  refine wpAny_take (i := 3) (oi := ?oi2) (v := .slice A2 n2 c2) ?hi2 (by kernel_rfl) (by kernel_rfl) (by kernel_rfl) ?hQ2 ?hy2 ?rest2
  case hi2 => simp only [List.getElem?_toArray, List.getElem?_cons_succ, List.getElem?_cons_zero]; rfl
  case hQ2 => exact fun _ _ _ h => h
  case hy2 => exact Or.inl ⟨by rfl, by intro w; go_simp⟩
  try simp only [Act.put, List.setIfInBounds_toArray, List.set_cons_zero, List.set_cons_succ]
  refine wpAny_ready (rs := [1]) (by kernel_rfl) (by simp) ?_
  refine AllReady.cons (o := ?o3) ?ho3 (fun K hK => ?_) AllReady.nil
  case ho3 => simp only [List.getElem?_toArray, List.getElem?_cons_succ, List.getElem?_cons_zero]; rfl
  go_simp
  refine hK _ _ ?_
  clear hK K
  have X101 := Lib.hid (alloc_below w2 (.cells #[.slice A2 n2 c2] 23))
  have P101 := Lib.hid (lit_parts1' (g := w2.heap.size) w2 RB2.out rfl)
  generalize w2.alloc (.cells #[.slice A2 n2 c2] 23) = w101 at *
  try simp only [Act.put, List.setIfInBounds_toArray, List.set_cons_zero, List.set_cons_succ]
  have W101 := Lib.hid (W2.out.trans (X101.out.mono W2.out.size))
  have G101 := Lib.hid (G2.out.below (X101.out.mono (Nat.le_refl _)) G2.out.size)
  have RB101 := Lib.hid (RB2.out.below (X101.out))
  have RC101 := Lib.hid (RC2.out.below (X101.out))
  clear W2 G2 RB2 RC2 
  clear X101
  refine wpAny_ready (rs := [2]) (by kernel_rfl) (by simp) ?_
  refine AllReady.cons (o := ?o4) ?ho4 (fun K hK => ?_) AllReady.nil
  case ho4 => simp only [List.getElem?_toArray, List.getElem?_cons_succ, List.getElem?_cons_zero]; rfl
  go_simp
  refine (shaSum_any G101.out P101.out (by omega) (by rw [one, N2.out]; omega)).mono ?_
  rintro e w102 ⟨D102, rfl, hS, hX⟩
  rw [one] at hS
  have SB := Lib.hid hS
  clear hS
  clear P101
  have W102 := Lib.hid (W101.out.trans (hX.mono W101.out.size))
  have G102 := Lib.hid (G101.out.below (hX.mono (Nat.le_refl _)) G101.out.size)
  have RB102 := Lib.hid (RB101.out.below (hX))
  have RC102 := Lib.hid (RC101.out.below (hX))
  clear W101 G101 RB101 RC101 
  clear hX
  refine hK _ _ ?_
  clear hK K
  try simp only [Act.put, List.setIfInBounds_toArray, List.set_cons_zero, List.set_cons_succ]
  refine wpAny_ready (rs := [4]) (by kernel_rfl) (by simp) ?_
  refine AllReady.cons (o := ?o5) ?ho5 (fun K hK => ?_) AllReady.nil
  case ho5 => simp only [List.getElem?_toArray, List.getElem?_cons_succ, List.getElem?_cons_zero]; rfl
  go_simp
  refine (rsum_any RB102.out (by omega)).mono ?_
  rintro e w103 ⟨D103, rfl, hS, hX⟩
  obtain rfl := SB.out.uniq hS
  clear hS
  have hqb := fun W => SB.out.self W
  have W103 := Lib.hid (W102.out.trans (hX.mono W102.out.size))
  have G103 := Lib.hid (G102.out.below (hX.mono (Nat.le_refl _)) G102.out.size)
  have RB103 := Lib.hid (RB102.out.below (hX))
  have RC103 := Lib.hid (RC102.out.below (hX))
  clear W102 G102 RB102 RC102 
  clear hX
  refine hK _ _ ?_
  clear hK K
  try simp only [Act.put, List.setIfInBounds_toArray, List.set_cons_zero, List.set_cons_succ]
  refine wpAny_take (i := 5) (oi := ?oi6) (v := .bool true) ?hi6 (by kernel_rfl) (by kernel_rfl) (by kernel_rfl) ?hQ6 ?hy6 ?rest6
  case hi6 => simp only [List.getElem?_toArray, List.getElem?_cons_succ, List.getElem?_cons_zero]; rfl
  case hQ6 => exact fun _ _ _ h => h
  case hy6 => exact Or.inl ⟨by rfl, by intro w; go_simp⟩
  try simp only [Act.put, List.setIfInBounds_toArray, List.set_cons_zero, List.set_cons_succ]
  refine wpAny_take (i := 6) (oi := ?oi7) (v := .bool true) ?hi7 (by kernel_rfl) (by kernel_rfl) (by kernel_rfl) ?hQ7 ?hy7 ?rest7
  case hi7 => simp only [List.getElem?_toArray, List.getElem?_cons_succ, List.getElem?_cons_zero]; rfl
  case hQ7 => exact fun _ _ _ h => h
  case hy7 => exact Or.inl ⟨by rfl, by intro w; go_simp⟩
  try simp only [Act.put, List.setIfInBounds_toArray, List.set_cons_zero, List.set_cons_succ]
  refine wpAny_take (i := 7) (oi := ?oi8) (v := .slice (some ⟨g, 0, none⟩) n2 c11) ?hi8 (by kernel_rfl) (by kernel_rfl) (by kernel_rfl) ?hQ8 ?hy8 ?rest8
  case hi8 => simp only [List.getElem?_toArray, List.getElem?_cons_succ, List.getElem?_cons_zero]; rfl
  case hQ8 => exact fun _ _ _ h => h
  case hy8 => exact Or.inl ⟨by rfl, by intro w; go_simp⟩
  try simp only [Act.put, List.setIfInBounds_toArray, List.set_cons_zero, List.set_cons_succ]
  refine wpAny_take (i := 10) (oi := ?oi9) (v := .slice (some ⟨g, 0, none⟩) n2 c11) ?hi9 (by kernel_rfl) (by kernel_rfl) (by kernel_rfl) ?hQ9 ?hy9 ?rest9
  case hi9 => simp only [List.getElem?_toArray, List.getElem?_cons_succ, List.getElem?_cons_zero]; rfl
  case hQ9 => exact fun _ _ _ h => h
  case hy9 => exact Or.inl ⟨by rfl, by intro w; go_simp⟩
  try simp only [Act.put, List.setIfInBounds_toArray, List.set_cons_zero, List.set_cons_succ]
  refine wpAny_ready (rs := [8]) (by kernel_rfl) (by simp) ?_
  refine AllReady.cons (o := ?o10) ?ho10 (fun K hK => ?_) AllReady.nil
  case ho10 => simp only [List.getElem?_toArray, List.getElem?_cons_succ, List.getElem?_cons_zero]; rfl
  go_simp
  refine hK _ _ ?_
  clear hK K
  have X104 := Lib.hid (alloc_below w103 (.cells #[.slice (some ⟨g, 0, none⟩) n2 c11] 23))
  have P104 := Lib.hid (lit_parts1' (g := w103.heap.size) w103 RC103.out rfl)
  generalize w103.alloc (.cells #[.slice (some ⟨g, 0, none⟩) n2 c11] 23) = w104 at *
  try simp only [Act.put, List.setIfInBounds_toArray, List.set_cons_zero, List.set_cons_succ]
  have W104 := Lib.hid (W103.out.trans (X104.out.mono W103.out.size))
  have G104 := Lib.hid (G103.out.below (X104.out.mono (Nat.le_refl _)) G103.out.size)
  have RB104 := Lib.hid (RB103.out.below (X104.out))
  have RC104 := Lib.hid (RC103.out.below (X104.out))
  clear W103 G103 RB103 RC103 
  clear X104
  refine wpAny_ready (rs := [9]) (by kernel_rfl) (by simp) ?_
  refine AllReady.cons (o := ?o11) ?ho11 (fun K hK => ?_) AllReady.nil
  case ho11 => simp only [List.getElem?_toArray, List.getElem?_cons_succ, List.getElem?_cons_zero]; rfl
  go_simp
  refine (shaSum_any G104.out P104.out (by omega) (by rw [one, N3.out]; omega)).mono ?_
  rintro e w105 ⟨D105, rfl, hS, hX⟩
  rw [one] at hS
  have SC := Lib.hid hS
  clear hS
  clear P104
  have W105 := Lib.hid (W104.out.trans (hX.mono W104.out.size))
  have G105 := Lib.hid (G104.out.below (hX.mono (Nat.le_refl _)) G104.out.size)
  have RB105 := Lib.hid (RB104.out.below (hX))
  have RC105 := Lib.hid (RC104.out.below (hX))
  clear W104 G104 RB104 RC104 
  clear hX
  refine hK _ _ ?_
  clear hK K
  try simp only [Act.put, List.setIfInBounds_toArray, List.set_cons_zero, List.set_cons_succ]
  refine wpAny_ready (rs := [11]) (by kernel_rfl) (by simp) ?_
  refine AllReady.cons (o := ?o12) ?ho12 (fun K hK => ?_) AllReady.nil
  case ho12 => simp only [List.getElem?_toArray, List.getElem?_cons_succ, List.getElem?_cons_zero]; rfl
  go_simp
  refine (rsum_any RC105.out (by omega)).mono ?_
  rintro e w106 ⟨D106, rfl, hS, hX⟩
  obtain rfl := SC.out.uniq hS
  clear hS
  have hqc := fun W => SC.out.self W
  have W106 := Lib.hid (W105.out.trans (hX.mono W105.out.size))
  have G106 := Lib.hid (G105.out.below (hX.mono (Nat.le_refl _)) G105.out.size)
  have RB106 := Lib.hid (RB105.out.below (hX))
  have RC106 := Lib.hid (RC105.out.below (hX))
  clear W105 G105 RB105 RC105 
  clear hX
  refine hK _ _ ?_
  clear hK K
  try simp only [Act.put, List.setIfInBounds_toArray, List.set_cons_zero, List.set_cons_succ]
  have hqn := fun W => two_sums SB.out SC.out W
  refine wpAny_take (i := 12) (oi := ?oi13) (v := .bool true) ?hi13 (by kernel_rfl) (by kernel_rfl) (by kernel_rfl) ?hQ13 ?hy13 ?rest13
  case hi13 => simp only [List.getElem?_toArray, List.getElem?_cons_succ, List.getElem?_cons_zero]; rfl
  case hQ13 => exact fun _ _ _ h => h
  case hy13 => exact Or.inl ⟨by rfl, by intro w; go_simp⟩
  try simp only [Act.put, List.setIfInBounds_toArray, List.set_cons_zero, List.set_cons_succ]
  refine wpAny_take (i := 13) (oi := ?oi14) (v := .bool true) ?hi14 (by kernel_rfl) (by kernel_rfl) (by kernel_rfl) ?hQ14 ?hy14 ?rest14
  case hi14 => simp only [List.getElem?_toArray, List.getElem?_cons_succ, List.getElem?_cons_zero]; rfl
  case hQ14 => exact fun _ _ _ h => h
  case hy14 => exact Or.inl ⟨by rfl, by intro w; go_simp⟩
  try simp only [Act.put, List.setIfInBounds_toArray, List.set_cons_zero, List.set_cons_succ]
  refine wpAny_take (i := 14) (oi := ?oi15) (v := .bool true) ?hi15 (by kernel_rfl) (by kernel_rfl) (by kernel_rfl) ?hQ15 ?hy15 ?rest15
  case hi15 => simp only [List.getElem?_toArray, List.getElem?_cons_succ, List.getElem?_cons_zero]; rfl
  case hQ15 => exact fun _ _ _ h => h
  case hy15 => exact Or.inl ⟨by rfl, by intro w; go_simp⟩
  try simp only [Act.put, List.setIfInBounds_toArray, List.set_cons_zero, List.set_cons_succ]
  refine wpAny_take (i := 15) (oi := ?oi16) (v := .slice A2 n2 c2) ?hi16 (by kernel_rfl) (by kernel_rfl) (by kernel_rfl) ?hQ16 ?hy16 ?rest16
  case hi16 => simp only [List.getElem?_toArray, List.getElem?_cons_succ, List.getElem?_cons_zero]; rfl
  case hQ16 => exact fun _ _ _ h => h
  case hy16 => exact Or.inl ⟨by rfl, by intro w; go_simp⟩
  try simp only [Act.put, List.setIfInBounds_toArray, List.set_cons_zero, List.set_cons_succ]
  refine wpAny_take (i := 18) (oi := ?oi17) (v := .slice (some ⟨g, 0, none⟩) n2 c11) ?hi17 (by kernel_rfl) (by kernel_rfl) (by kernel_rfl) ?hQ17 ?hy17 ?rest17
  case hi17 => simp only [List.getElem?_toArray, List.getElem?_cons_succ, List.getElem?_cons_zero]; rfl
  case hQ17 => exact fun _ _ _ h => h
  case hy17 => exact Or.inl ⟨by rfl, by intro w; go_simp⟩
  try simp only [Act.put, List.setIfInBounds_toArray, List.set_cons_zero, List.set_cons_succ]
  refine wpAny_take (i := 22) (oi := ?oi18) (v := .slice A2 n2 c2) ?hi18 (by kernel_rfl) (by kernel_rfl) (by kernel_rfl) ?hQ18 ?hy18 ?rest18
  case hi18 => simp only [List.getElem?_toArray, List.getElem?_cons_succ, List.getElem?_cons_zero]; rfl
  case hQ18 => exact fun _ _ _ h => h
  case hy18 => exact Or.inl ⟨by rfl, by intro w; go_simp⟩
  try simp only [Act.put, List.setIfInBounds_toArray, List.set_cons_zero, List.set_cons_succ]
  refine wpAny_take (i := 24) (oi := ?oi19) (v := .slice (some ⟨g, 0, none⟩) n2 c11) ?hi19 (by kernel_rfl) (by kernel_rfl) (by kernel_rfl) ?hQ19 ?hy19 ?rest19
  case hi19 => simp only [List.getElem?_toArray, List.getElem?_cons_succ, List.getElem?_cons_zero]; rfl
  case hQ19 => exact fun _ _ _ h => h
  case hy19 => exact Or.inl ⟨by rfl, by intro w; go_simp⟩
  try simp only [Act.put, List.setIfInBounds_toArray, List.set_cons_zero, List.set_cons_succ]
  refine wpAny_ready (rs := [16, 19]) (by kernel_rfl) (by simp) ?_
  refine AllReady.cons (o := ?o20) ?ho20 (fun K hK => ?_) ?more20
  case ho20 => simp only [List.getElem?_toArray, List.getElem?_cons_succ, List.getElem?_cons_zero]; rfl
  · go_simp
    refine hK _ _ ?_
    clear hK K
    have X107 := Lib.hid (alloc_below w106 (.cells #[.slice A2 n2 c2] 23))
    have PB107 := Lib.hid (lit_parts1' (g := w106.heap.size) w106 RB106.out rfl)
    generalize w106.alloc (.cells #[.slice A2 n2 c2] 23) = w107 at *
    try simp only [Act.put, List.setIfInBounds_toArray, List.set_cons_zero, List.set_cons_succ]
    have W107 := Lib.hid (W106.out.trans (X107.out.mono W106.out.size))
    have G107 := Lib.hid (G106.out.below (X107.out.mono (Nat.le_refl _)) G106.out.size)
    have RB107 := Lib.hid (RB106.out.below (X107.out))
    have RC107 := Lib.hid (RC106.out.below (X107.out))
    clear W106 G106 RB106 RC106 
    clear X107
    refine wpAny_ready (rs := [17, 19]) (by kernel_rfl) (by simp) ?_
    refine AllReady.cons (o := ?o21) ?ho21 (fun K hK => ?_) ?more21
    case ho21 => simp only [List.getElem?_toArray, List.getElem?_cons_succ, List.getElem?_cons_zero]; rfl
    · go_simp
      refine (shaSum_any G107.out PB107.out (by omega) (by rw [one, N2.out]; omega)).mono ?_
      rintro e w108 ⟨D108, rfl, hS, hX⟩
      rw [one] at hS
      obtain rfl := SB.out.uniq hS
      clear hS
      clear PB107
      have W108 := Lib.hid (W107.out.trans (hX.mono W107.out.size))
      have G108 := Lib.hid (G107.out.below (hX.mono (Nat.le_refl _)) G107.out.size)
      have RB108 := Lib.hid (RB107.out.below (hX))
      have RC108 := Lib.hid (RC107.out.below (hX))
      clear W107 G107 RB107 RC107 
      clear hX
      refine hK _ _ ?_
      clear hK K
      try simp only [Act.put, List.setIfInBounds_toArray, List.set_cons_zero, List.set_cons_succ]
      refine wpAny_ready (rs := [19]) (by kernel_rfl) (by simp) ?_
      refine AllReady.cons (o := ?o22) ?ho22 (fun K hK => ?_) AllReady.nil
      case ho22 => simp only [List.getElem?_toArray, List.getElem?_cons_succ, List.getElem?_cons_zero]; rfl
      go_simp
      refine hK _ _ ?_
      clear hK K
      have X109 := Lib.hid (alloc_below w108 (.cells #[.slice (some ⟨g, 0, none⟩) n2 c11] 23))
      have PC109 := Lib.hid (lit_parts1' (g := w108.heap.size) w108 RC108.out rfl)
      generalize w108.alloc (.cells #[.slice (some ⟨g, 0, none⟩) n2 c11] 23) = w109 at *
      try simp only [Act.put, List.setIfInBounds_toArray, List.set_cons_zero, List.set_cons_succ]
      have W109 := Lib.hid (W108.out.trans (X109.out.mono W108.out.size))
      have G109 := Lib.hid (G108.out.below (X109.out.mono (Nat.le_refl _)) G108.out.size)
      have RB109 := Lib.hid (RB108.out.below (X109.out))
      have RC109 := Lib.hid (RC108.out.below (X109.out))
      clear W108 G108 RB108 RC108 
      clear X109
      refine wpAny_ready (rs := [20]) (by kernel_rfl) (by simp) ?_
      refine AllReady.cons (o := ?o23) ?ho23 (fun K hK => ?_) AllReady.nil
      case ho23 => simp only [List.getElem?_toArray, List.getElem?_cons_succ, List.getElem?_cons_zero]; rfl
      go_simp
      refine (shaSum_any G109.out PC109.out (by omega) (by rw [one, N3.out]; omega)).mono ?_
      rintro e w110 ⟨D110, rfl, hS, hX⟩
      rw [one] at hS
      obtain rfl := SC.out.uniq hS
      clear hS
      clear PC109
      have W110 := Lib.hid (W109.out.trans (hX.mono W109.out.size))
      have G110 := Lib.hid (G109.out.below (hX.mono (Nat.le_refl _)) G109.out.size)
      have RB110 := Lib.hid (RB109.out.below (hX))
      have RC110 := Lib.hid (RC109.out.below (hX))
      clear W109 G109 RB109 RC109 
      clear hX
      refine hK _ _ ?_
      clear hK K
      try simp only [Act.put, List.setIfInBounds_toArray, List.set_cons_zero, List.set_cons_succ]
      refine wpAny_take (i := 21) (oi := ?oi24) (v := .bool (!(sameB (Sha.sum l2) (Sha.sum l3)))) ?hi24 (by kernel_rfl) (by kernel_rfl) (by kernel_rfl) ?hQ24 ?hy24 ?rest24
      case hi24 => simp only [List.getElem?_toArray, List.getElem?_cons_succ, List.getElem?_cons_zero]; rfl
      case hQ24 => exact fun _ _ _ h => h
      case hy24 => exact Or.inl ⟨by rfl, by intro w; go_simp⟩
      try simp only [Act.put, List.setIfInBounds_toArray, List.set_cons_zero, List.set_cons_succ]
      refine wpAny_ready (rs := [23]) (by kernel_rfl) (by simp) ?_
      refine AllReady.cons (o := ?o25) ?ho25 (fun K hK => ?_) AllReady.nil
      case ho25 => simp only [List.getElem?_toArray, List.getElem?_cons_succ, List.getElem?_cons_zero]; rfl
      go_simp
      refine (rsum_any RB110.out (by omega)).mono ?_
      rintro e w111 ⟨D111, rfl, hS, hX⟩
      obtain rfl := SB.out.uniq hS
      clear hS
      have W111 := Lib.hid (W110.out.trans (hX.mono W110.out.size))
      have G111 := Lib.hid (G110.out.below (hX.mono (Nat.le_refl _)) G110.out.size)
      have RB111 := Lib.hid (RB110.out.below (hX))
      have RC111 := Lib.hid (RC110.out.below (hX))
      clear W110 G110 RB110 RC110 
      clear hX
      refine hK _ _ ?_
      clear hK K
      try simp only [Act.put, List.setIfInBounds_toArray, List.set_cons_zero, List.set_cons_succ]
      refine wpAny_ready (rs := [25]) (by kernel_rfl) (by simp) ?_
      refine AllReady.cons (o := ?o26) ?ho26 (fun K hK => ?_) AllReady.nil
      case ho26 => simp only [List.getElem?_toArray, List.getElem?_cons_succ, List.getElem?_cons_zero]; rfl
      go_simp
      refine (rsum_any RC111.out (by omega)).mono ?_
      rintro e w112 ⟨D112, rfl, hS, hX⟩
      obtain rfl := SC.out.uniq hS
      clear hS
      have W112 := Lib.hid (W111.out.trans (hX.mono W111.out.size))
      have G112 := Lib.hid (G111.out.below (hX.mono (Nat.le_refl _)) G111.out.size)
      have RB112 := Lib.hid (RB111.out.below (hX))
      have RC112 := Lib.hid (RC111.out.below (hX))
      clear W111 G111 RB111 RC111 
      clear hX
      refine hK _ _ ?_
      clear hK K
      try simp only [Act.put, List.setIfInBounds_toArray, List.set_cons_zero, List.set_cons_succ]
      refine wpAny_take (i := 26) (oi := ?oi27) (v := .bool (!(sameB (Sha.sum l2) (Sha.sum l3)))) ?hi27 (by kernel_rfl) (by kernel_rfl) (by kernel_rfl) ?hQ27 ?hy27 ?rest27
      case hi27 => simp only [List.getElem?_toArray, List.getElem?_cons_succ, List.getElem?_cons_zero]; rfl
      case hQ27 => exact fun _ _ _ h => h
      case hy27 => exact Or.inl ⟨by rfl, by intro w; go_simp⟩
      try simp only [Act.put, List.setIfInBounds_toArray, List.set_cons_zero, List.set_cons_succ]
      refine wpAny_take (i := 27) (oi := ?oi28) (v := .bool true) ?hi28 (by kernel_rfl) (by kernel_rfl) (by kernel_rfl) ?hQ28 ?hy28 ?rest28
      case hi28 => simp only [List.getElem?_toArray, List.getElem?_cons_succ, List.getElem?_cons_zero]; rfl
      case hQ28 => exact fun _ _ _ h => h
      case hy28 => exact Or.inl ⟨by rfl, by intro w; go_simp⟩
      try simp only [Act.put, List.setIfInBounds_toArray, List.set_cons_zero, List.set_cons_succ]
      refine wpAny_take (i := 28) (oi := ?oi29) (v := .bool true) ?hi29 (by kernel_rfl) (by kernel_rfl) (by kernel_rfl) ?hQ29 ?hy29 ?rest29
      case hi29 => simp only [List.getElem?_toArray, List.getElem?_cons_succ, List.getElem?_cons_zero]; rfl
      case hQ29 => exact fun _ _ _ h => h
      case hy29 => exact Or.inl ⟨by rfl, by intro w; go_simp⟩
      try simp only [Act.put, List.setIfInBounds_toArray, List.set_cons_zero, List.set_cons_succ]
      refine wpAny_take (i := 29) (oi := ?oi30) (v := .bool true) ?hi30 (by kernel_rfl) (by kernel_rfl) (by kernel_rfl) ?hQ30 ?hy30 ?rest30
      case hi30 => simp only [List.getElem?_toArray, List.getElem?_cons_succ, List.getElem?_cons_zero]; rfl
      case hQ30 => exact fun _ _ _ h => h
      case hy30 => exact Or.inl ⟨by rfl, by intro w; go_simp⟩
      try simp only [Act.put, List.setIfInBounds_toArray, List.set_cons_zero, List.set_cons_succ]
      refine wpAny_done (by kernel_rfl) ?_ _
      clear hqb hqc hqn
      go_wp2_with fail
      go_ret
      exact ⟨rfl, W112.out⟩
    refine AllReady.cons (o := ?o31) ?ho31 (fun K hK => ?_) AllReady.nil
    case ho31 => simp only [List.getElem?_toArray, List.getElem?_cons_succ, List.getElem?_cons_zero]; rfl
    go_simp
    refine hK _ _ ?_
    clear hK K
    have X113 := Lib.hid (alloc_below w107 (.cells #[.slice (some ⟨g, 0, none⟩) n2 c11] 23))
    have PC113 := Lib.hid (lit_parts1' (g := w107.heap.size) w107 RC107.out rfl)
    generalize w107.alloc (.cells #[.slice (some ⟨g, 0, none⟩) n2 c11] 23) = w113 at *
    try simp only [Act.put, List.setIfInBounds_toArray, List.set_cons_zero, List.set_cons_succ]
    have W113 := Lib.hid (W107.out.trans (X113.out.mono W107.out.size))
    have G113 := Lib.hid (G107.out.below (X113.out.mono (Nat.le_refl _)) G107.out.size)
    have RB113 := Lib.hid (RB107.out.below (X113.out))
    have RC113 := Lib.hid (RC107.out.below (X113.out))
    have PB113 := Lib.hid (PB107.out.below (X113.out))
    clear W107 G107 RB107 RC107 PB107
    clear X113
    refine wpAny_ready (rs := [17]) (by kernel_rfl) (by simp) ?_
    refine AllReady.cons (o := ?o32) ?ho32 (fun K hK => ?_) AllReady.nil
    case ho32 => simp only [List.getElem?_toArray, List.getElem?_cons_succ, List.getElem?_cons_zero]; rfl
    go_simp
    refine (shaSum_any G113.out PB113.out (by omega) (by rw [one, N2.out]; omega)).mono ?_
    rintro e w114 ⟨D114, rfl, hS, hX⟩
    rw [one] at hS
    obtain rfl := SB.out.uniq hS
    clear hS
    clear PB113
    have W114 := Lib.hid (W113.out.trans (hX.mono W113.out.size))
    have G114 := Lib.hid (G113.out.below (hX.mono (Nat.le_refl _)) G113.out.size)
    have RB114 := Lib.hid (RB113.out.below (hX))
    have RC114 := Lib.hid (RC113.out.below (hX))
    have PC114 := Lib.hid (PC113.out.below (hX))
    clear W113 G113 RB113 RC113 PC113
    clear hX
    refine hK _ _ ?_
    clear hK K
    try simp only [Act.put, List.setIfInBounds_toArray, List.set_cons_zero, List.set_cons_succ]
    refine wpAny_ready (rs := [20]) (by kernel_rfl) (by simp) ?_
    refine AllReady.cons (o := ?o33) ?ho33 (fun K hK => ?_) AllReady.nil
    case ho33 => simp only [List.getElem?_toArray, List.getElem?_cons_succ, List.getElem?_cons_zero]; rfl
    go_simp
    refine (shaSum_any G114.out PC114.out (by omega) (by rw [one, N3.out]; omega)).mono ?_
    rintro e w115 ⟨D115, rfl, hS, hX⟩
    rw [one] at hS
    obtain rfl := SC.out.uniq hS
    clear hS
    clear PC114
    have W115 := Lib.hid (W114.out.trans (hX.mono W114.out.size))
    have G115 := Lib.hid (G114.out.below (hX.mono (Nat.le_refl _)) G114.out.size)
    have RB115 := Lib.hid (RB114.out.below (hX))
    have RC115 := Lib.hid (RC114.out.below (hX))
    clear W114 G114 RB114 RC114 
    clear hX
    refine hK _ _ ?_
    clear hK K
    try simp only [Act.put, List.setIfInBounds_toArray, List.set_cons_zero, List.set_cons_succ]
    refine wpAny_take (i := 21) (oi := ?oi34) (v := .bool (!(sameB (Sha.sum l2) (Sha.sum l3)))) ?hi34 (by kernel_rfl) (by kernel_rfl) (by kernel_rfl) ?hQ34 ?hy34 ?rest34
    case hi34 => simp only [List.getElem?_toArray, List.getElem?_cons_succ, List.getElem?_cons_zero]; rfl
    case hQ34 => exact fun _ _ _ h => h
    case hy34 => exact Or.inl ⟨by rfl, by intro w; go_simp⟩
    try simp only [Act.put, List.setIfInBounds_toArray, List.set_cons_zero, List.set_cons_succ]
    refine wpAny_ready (rs := [23]) (by kernel_rfl) (by simp) ?_
    refine AllReady.cons (o := ?o35) ?ho35 (fun K hK => ?_) AllReady.nil
    case ho35 => simp only [List.getElem?_toArray, List.getElem?_cons_succ, List.getElem?_cons_zero]; rfl
    go_simp
    refine (rsum_any RB115.out (by omega)).mono ?_
    rintro e w116 ⟨D116, rfl, hS, hX⟩
    obtain rfl := SB.out.uniq hS
    clear hS
    have W116 := Lib.hid (W115.out.trans (hX.mono W115.out.size))
    have G116 := Lib.hid (G115.out.below (hX.mono (Nat.le_refl _)) G115.out.size)
    have RB116 := Lib.hid (RB115.out.below (hX))
    have RC116 := Lib.hid (RC115.out.below (hX))
    clear W115 G115 RB115 RC115 
    clear hX
    refine hK _ _ ?_
    clear hK K
    try simp only [Act.put, List.setIfInBounds_toArray, List.set_cons_zero, List.set_cons_succ]
    refine wpAny_ready (rs := [25]) (by kernel_rfl) (by simp) ?_
    refine AllReady.cons (o := ?o36) ?ho36 (fun K hK => ?_) AllReady.nil
    case ho36 => simp only [List.getElem?_toArray, List.getElem?_cons_succ, List.getElem?_cons_zero]; rfl
    go_simp
    refine (rsum_any RC116.out (by omega)).mono ?_
    rintro e w117 ⟨D117, rfl, hS, hX⟩
    obtain rfl := SC.out.uniq hS
    clear hS
    have W117 := Lib.hid (W116.out.trans (hX.mono W116.out.size))
    have G117 := Lib.hid (G116.out.below (hX.mono (Nat.le_refl _)) G116.out.size)
    have RB117 := Lib.hid (RB116.out.below (hX))
    have RC117 := Lib.hid (RC116.out.below (hX))
    clear W116 G116 RB116 RC116 
    clear hX
    refine hK _ _ ?_
    clear hK K
    try simp only [Act.put, List.setIfInBounds_toArray, List.set_cons_zero, List.set_cons_succ]
    refine wpAny_take (i := 26) (oi := ?oi37) (v := .bool (!(sameB (Sha.sum l2) (Sha.sum l3)))) ?hi37 (by kernel_rfl) (by kernel_rfl) (by kernel_rfl) ?hQ37 ?hy37 ?rest37
    case hi37 => simp only [List.getElem?_toArray, List.getElem?_cons_succ, List.getElem?_cons_zero]; rfl
    case hQ37 => exact fun _ _ _ h => h
    case hy37 => exact Or.inl ⟨by rfl, by intro w; go_simp⟩
    try simp only [Act.put, List.setIfInBounds_toArray, List.set_cons_zero, List.set_cons_succ]
    refine wpAny_take (i := 27) (oi := ?oi38) (v := .bool true) ?hi38 (by kernel_rfl) (by kernel_rfl) (by kernel_rfl) ?hQ38 ?hy38 ?rest38
    case hi38 => simp only [List.getElem?_toArray, List.getElem?_cons_succ, List.getElem?_cons_zero]; rfl
    case hQ38 => exact fun _ _ _ h => h
    case hy38 => exact Or.inl ⟨by rfl, by intro w; go_simp⟩
    try simp only [Act.put, List.setIfInBounds_toArray, List.set_cons_zero, List.set_cons_succ]
    refine wpAny_take (i := 28) (oi := ?oi39) (v := .bool true) ?hi39 (by kernel_rfl) (by kernel_rfl) (by kernel_rfl) ?hQ39 ?hy39 ?rest39
    case hi39 => simp only [List.getElem?_toArray, List.getElem?_cons_succ, List.getElem?_cons_zero]; rfl
    case hQ39 => exact fun _ _ _ h => h
    case hy39 => exact Or.inl ⟨by rfl, by intro w; go_simp⟩
    try simp only [Act.put, List.setIfInBounds_toArray, List.set_cons_zero, List.set_cons_succ]
    refine wpAny_take (i := 29) (oi := ?oi40) (v := .bool true) ?hi40 (by kernel_rfl) (by kernel_rfl) (by kernel_rfl) ?hQ40 ?hy40 ?rest40
    case hi40 => simp only [List.getElem?_toArray, List.getElem?_cons_succ, List.getElem?_cons_zero]; rfl
    case hQ40 => exact fun _ _ _ h => h
    case hy40 => exact Or.inl ⟨by rfl, by intro w; go_simp⟩
    try simp only [Act.put, List.setIfInBounds_toArray, List.set_cons_zero, List.set_cons_succ]
    refine wpAny_done (by kernel_rfl) ?_ _
    clear hqb hqc hqn
    go_wp2_with fail
    go_ret
    exact ⟨rfl, W117.out⟩
  refine AllReady.cons (o := ?o41) ?ho41 (fun K hK => ?_) AllReady.nil
  case ho41 => simp only [List.getElem?_toArray, List.getElem?_cons_succ, List.getElem?_cons_zero]; rfl
  go_simp
  refine hK _ _ ?_
  clear hK K
  have X118 := Lib.hid (alloc_below w106 (.cells #[.slice (some ⟨g, 0, none⟩) n2 c11] 23))
  have PC118 := Lib.hid (lit_parts1' (g := w106.heap.size) w106 RC106.out rfl)
  generalize w106.alloc (.cells #[.slice (some ⟨g, 0, none⟩) n2 c11] 23) = w118 at *
  try simp only [Act.put, List.setIfInBounds_toArray, List.set_cons_zero, List.set_cons_succ]
  have W118 := Lib.hid (W106.out.trans (X118.out.mono W106.out.size))
  have G118 := Lib.hid (G106.out.below (X118.out.mono (Nat.le_refl _)) G106.out.size)
  have RB118 := Lib.hid (RB106.out.below (X118.out))
  have RC118 := Lib.hid (RC106.out.below (X118.out))
  clear W106 G106 RB106 RC106 
  clear X118
  refine wpAny_ready (rs := [16]) (by kernel_rfl) (by simp) ?_
  refine AllReady.cons (o := ?o42) ?ho42 (fun K hK => ?_) AllReady.nil
  case ho42 => simp only [List.getElem?_toArray, List.getElem?_cons_succ, List.getElem?_cons_zero]; rfl
  go_simp
  refine hK _ _ ?_
  clear hK K
  have X119 := Lib.hid (alloc_below w118 (.cells #[.slice A2 n2 c2] 23))
  have PB119 := Lib.hid (lit_parts1' (g := w118.heap.size) w118 RB118.out rfl)
  generalize w118.alloc (.cells #[.slice A2 n2 c2] 23) = w119 at *
  try simp only [Act.put, List.setIfInBounds_toArray, List.set_cons_zero, List.set_cons_succ]
  have W119 := Lib.hid (W118.out.trans (X119.out.mono W118.out.size))
  have G119 := Lib.hid (G118.out.below (X119.out.mono (Nat.le_refl _)) G118.out.size)
  have RB119 := Lib.hid (RB118.out.below (X119.out))
  have RC119 := Lib.hid (RC118.out.below (X119.out))
  have PC119 := Lib.hid (PC118.out.below (X119.out))
  clear W118 G118 RB118 RC118 PC118
  clear X119
  refine wpAny_ready (rs := [17]) (by kernel_rfl) (by simp) ?_
  refine AllReady.cons (o := ?o43) ?ho43 (fun K hK => ?_) AllReady.nil
  case ho43 => simp only [List.getElem?_toArray, List.getElem?_cons_succ, List.getElem?_cons_zero]; rfl
  go_simp
  refine (shaSum_any G119.out PB119.out (by omega) (by rw [one, N2.out]; omega)).mono ?_
  rintro e w120 ⟨D120, rfl, hS, hX⟩
  rw [one] at hS
  obtain rfl := SB.out.uniq hS
  clear hS
  clear PB119
  have W120 := Lib.hid (W119.out.trans (hX.mono W119.out.size))
  have G120 := Lib.hid (G119.out.below (hX.mono (Nat.le_refl _)) G119.out.size)
  have RB120 := Lib.hid (RB119.out.below (hX))
  have RC120 := Lib.hid (RC119.out.below (hX))
  have PC120 := Lib.hid (PC119.out.below (hX))
  clear W119 G119 RB119 RC119 PC119
  clear hX
  refine hK _ _ ?_
  clear hK K
  try simp only [Act.put, List.setIfInBounds_toArray, List.set_cons_zero, List.set_cons_succ]
  refine wpAny_ready (rs := [20]) (by kernel_rfl) (by simp) ?_
  refine AllReady.cons (o := ?o44) ?ho44 (fun K hK => ?_) AllReady.nil
  case ho44 => simp only [List.getElem?_toArray, List.getElem?_cons_succ, List.getElem?_cons_zero]; rfl
  go_simp
  refine (shaSum_any G120.out PC120.out (by omega) (by rw [one, N3.out]; omega)).mono ?_
  rintro e w121 ⟨D121, rfl, hS, hX⟩
  rw [one] at hS
  obtain rfl := SC.out.uniq hS
  clear hS
  clear PC120
  have W121 := Lib.hid (W120.out.trans (hX.mono W120.out.size))
  have G121 := Lib.hid (G120.out.below (hX.mono (Nat.le_refl _)) G120.out.size)
  have RB121 := Lib.hid (RB120.out.below (hX))
  have RC121 := Lib.hid (RC120.out.below (hX))
  clear W120 G120 RB120 RC120 
  clear hX
  refine hK _ _ ?_
  clear hK K
  try simp only [Act.put, List.setIfInBounds_toArray, List.set_cons_zero, List.set_cons_succ]
  refine wpAny_take (i := 21) (oi := ?oi45) (v := .bool (!(sameB (Sha.sum l2) (Sha.sum l3)))) ?hi45 (by kernel_rfl) (by kernel_rfl) (by kernel_rfl) ?hQ45 ?hy45 ?rest45
  case hi45 => simp only [List.getElem?_toArray, List.getElem?_cons_succ, List.getElem?_cons_zero]; rfl
  case hQ45 => exact fun _ _ _ h => h
  case hy45 => exact Or.inl ⟨by rfl, by intro w; go_simp⟩
  try simp only [Act.put, List.setIfInBounds_toArray, List.set_cons_zero, List.set_cons_succ]
  refine wpAny_ready (rs := [23]) (by kernel_rfl) (by simp) ?_
  refine AllReady.cons (o := ?o46) ?ho46 (fun K hK => ?_) AllReady.nil
  case ho46 => simp only [List.getElem?_toArray, List.getElem?_cons_succ, List.getElem?_cons_zero]; rfl
  go_simp
  refine (rsum_any RB121.out (by omega)).mono ?_
  rintro e w122 ⟨D122, rfl, hS, hX⟩
  obtain rfl := SB.out.uniq hS
  clear hS
  have W122 := Lib.hid (W121.out.trans (hX.mono W121.out.size))
  have G122 := Lib.hid (G121.out.below (hX.mono (Nat.le_refl _)) G121.out.size)
  have RB122 := Lib.hid (RB121.out.below (hX))
  have RC122 := Lib.hid (RC121.out.below (hX))
  clear W121 G121 RB121 RC121 
  clear hX
  refine hK _ _ ?_
  clear hK K
  try simp only [Act.put, List.setIfInBounds_toArray, List.set_cons_zero, List.set_cons_succ]
  refine wpAny_ready (rs := [25]) (by kernel_rfl) (by simp) ?_
  refine AllReady.cons (o := ?o47) ?ho47 (fun K hK => ?_) AllReady.nil
  case ho47 => simp only [List.getElem?_toArray, List.getElem?_cons_succ, List.getElem?_cons_zero]; rfl
  go_simp
  refine (rsum_any RC122.out (by omega)).mono ?_
  rintro e w123 ⟨D123, rfl, hS, hX⟩
  obtain rfl := SC.out.uniq hS
  clear hS
  have W123 := Lib.hid (W122.out.trans (hX.mono W122.out.size))
  have G123 := Lib.hid (G122.out.below (hX.mono (Nat.le_refl _)) G122.out.size)
  have RB123 := Lib.hid (RB122.out.below (hX))
  have RC123 := Lib.hid (RC122.out.below (hX))
  clear W122 G122 RB122 RC122 
  clear hX
  refine hK _ _ ?_
  clear hK K
  try simp only [Act.put, List.setIfInBounds_toArray, List.set_cons_zero, List.set_cons_succ]
  refine wpAny_take (i := 26) (oi := ?oi48) (v := .bool (!(sameB (Sha.sum l2) (Sha.sum l3)))) ?hi48 (by kernel_rfl) (by kernel_rfl) (by kernel_rfl) ?hQ48 ?hy48 ?rest48
  case hi48 => simp only [List.getElem?_toArray, List.getElem?_cons_succ, List.getElem?_cons_zero]; rfl
  case hQ48 => exact fun _ _ _ h => h
  case hy48 => exact Or.inl ⟨by rfl, by intro w; go_simp⟩
  try simp only [Act.put, List.setIfInBounds_toArray, List.set_cons_zero, List.set_cons_succ]
  refine wpAny_take (i := 27) (oi := ?oi49) (v := .bool true) ?hi49 (by kernel_rfl) (by kernel_rfl) (by kernel_rfl) ?hQ49 ?hy49 ?rest49
  case hi49 => simp only [List.getElem?_toArray, List.getElem?_cons_succ, List.getElem?_cons_zero]; rfl
  case hQ49 => exact fun _ _ _ h => h
  case hy49 => exact Or.inl ⟨by rfl, by intro w; go_simp⟩
  try simp only [Act.put, List.setIfInBounds_toArray, List.set_cons_zero, List.set_cons_succ]
  refine wpAny_take (i := 28) (oi := ?oi50) (v := .bool true) ?hi50 (by kernel_rfl) (by kernel_rfl) (by kernel_rfl) ?hQ50 ?hy50 ?rest50
  case hi50 => simp only [List.getElem?_toArray, List.getElem?_cons_succ, List.getElem?_cons_zero]; rfl
  case hQ50 => exact fun _ _ _ h => h
  case hy50 => exact Or.inl ⟨by rfl, by intro w; go_simp⟩
  try simp only [Act.put, List.setIfInBounds_toArray, List.set_cons_zero, List.set_cons_succ]
  refine wpAny_take (i := 29) (oi := ?oi51) (v := .bool true) ?hi51 (by kernel_rfl) (by kernel_rfl) (by kernel_rfl) ?hQ51 ?hy51 ?rest51
  case hi51 => simp only [List.getElem?_toArray, List.getElem?_cons_succ, List.getElem?_cons_zero]; rfl
  case hQ51 => exact fun _ _ _ h => h
  case hy51 => exact Or.inl ⟨by rfl, by intro w; go_simp⟩
  try simp only [Act.put, List.setIfInBounds_toArray, List.set_cons_zero, List.set_cons_succ]
  refine wpAny_done (by kernel_rfl) ?_ _
  clear hqb hqc hqn
  go_wp2_with fail
  go_ret
  exact ⟨rfl, W123.out⟩

set_option maxRecDepth 100000 in
theorem lifted (os : Os) (started : os.Started) (H : Type) (enc : TypeId × Value → H) :
    ReturnsInHanded {} Tryd.checked os 12 .any (fun w args => (Rows.shaUnlikeSpec.pre enc Tryd.prog Tryd.f12 [] false w args ∧ laidMetH Tryd.prog laid2 w) ∧ sizedMet enc Tryd.prog Tryd.f12 (OpenSpec.ofChange Rows.shaUnlikeSpec) false w args)
      (Rows.shaUnlikeSpec.post enc Tryd.prog Tryd.f12 false true false false) := by
  refine returnsInHanded_of_change_and (C := Tryd.checked) (X := fun w _ => laidMetH Tryd.prog laid2 w) (fun _ _ _ hh h => h.of_heap hh) own started (by kernel_rfl) Tryd.func12
    (ChangeSpec.witness_shaped (enc := enc) (C := Tryd.checked) (os := os) (X := fun w _ => laidMetH Tryd.prog laid2 w) false (World.doorLaid Tryd.prog 400 os) #[.slice none 0 0, .int .i64 0] 8 rfl (World.shaped_of_RefB (by kernel_rfl) (by kernel_rfl)) (by kernel_rfl) (by kernel_rfl) (by kernel_rfl) (door_met os _)) ?_
  intro W base args ds gs before hval0 hW _ _ hL _
  have hval : ∀ (j : Nat) t v, Tryd.f12.params[j]? = some t → args[j]? = some v → Value.okWide Tryd.prog W .any base t v := hval0
  have hW' := hW
  obtain ⟨p, q, hA0, hV, rfl, hfz, hnd⟩ := hW
  have hA : DataW.TrodAll enc Tryd.prog W 0 (fun _ => true) true Tryd.f12.params.toList args.toList ds p := hA0
  rw [Tryd.params12] at hA hval
  have hG := gl_of_laid hL
  obtain ⟨v0, vs0, d0, ds0, p0, q0, hargs, rfl, rfl, h0, r0⟩ := trodAll_cons hA
  obtain ⟨v1, vs1, d1, ds1, p1, q1, rfl, rfl, rfl, h1, r1⟩ := trodAll_cons r0
  obtain ⟨rfl, rfl, rfl⟩ := trodAll_nil r1
  obtain rfl : args = #[v0, v1] := by cases args; simp_all
  obtain ⟨rfl, rfl⟩ := trodVars_none hV
  obtain ⟨a0, len0, cap0, rfl⟩ := okWide_slice Tryd.underlying23 (hval 0 23 v0 rfl rfl)
  have k0 := h0
  have lt0 : ∀ x ∈ p0, x.block < W.heap.size := by obtain ⟨m, hm⟩ := k0; exact DataW.trod_lt m _ _ _ hm
  obtain ⟨l0, hr0⟩ : ∃ l, Rd W a0 len0 cap0 l := by
    obtain ⟨fuel, hf⟩ := h0
    rcases open_ints Tryd.underlying23 Tryd.underlying5 (by kernel_rfl) hf with ⟨hcs, _⟩ | ⟨x, l, c, zs, hcs, _, hl, hm, hz, _, hcell, hwz⟩
    · simp [Value.cells] at hcs
      obtain ⟨rfl, rfl, rfl⟩ := hcs
      exact rd_came (zs := []) (.inl ⟨rfl, rfl, rfl, rfl⟩)
    · simp [Value.cells] at hcs
      obtain ⟨rfl, rfl, rfl⟩ := hcs
      exact rd_came (.inr ⟨_, rfl, hl, hm, by simpa using hz, hcell, hwz⟩)
  obtain ⟨a1, rfl, rfl, rfl, w1⟩ := open_int Tryd.underlying3 (hval 1 3 v1 rfl rfl) h1
  clear hA0 hval0
  refine (walk a1 W hG hr0).mono fun e W' ⟨he, bel⟩ => ?_
  subst he
  exact ⟨_, rfl, _, _, _, [], _, [], hW', trodAll_mk1 (shut_bool Tryd.underlying4 _), (trodAll_cons_mk (Below.trod laidOut (by kernel_rfl) (of_decide_eq_true (by kernel_rfl)) k0 bel lt0) (trodAll_cons_mk (shut_int Tryd.underlying3 w1) trodAll_mk0)), rfl, bel.frame _, fun h => by cases h⟩

theorem over : Rows.shaUnlikeRow.holds Tryd.pinned (OpenSpec.ofChange Rows.shaUnlikeSpec) :=
  OpenClaim.holds_of_wide 12 Tryd.f12 rfl rfl rfl rfl rfl rfl rfl ⟨rfl, rfl, rfl, rfl, rfl⟩ rfl rfl rfl rfl rfl (by kernel_rfl) Tryd.func12 (by kernel_rfl)
    (of_decide_eq_true (by kernel_rfl)) (by unfold Func.isWrapper; first | (rw [if_pos (by decide +kernel)]; kernel_rfl) | (rw [if_neg (by decide +kernel)]; exact ⟨rfl, rfl⟩))
    (fun os started H enc _ => lifted os started H enc)
end Go.Proofs.YtbepofmkfloajaaDoor.shaUnlike
namespace Go.Proofs.YtbepofmkfloajaaDoor
theorem shaUnlike_card : Rows.ShaUnlikeCardSaid :=
  Claim7.holds_tied_plain_at .later [] [.data, .data] true (true, "ac81aa9bd4a0dec26816718b789ea913be61d5e2860e2b9353823b24d89e6bc9") false
    shaUnlike.over (fun _ h => by cases h) (by kernel_rfl) (fun _ h => by cases h) shaUnlike_row_tie rfl ⟨rfl, rfl⟩ (by kernel_rfl) rfl
    (fun f fn hf hfn => by
      obtain rfl : f = 12 := Option.some.inj ((show Tryd.prog.funcNamed Tryd.f12.name = some 12 by kernel_rfl).symm.trans hf) |>.symm
      obtain rfl : fn = Tryd.f12 := (Option.some.inj (Tryd.func12.symm.trans hfn)).symm
      exact ⟨by kernel_rfl, fun j t ht => by
        rw [Tryd.params12] at ht
        have hm : t ∈ [23, 3] := by simpa using Array.mem_of_getElem? ht
        have hall : (([23, 3] : List TypeId).all fun u => !Tryd.prog.wantsStandIn u) = true := by kernel_rfl
        exact (show Tryd.prog.wantsStandIn t = false by simpa using List.all_eq_true.1 hall t hm)⟩)
    (by kernel_rfl)
#print axioms shaUnlike_card
end Go.Proofs.YtbepofmkfloajaaDoor
