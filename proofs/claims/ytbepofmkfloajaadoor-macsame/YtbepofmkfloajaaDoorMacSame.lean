/-
  PROVED: for all a, b, at and x the law MacSame answers true (Same tells whether the bytes are the same, and as many). CONDITIONS: none beyond the card's own.
-/
import Derived.Test.YtbepofmkfloajaaDoorConv
import Derived.Test.YtbepofmkfloajaaDoorApart
import Derived.Test.YtbepofmkfloajaaDoorTie
import Derived.Test.YtbepofmkfloajaaDoorCards
import Derived.OpenShut
import Derived.Stop.Joined
import Derived.SevenTiedAt
namespace Go.Proofs.YtbepofmkfloajaaDoor.macSame
open Go.ChangeShapes Go.WideShapes Go.ChangeAt Go.RowKit
set_option linter.unusedVariables false
set_option linter.unusedSimpArgs false

theorem sameB_eq (l r : List UInt8) : sameB l r = (l == r) := by unfold sameB; by_cases h : l = r <;> simp [h]
theorem same_turn (l : List UInt8) (k : Nat) (y z : UInt8) (h : k < l.length) (hz : z = l.getD k 0) : sameB l (l.set k (z ^^^ y)) = ((y.toNat : Int) == 0) := by
  have ez : z = l[k] := by rw [hz]; simp [List.getD_eq_getElem?_getD, List.getElem?_eq_getElem h]
  by_cases hy : y = 0
  · subst hy
    have e : l.set k (z ^^^ 0) = l := by rw [UInt8.xor_zero, ez]; exact List.set_getElem_self h
    rw [e, sameB_self]
    rfl
  · have hne : l ≠ l.set k (z ^^^ y) := fun e => by
      have e1 : l[k]? = (l.set k (z ^^^ y))[k]? := congrArg (fun q : List UInt8 => q[k]?) e
      rw [List.getElem?_eq_getElem h, List.getElem?_set_self h, ← ez] at e1
      injection e1 with e1
      apply hy
      have e2 : z ^^^ z = z ^^^ (z ^^^ y) := congrArg (fun q => z ^^^ q) e1
      rw [UInt8.xor_self, ← UInt8.xor_assoc, UInt8.xor_self, UInt8.zero_xor] at e2
      exact e2.symm
    have h1 : sameB l (l.set k (z ^^^ y)) = false := by simp [sameB, hne]
    rw [h1]
    symm
    rw [beq_eq_false_iff_ne]
    intro e
    apply hy
    have e' : y.toNat = 0 := by omega
    exact UInt8.toNat_inj.1 (by rw [e']; rfl)
theorem same_longer (l : List UInt8) : sameB l (l ++ [0]) = false := by simp [sameB]

set_option maxRecDepth 100000 in
set_option maxHeartbeats 4000000 in
theorem walk {A0 A1 : Option Addr} {n0 c0 n1 c1 : Nat} {x0 x1 : List UInt8} (at_ : Int) (y : UInt8) (w : World) (hg : Gl w) (hr0 : Rd w A0 n0 c0 x0) (hr1 : Rd w A1 n1 c1 x1) :
    Calls Tryd.prog 10 #[.slice A0 n0 c0, .slice A1 n1 c1, .int .i64 at_, .int .u8 (y.toNat : Int)] w fun e w' => e = .returned (.bool true) ∧ Below w.heap.size w w' := by
  have HG := Lib.hid hg
  have hsz := hg.size
  have R0 := Lib.hid hr0
  have R1 := Lib.hid hr1
  clear hg hr0 hr1
  go_enter Tryd.func10, Tryd.ntmps10
  go_wp2_with (go_at_call 15; refine (begun_any HG.out).mono ?_; rintro e w1 ⟨rfl, HB⟩; have W1 := Lib.hid HB; clear HB)
  refine (short_any 60 (R0.out.below W1.out) (by omega)).mono ?_
  rintro e w' ⟨A2, n2, c2, rfl, hr2, rfl⟩
  have R2 := Lib.hid hr2
  clear hr2
  go_wp2_with fail
  refine (short_any 60 (R1.out.below W1.out) (by omega)).mono ?_
  rintro e w' ⟨A3, n3, c3, rfl, hr3, rfl⟩
  have R3 := Lib.hid hr3
  have hl2 : n2 ≤ 60 := by rw [← R2.out.len, List.length_take]; omega
  have hl3 : n3 ≤ 60 := by rw [← hr3.len, List.length_take]; omega
  clear hr3 R0 R1
  obtain ⟨l2, hl2e⟩ : ∃ l, l = x0.take 60 := ⟨_, rfl⟩
  obtain ⟨l3, hl3e⟩ : ∃ l, l = x1.take 60 := ⟨_, rfl⟩
  rw [← hl2e] at R2
  rw [← hl3e] at R3
  clear hl2e hl3e
  have N2 := Lib.hid R2.out.len
  have N3 := Lib.hid R3.out.len
  have hs1 := W1.out.size
  go_upto_region 6 with (first | (at_builtin; refine onto_law rfl _ _ rfl rfl rfl R2.out (Ow.empty _ w1.heap.size) (by simp; omega) (Nat.le_refl _) (Below.refl _ _) ?_; intro v4 w4 O4 X4))
  rw [List.nil_append] at O4
  obtain ⟨A4, c4, rfl, hr4, hg4⟩ := O4.out.value
  rw [N2.out] at hr4 hg4 O4
  rw [N2.out]
  have hs4 := X4.out.size
  have hs4' : w4.heap.size ≤ w4.drew.heap.size := Nat.le_refl _
  have X5 : Hid (Below w1.heap.size w1 w4.drew) := X4.out.drew
  have O5 : Hid (Ow w4.drew w1.heap.size (.slice A4 n2 c4) l2) := O4.out.keep ((Below.refl w4.heap.size w4).drew)
  have R25 : Hid (Rd w4.drew A2 n2 c2 l2) := R2.out.below X5.out
  have R35 : Hid (Rd w4.drew A3 n3 c3 l3) := R3.out.below X5.out
  have R45 : Hid (Rd w4.drew A4 n2 c4 l2) := hr4.drew
  have cv2 := conv_bytes R25.out
  have cv3 := conv_bytes R35.out
  have hne : ((l2 == l3) != (l2 == l3)) = false := by simp
  have hne2 : ((l2 == l3) == (l2 == l3)) = true := by simp
  clear hr4 hg4 O4 X4
  refine wp_region_held_drew (S := fun W : World => (convert 23 9 (.slice A2 n2 c2)).run Tryd.prog W = .ok (.string ⟨l2.toArray⟩) W ∧ (convert 23 9 (.slice A3 n3 c3)).run Tryd.prog W = .ok (.string ⟨l3.toArray⟩) W) (by kernel_rfl) ⟨cv2, cv3⟩ (fun hHeld => ?_)
  clear cv2 cv3
  generalize w4.drew = w5 at *
  refine wpAnyH_take (i := 0) (oi := ?oi1) (v := .slice A2 n2 c2) ?hi1 (by kernel_rfl) (by kernel_rfl) (by kernel_rfl) ?hQ1 ?hy1 hHeld ?rest1
  case hi1 => simp only [List.getElem?_toArray, List.getElem?_cons_succ, List.getElem?_cons_zero]; rfl
  case hQ1 => exact fun _ _ _ h => h
  case hy1 => exact Or.inl ⟨by rfl, by intro w hSw; (try dsimp only at hSw); go_simp⟩
  try simp only [Act.put, List.setIfInBounds_toArray, List.set_cons_zero, List.set_cons_succ]
  refine wpAnyH_take (i := 1) (oi := ?oi2) (v := .slice A3 n3 c3) ?hi2 (by kernel_rfl) (by kernel_rfl) (by kernel_rfl) ?hQ2 ?hy2 hHeld ?rest2
  case hi2 => simp only [List.getElem?_toArray, List.getElem?_cons_succ, List.getElem?_cons_zero]; rfl
  case hQ2 => exact fun _ _ _ h => h
  case hy2 => exact Or.inl ⟨by rfl, by intro w hSw; (try dsimp only at hSw); go_simp⟩
  try simp only [Act.put, List.setIfInBounds_toArray, List.set_cons_zero, List.set_cons_succ]
  refine wpAnyH_take (i := 3) (oi := ?oi3) (v := .slice A2 n2 c2) ?hi3 (by kernel_rfl) (by kernel_rfl) (by kernel_rfl) ?hQ3 ?hy3 hHeld ?rest3
  case hi3 => simp only [List.getElem?_toArray, List.getElem?_cons_succ, List.getElem?_cons_zero]; rfl
  case hQ3 => exact fun _ _ _ h => h
  case hy3 => exact Or.inl ⟨by rfl, by intro w hSw; (try dsimp only at hSw); go_simp⟩
  try simp only [Act.put, List.setIfInBounds_toArray, List.set_cons_zero, List.set_cons_succ]
  refine wpAnyH_take (i := 4) (oi := ?oi4) (v := .string ⟨l2.toArray⟩) ?hi4 (by kernel_rfl) (by kernel_rfl) (by kernel_rfl) ?hQ4 ?hy4 hHeld ?rest4
  case hi4 => simp only [List.getElem?_toArray, List.getElem?_cons_succ, List.getElem?_cons_zero]; rfl
  case hQ4 => exact fun _ _ _ h => h
  case hy4 => exact Or.inl ⟨by rfl, by intro w hSw; have e1 := hSw.1; have e2 := hSw.2; clear hSw; go_simp⟩
  try simp only [Act.put, List.setIfInBounds_toArray, List.set_cons_zero, List.set_cons_succ]
  refine wpAnyH_take (i := 5) (oi := ?oi5) (v := .slice A3 n3 c3) ?hi5 (by kernel_rfl) (by kernel_rfl) (by kernel_rfl) ?hQ5 ?hy5 hHeld ?rest5
  case hi5 => simp only [List.getElem?_toArray, List.getElem?_cons_succ, List.getElem?_cons_zero]; rfl
  case hQ5 => exact fun _ _ _ h => h
  case hy5 => exact Or.inl ⟨by rfl, by intro w hSw; (try dsimp only at hSw); go_simp⟩
  try simp only [Act.put, List.setIfInBounds_toArray, List.set_cons_zero, List.set_cons_succ]
  refine wpAnyH_take (i := 6) (oi := ?oi6) (v := .string ⟨l3.toArray⟩) ?hi6 (by kernel_rfl) (by kernel_rfl) (by kernel_rfl) ?hQ6 ?hy6 hHeld ?rest6
  case hi6 => simp only [List.getElem?_toArray, List.getElem?_cons_succ, List.getElem?_cons_zero]; rfl
  case hQ6 => exact fun _ _ _ h => h
  case hy6 => exact Or.inl ⟨by rfl, by intro w hSw; have e1 := hSw.1; have e2 := hSw.2; clear hSw; go_simp⟩
  try simp only [Act.put, List.setIfInBounds_toArray, List.set_cons_zero, List.set_cons_succ]
  refine wpAnyH_take (i := 7) (oi := ?oi7) (v := .bool (l2 == l3)) ?hi7 (by kernel_rfl) (by kernel_rfl) (by kernel_rfl) ?hQ7 ?hy7 hHeld ?rest7
  case hi7 => simp only [List.getElem?_toArray, List.getElem?_cons_succ, List.getElem?_cons_zero]; rfl
  case hQ7 => exact fun _ _ _ h => h
  case hy7 => exact Or.inl ⟨by rfl, by intro w hSw; (try dsimp only at hSw); go_simp⟩
  try simp only [Act.put, List.setIfInBounds_toArray, List.set_cons_zero, List.set_cons_succ]
  refine wpAnyH_ready (rs := [2]) (by kernel_rfl) (by simp) ?_
  refine AllReadyH.cons (o := ?o8) ?ho8 (fun K hK => ?_) AllReadyH.nil
  case ho8 => simp only [List.getElem?_toArray, List.getElem?_cons_succ, List.getElem?_cons_zero]; rfl
  have hsm := Lib.hid (same_any R25.out R35.out)
  rw [sameB_eq] at hsm
  go_simp
  refine hsm.out.mono ?_
  rintro e w6 ⟨rfl, hX6⟩
  have R26 := Lib.hid (R25.out.below hX6)
  have R36 := Lib.hid (R35.out.below hX6)
  have R46 := Lib.hid (R45.out.below hX6)
  have O6 := Lib.hid (O5.out.keep hX6)
  have X6 := Lib.hid (X5.out.trans (hX6.mono X5.out.size))
  have hs6 := hX6.size
  clear hX6 R25 R35 R45 O5 X5 hsm
  refine hK.out _ _ ⟨conv_bytes R26.out, conv_bytes R36.out⟩ (fun hHeld => ?_)
  clear hK K
  try simp only [Act.put, List.setIfInBounds_toArray, List.set_cons_zero, List.set_cons_succ]
  refine wpAnyH_take (i := 8) (oi := ?oi9) (v := .bool false) ?hi9 (by kernel_rfl) (by kernel_rfl) (by kernel_rfl) ?hQ9 ?hy9 hHeld ?rest9
  case hi9 => simp only [List.getElem?_toArray, List.getElem?_cons_succ, List.getElem?_cons_zero]; rfl
  case hQ9 => exact fun _ _ _ h => h
  case hy9 => exact Or.inl ⟨by rfl, by intro w hSw; (try dsimp only at hSw); go_simp⟩
  try simp only [Act.put, List.setIfInBounds_toArray, List.set_cons_zero, List.set_cons_succ]
  refine wpAnyH_take (i := 9) (oi := ?oi10) (v := .bool false) ?hi10 (by kernel_rfl) (by kernel_rfl) (by kernel_rfl) ?hQ10 ?hy10 hHeld ?rest10
  case hi10 => simp only [List.getElem?_toArray, List.getElem?_cons_succ, List.getElem?_cons_zero]; rfl
  case hQ10 => exact fun _ _ _ h => h
  case hy10 => exact Or.inl ⟨by rfl, by intro w hSw; (try dsimp only at hSw); go_simp⟩
  try simp only [Act.put, List.setIfInBounds_toArray, List.set_cons_zero, List.set_cons_succ]
  refine wpAnyH_take (i := 10) (oi := ?oi11) (v := .slice A2 n2 c2) ?hi11 (by kernel_rfl) (by kernel_rfl) (by kernel_rfl) ?hQ11 ?hy11 hHeld ?rest11
  case hi11 => simp only [List.getElem?_toArray, List.getElem?_cons_succ, List.getElem?_cons_zero]; rfl
  case hQ11 => exact fun _ _ _ h => h
  case hy11 => exact Or.inl ⟨by rfl, by intro w hSw; (try dsimp only at hSw); go_simp⟩
  try simp only [Act.put, List.setIfInBounds_toArray, List.set_cons_zero, List.set_cons_succ]
  refine wpAnyH_take (i := 11) (oi := ?oi12) (v := .slice A4 n2 c4) ?hi12 (by kernel_rfl) (by kernel_rfl) (by kernel_rfl) ?hQ12 ?hy12 hHeld ?rest12
  case hi12 => simp only [List.getElem?_toArray, List.getElem?_cons_succ, List.getElem?_cons_zero]; rfl
  case hQ12 => exact fun _ _ _ h => h
  case hy12 => exact Or.inl ⟨by rfl, by intro w hSw; (try dsimp only at hSw); go_simp⟩
  try simp only [Act.put, List.setIfInBounds_toArray, List.set_cons_zero, List.set_cons_succ]
  refine wpAnyH_ready (rs := [12]) (by kernel_rfl) (by simp) ?_
  refine AllReadyH.cons (o := ?o13) ?ho13 (fun K hK => ?_) AllReadyH.nil
  case ho13 => simp only [List.getElem?_toArray, List.getElem?_cons_succ, List.getElem?_cons_zero]; rfl
  have hsm := Lib.hid (same_any R26.out R46.out)
  rw [sameB_self] at hsm
  go_simp
  refine hsm.out.mono ?_
  rintro e w7 ⟨rfl, hX7⟩
  have R27 := Lib.hid (R26.out.below hX7)
  have R37 := Lib.hid (R36.out.below hX7)
  have O7 := Lib.hid (O6.out.keep hX7)
  have X7 := Lib.hid (X6.out.trans (hX7.mono X6.out.size))
  have hs7 := hX7.size
  clear hX7 R26 R36 R46 O6 X6 hsm
  refine hK.out _ _ ⟨conv_bytes R27.out, conv_bytes R37.out⟩ (fun hHeld => ?_)
  clear hK K hne hne2
  try simp only [Act.put, List.setIfInBounds_toArray, List.set_cons_zero, List.set_cons_succ]
  refine wpAnyH_take (i := 13) (oi := ?oi14) (v := .bool false) ?hi14 (by kernel_rfl) (by kernel_rfl) (by kernel_rfl) ?hQ14 ?hy14 hHeld ?rest14
  case hi14 => simp only [List.getElem?_toArray, List.getElem?_cons_succ, List.getElem?_cons_zero]; rfl
  case hQ14 => exact fun _ _ _ h => h
  case hy14 => exact Or.inl ⟨by rfl, by intro w hSw; (try dsimp only at hSw); go_simp⟩
  try simp only [Act.put, List.setIfInBounds_toArray, List.set_cons_zero, List.set_cons_succ]
  refine wpAnyH_take (i := 14) (oi := ?oi15) (v := .bool false) ?hi15 (by kernel_rfl) (by kernel_rfl) (by kernel_rfl) ?hQ15 ?hy15 hHeld ?rest15
  case hi15 => simp only [List.getElem?_toArray, List.getElem?_cons_succ, List.getElem?_cons_zero]; rfl
  case hQ15 => exact fun _ _ _ h => h
  case hy15 => exact Or.inl ⟨by rfl, by intro w hSw; (try dsimp only at hSw); go_simp⟩
  try simp only [Act.put, List.setIfInBounds_toArray, List.set_cons_zero, List.set_cons_succ]
  refine wpAnyH_take (i := 15) (oi := ?oi16) (v := .bool false) ?hi16 (by kernel_rfl) (by kernel_rfl) (by kernel_rfl) ?hQ16 ?hy16 hHeld ?rest16
  case hi16 => simp only [List.getElem?_toArray, List.getElem?_cons_succ, List.getElem?_cons_zero]; rfl
  case hQ16 => exact fun _ _ _ h => h
  case hy16 => exact Or.inl ⟨by rfl, by intro w hSw; (try dsimp only at hSw); go_simp⟩
  try simp only [Act.put, List.setIfInBounds_toArray, List.set_cons_zero, List.set_cons_succ]
  refine wpAnyH_take (i := 16) (oi := ?oi17) (v := .slice A2 n2 c2) ?hi17 (by kernel_rfl) (by kernel_rfl) (by kernel_rfl) ?hQ17 ?hy17 hHeld ?rest17
  case hi17 => simp only [List.getElem?_toArray, List.getElem?_cons_succ, List.getElem?_cons_zero]; rfl
  case hQ17 => exact fun _ _ _ h => h
  case hy17 => exact Or.inl ⟨by rfl, by intro w hSw; (try dsimp only at hSw); go_simp⟩
  try simp only [Act.put, List.setIfInBounds_toArray, List.set_cons_zero, List.set_cons_succ]
  refine wpAnyH_take (i := 17) (oi := ?oi18) (v := .slice A4 n2 c4) ?hi18 (by kernel_rfl) (by kernel_rfl) (by kernel_rfl) ?hQ18 ?hy18 hHeld ?rest18
  case hi18 => simp only [List.getElem?_toArray, List.getElem?_cons_succ, List.getElem?_cons_zero]; rfl
  case hQ18 => exact fun _ _ _ h => h
  case hy18 => exact Or.inl ⟨by rfl, by intro w hSw; (try dsimp only at hSw); go_simp⟩
  try simp only [Act.put, List.setIfInBounds_toArray, List.set_cons_zero, List.set_cons_succ]
  refine wpAnyH_ready (rs := [18]) (by kernel_rfl) (by simp) ?_
  refine AllReadyH.cons (o := ?o19) ?ho19 (fun K hK => ?_) AllReadyH.nil
  case ho19 => simp only [List.getElem?_toArray, List.getElem?_cons_succ, List.getElem?_cons_zero]; rfl
  go_simp
  have hX8 := alloc_below w7 (.cells #[.int .u8 0] 5)
  have L8 := Lib.hid (lit_bytes1 w7 0)
  have R28 := Lib.hid (R27.out.below hX8)
  have R38 := Lib.hid (R37.out.below hX8)
  have O8 := Lib.hid (O7.out.keep hX8)
  have X8 := Lib.hid (X7.out.trans (hX8.mono X7.out.size))
  have hs8 := hX8.size
  clear hX8 R27 R37 O7 X7
  refine hK.out _ _ ⟨conv_bytes R28.out, conv_bytes R38.out⟩ (fun hHeld => ?_)
  clear hK K
  try simp only [Act.put, List.setIfInBounds_toArray, List.set_cons_zero, List.set_cons_succ]
  refine wpAnyH_ready (rs := [19]) (by kernel_rfl) (by simp) ?_
  refine AllReadyH.cons (o := ?o20) ?ho20 (fun K hK => ?_) AllReadyH.nil
  case ho20 => simp only [List.getElem?_toArray, List.getElem?_cons_succ, List.getElem?_cons_zero]; rfl
  refine step_app (by rfl) (.tmp 37) (.tmp 38) rfl rfl rfl L8.out O8.out (by have := N2.out; omega) (by omega) (by omega) X8.out ?_
  intro v9 w9 O9 X9 Q9 Q9'
  have R29 := Lib.hid (R2.out.below X9.out)
  have R39 := Lib.hid (R3.out.below X9.out)
  have hs9 := X9.out.size
  clear R28 R38 O8 X8 Q9 Q9'
  refine hK.out _ _ ⟨conv_bytes R29.out, conv_bytes R39.out⟩ (fun hHeld => ?_)
  clear hK K
  obtain ⟨A9, c9, rfl, hr9, _⟩ := O9.out.value
  have e9 : (l2 ++ [0]).length = n2 + 1 := by simp [N2.out]
  rw [e9] at hr9
  rw [e9]
  have R99 := Lib.hid hr9
  clear hr9 O9 e9
  try simp only [Act.put, List.setIfInBounds_toArray, List.set_cons_zero, List.set_cons_succ]
  refine wpAnyH_ready (rs := [20]) (by kernel_rfl) (by simp) ?_
  refine AllReadyH.cons (o := ?o21) ?ho21 (fun K hK => ?_) AllReadyH.nil
  case ho21 => simp only [List.getElem?_toArray, List.getElem?_cons_succ, List.getElem?_cons_zero]; rfl
  have hsm := Lib.hid (same_any R29.out R99.out)
  rw [same_longer] at hsm
  go_simp
  refine hsm.out.mono ?_
  rintro e w10 ⟨rfl, hX10⟩
  have R210 := Lib.hid (R29.out.below hX10)
  have R310 := Lib.hid (R39.out.below hX10)
  have X10 := Lib.hid (X9.out.trans (hX10.mono X9.out.size))
  have hs10 := hX10.size
  clear hX10 R29 R39 R99 X9 hsm
  refine hK.out _ _ ⟨conv_bytes R210.out, conv_bytes R310.out⟩ (fun hHeld => ?_)
  clear hK K
  try simp only [Act.put, List.setIfInBounds_toArray, List.set_cons_zero, List.set_cons_succ]
  refine wpAnyH_take (i := 21) (oi := ?oi22) (v := .bool false) ?hi22 (by kernel_rfl) (by kernel_rfl) (by kernel_rfl) ?hQ22 ?hy22 hHeld ?rest22
  case hi22 => simp only [List.getElem?_toArray, List.getElem?_cons_succ, List.getElem?_cons_zero]; rfl
  case hQ22 => exact fun _ _ _ h => h
  case hy22 => exact Or.inl ⟨by rfl, by intro w hSw; (try dsimp only at hSw); go_simp⟩
  try simp only [Act.put, List.setIfInBounds_toArray, List.set_cons_zero, List.set_cons_succ]
  refine wpAnyH_done (by kernel_rfl) ?_ _
  clear hHeld
  have W10 := Lib.hid (W1.out.trans (X10.out.mono hs1))
  by_cases h0 : n2 = 0
  · subst h0
    go_wp2_with fail
    go_ret
    exact ⟨rfl, W10.out⟩
  have he : ((n2 : Int) == 0) = false := by simp; omega
  by_cases h1 : at_ < 0
  · have hd : decide (at_ < 0) = true := by simpa using h1
    go_wp2_with fail
    go_ret
    exact ⟨rfl, W10.out⟩
  have hd : decide (at_ < 0) = false := by simpa using h1
  go_upto_region 11 with (first | (at_builtin; refine onto_law rfl _ _ rfl rfl rfl R210.out (Ow.empty _ w10.heap.size) (by simp; omega) (Nat.le_refl _) (Below.refl _ _) ?_; intro v11 w11 O11 X11))
  rw [List.nil_append] at O11
  obtain ⟨g, c11, cur, rfl, hgb, hB, hlc, hcm, hcells⟩ := own_blk O11.out (by rw [N2.out]; omega)
  rw [N2.out]
  obtain ⟨k, hk, hkl⟩ : ∃ k : Nat, at_.tmod (n2 : Int) = (k : Int) ∧ k < n2 := by
    refine ⟨at_.toNat % n2, ?_, Nat.mod_lt _ (by omega)⟩
    obtain ⟨q, rfl⟩ := Int.eq_ofNat_of_zero_le (show 0 ≤ at_ by omega)
    rfl
  obtain ⟨z, hz⟩ : ∃ z, z = l2.getD k 0 := ⟨_, rfl⟩
  have e0 : w11.cell? ⟨g, k, none⟩ = some (.int .u8 (z.toNat : Int)) := by rw [hB.cell, hcells k (by rw [N2.out]; exact hkl), hz]; rfl
  have f0 : w11.frozen? ⟨g, k, none⟩ = false := hB.frozen k
  have hxor := xor_cell z y
  have HZ := Lib.hid hz
  have RC := Lib.hid (rd_set (z ^^^ y) hB hlc hcm hcells (by rw [N2.out]; exact hkl))
  rw [N2.out] at RC
  have R212 := Lib.hid ((R210.out.below X11.out).below ((Below.refl w11.heap.size w11).drew))
  have W11 := Lib.hid (W10.out.trans (X11.out.mono W10.out.size))
  have hs11 := X11.out.size
  clear hz hB hcells hcm hlc O11
  go_wp2_with fail
  have hcv : (Value.int IntKind.u8 ((z.toNat ^^^ y.toNat : Nat) : Int)) = cellOf (z ^^^ y) := by unfold cellOf; rw [UInt8.toNat_xor]
  rw [hcv]
  have X12 := Lib.hid (X11.out.setCell (p := ⟨g, k, none⟩) hgb (cellOf (z ^^^ y)))
  have hsm := Lib.hid (same_any (R210.out.below X12.out) RC.out)
  rw [same_turn l2 k y z (by rw [N2.out]; exact hkl) HZ.out] at hsm
  have hbb : (((y.toNat : Int) == 0) == ((y.toNat : Int) == 0)) = true := by simp
  refine hsm.out.mono ?_
  rintro e w13 ⟨rfl, hX13⟩
  have W13 := Lib.hid ((W10.out.trans (X12.out.mono W10.out.size)).trans (hX13.mono (Nat.le_trans W10.out.size X12.out.size)))
  clear hX13 X12 hsm hcv RC R212
  go_wp2_with fail
  go_ret
  exact ⟨rfl, W13.out⟩

theorem walk_at {A0 A1 : Option Addr} {n0 c0 n1 c1 : Nat} {x0 x1 : List UInt8} (at_ x : Int) (hx : (Lit.int .u8 x).wf = true) (w : World) (hg : Gl w) (hr0 : Rd w A0 n0 c0 x0) (hr1 : Rd w A1 n1 c1 x1) :
    Calls Tryd.prog 10 #[.slice A0 n0 c0, .slice A1 n1 c1, .int .i64 at_, .int .u8 x] w fun e w' => e = .returned (.bool true) ∧ Below w.heap.size w w' := by
  have h : 0 ≤ x ∧ x ≤ 255 := by simpa [Lit.wf, IntKind.min, IntKind.max, IntKind.signed, IntKind.bits] using hx
  obtain ⟨n, rfl⟩ := Int.eq_ofNat_of_zero_le h.1
  have e : ((n : Nat) : Int) = ((UInt8.ofNat n).toNat : Int) := by simp; omega
  rw [e]
  exact walk at_ (UInt8.ofNat n) w hg hr0 hr1

set_option maxRecDepth 100000 in
theorem lifted (os : Os) (started : os.Started) (H : Type) (enc : TypeId × Value → H) :
    ReturnsInHanded {} Tryd.checked os 10 .any (fun w args => (Rows.macSameSpec.pre enc Tryd.prog Tryd.f10 [] false w args ∧ laidMetH Tryd.prog laid2 w) ∧ sizedMet enc Tryd.prog Tryd.f10 (OpenSpec.ofChange Rows.macSameSpec) false w args)
      (Rows.macSameSpec.post enc Tryd.prog Tryd.f10 false true false false) := by
  refine returnsInHanded_of_change_and (C := Tryd.checked) (X := fun w _ => laidMetH Tryd.prog laid2 w) (fun _ _ _ hh h => h.of_heap hh) own started (by kernel_rfl) Tryd.func10
    (ChangeSpec.witness_shaped (enc := enc) (C := Tryd.checked) (os := os) (X := fun w _ => laidMetH Tryd.prog laid2 w) false (World.doorLaid Tryd.prog 400 os) #[.slice none 0 0, .slice none 0 0, .int .i64 0, .int .u8 0] 8 rfl (World.shaped_of_RefB (by kernel_rfl) (by kernel_rfl)) (by kernel_rfl) (by kernel_rfl) (by kernel_rfl) (door_met os _)) ?_
  intro W base args ds gs before hval0 hW _ _ hL _
  have hval : ∀ (j : Nat) t v, Tryd.f10.params[j]? = some t → args[j]? = some v → Value.okWide Tryd.prog W .any base t v := hval0
  have hW' := hW
  obtain ⟨p, q, hA0, hV, rfl, hfz, hnd⟩ := hW
  have hA : DataW.TrodAll enc Tryd.prog W 0 (fun _ => true) true Tryd.f10.params.toList args.toList ds p := hA0
  rw [Tryd.params10] at hA hval
  have hG := gl_of_laid hL
  obtain ⟨v0, vs0, d0, ds0, p0, q0, hargs, rfl, rfl, h0, r0⟩ := trodAll_cons hA
  obtain ⟨v1, vs1, d1, ds1, p1, q1, rfl, rfl, rfl, h1, r1⟩ := trodAll_cons r0
  obtain ⟨v2, vs2, d2, ds2, p2, q2, rfl, rfl, rfl, h2, r2⟩ := trodAll_cons r1
  obtain ⟨v3, vs3, d3, ds3, p3, q3, rfl, rfl, rfl, h3, r3⟩ := trodAll_cons r2
  obtain ⟨rfl, rfl, rfl⟩ := trodAll_nil r3
  obtain rfl : args = #[v0, v1, v2, v3] := by cases args; simp_all
  obtain ⟨rfl, rfl⟩ := trodVars_none hV
  obtain ⟨a0, len0, cap0, rfl⟩ := okWide_slice Tryd.underlying23 (hval 0 23 v0 rfl rfl)
  have k0 := h0
  have lt0 : ∀ x ∈ p0, x.block < W.heap.size := by obtain ⟨m, hm⟩ := k0; exact DataW.trod_lt m _ _ _ hm
  obtain ⟨l0, hr0⟩ : ∃ l, Rd W a0 len0 cap0 l := by
    obtain ⟨fuel, hf⟩ := h0
    rcases open_ints Tryd.underlying23 Tryd.underlying5 (by kernel_rfl) hf with ⟨hcs, _⟩ | ⟨x, l, c, zs, hcs, _, hl, hm, hz, _, hcell, hwz⟩
    · simp [Value.cells] at hcs
      obtain ⟨rfl, rfl, rfl⟩ := hcs
      exact rd_came (zs := []) (.inl ⟨rfl, rfl, rfl, rfl⟩)
    · simp [Value.cells] at hcs
      obtain ⟨rfl, rfl, rfl⟩ := hcs
      exact rd_came (.inr ⟨_, rfl, hl, hm, by simpa using hz, hcell, hwz⟩)
  obtain ⟨a1, len1, cap1, rfl⟩ := okWide_slice Tryd.underlying23 (hval 1 23 v1 rfl rfl)
  have k1 := h1
  have lt1 : ∀ x ∈ p1, x.block < W.heap.size := by obtain ⟨m, hm⟩ := k1; exact DataW.trod_lt m _ _ _ hm
  obtain ⟨l1, hr1⟩ : ∃ l, Rd W a1 len1 cap1 l := by
    obtain ⟨fuel, hf⟩ := h1
    rcases open_ints Tryd.underlying23 Tryd.underlying5 (by kernel_rfl) hf with ⟨hcs, _⟩ | ⟨x, l, c, zs, hcs, _, hl, hm, hz, _, hcell, hwz⟩
    · simp [Value.cells] at hcs
      obtain ⟨rfl, rfl, rfl⟩ := hcs
      exact rd_came (zs := []) (.inl ⟨rfl, rfl, rfl, rfl⟩)
    · simp [Value.cells] at hcs
      obtain ⟨rfl, rfl, rfl⟩ := hcs
      exact rd_came (.inr ⟨_, rfl, hl, hm, by simpa using hz, hcell, hwz⟩)
  obtain ⟨a2, rfl, rfl, rfl, w2⟩ := open_int Tryd.underlying3 (hval 2 3 v2 rfl rfl) h2
  obtain ⟨a3, rfl, rfl, rfl, w3⟩ := open_int Tryd.underlying5 (hval 3 5 v3 rfl rfl) h3
  clear hA0 hval0
  refine (walk_at a2 a3 w3 W hG hr0 hr1).mono fun e W' ⟨he, bel⟩ => ?_
  subst he
  exact ⟨_, rfl, _, _, _, [], _, [], hW', trodAll_mk1 (shut_bool Tryd.underlying4 _), (trodAll_cons_mk (Below.trod laidOut (by kernel_rfl) (of_decide_eq_true (by kernel_rfl)) k0 bel lt0) (trodAll_cons_mk (Below.trod laidOut (by kernel_rfl) (of_decide_eq_true (by kernel_rfl)) k1 bel lt1) (trodAll_cons_mk (shut_int Tryd.underlying3 w2) (trodAll_cons_mk (shut_int Tryd.underlying5 w3) trodAll_mk0)))), rfl, bel.frame _, fun h => by cases h⟩

theorem over : Rows.macSameRow.holds Tryd.pinned (OpenSpec.ofChange Rows.macSameSpec) :=
  OpenClaim.holds_of_wide 10 Tryd.f10 rfl rfl rfl rfl rfl rfl rfl ⟨rfl, rfl, rfl, rfl, rfl⟩ rfl rfl rfl rfl rfl (by kernel_rfl) Tryd.func10 (by kernel_rfl)
    (of_decide_eq_true (by kernel_rfl)) (by unfold Func.isWrapper; first | (rw [if_pos (by decide +kernel)]; kernel_rfl) | (rw [if_neg (by decide +kernel)]; exact ⟨rfl, rfl⟩))
    (fun os started H enc _ => lifted os started H enc)
end Go.Proofs.YtbepofmkfloajaaDoor.macSame
namespace Go.Proofs.YtbepofmkfloajaaDoor
theorem macSame_card : Rows.MacSameCardSaid :=
  Claim7.holds_tied_plain_at .later [] [.data, .data] true (true, "ac81aa9bd4a0dec26816718b789ea913be61d5e2860e2b9353823b24d89e6bc9") false
    macSame.over (fun _ h => by cases h) (by kernel_rfl) (fun _ h => by cases h) macSame_row_tie rfl ⟨rfl, rfl⟩ (by kernel_rfl) rfl
    (fun f fn hf hfn => by
      obtain rfl : f = 10 := Option.some.inj ((show Tryd.prog.funcNamed Tryd.f10.name = some 10 by kernel_rfl).symm.trans hf) |>.symm
      obtain rfl : fn = Tryd.f10 := (Option.some.inj (Tryd.func10.symm.trans hfn)).symm
      exact ⟨by kernel_rfl, fun j t ht => by
        rw [Tryd.params10] at ht
        have hm : t ∈ [23, 23, 3, 5] := by simpa using Array.mem_of_getElem? ht
        have hall : (([23, 23, 3, 5] : List TypeId).all fun u => !Tryd.prog.wantsStandIn u) = true := by kernel_rfl
        exact (show Tryd.prog.wantsStandIn t = false by simpa using List.all_eq_true.1 hall t hm)⟩)
    (by kernel_rfl)
#print axioms macSame_card
end Go.Proofs.YtbepofmkfloajaaDoor
