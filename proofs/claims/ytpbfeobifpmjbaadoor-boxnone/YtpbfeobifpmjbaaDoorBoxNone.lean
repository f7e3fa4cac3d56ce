/- The walk of the law BoxNone: no box; numbers below nought; bytes beyond 3,000. -/
import Derived.Test.YtpbfeobifpmjbaaDoorBegun8
import Derived.Test.YtpbfeobifpmjbaaDoorBoxPc
namespace Go.Proofs.YtpbfeobifpmjbaaDoor.boxNone
set_option linter.unusedVariables false
set_option linter.unusedSimpArgs false
set_option maxRecDepth 100000
open Go.RowKit
/-- A key of one byte and noughts. -/
def key1 (x : UInt8) : List UInt8 := x :: List.replicate 31 0
theorem key1_length (x : UInt8) : (key1 x).length = 32 := by simp [key1]
theorem zeroBuilt : Tryd.prog.built 34 [] = some (zero32.map cellOf).toArray := by kernel_rfl

set_option maxRecDepth 100000 in
set_option maxHeartbeats 16000000 in
theorem walk {P : BxP} (hB : BoxOk P) (w : World) (hg : Gl w) : Calls Tryd.prog 5 #[] w fun e w' => e = .returned (.bool true) ∧ Below w.heap.size w w' := by
  have HG := Lib.hid hg
  have HB := Lib.hid hB
  have hsz := hg.size
  clear hg hB
  obtain ⟨ke, hke⟩ : ∃ k, k = key1 1 := ⟨_, rfl⟩
  have K32 : Hid (ke.length = 32) := by unfold Hid; rw [hke]; exact key1_length 1
  obtain ⟨kc, hkc⟩ : ∃ c, c = ke.map cellOf := ⟨_, rfl⟩
  have IK : Hid ((Tryd.prog.info? 34).map (·.size) = some kc.length) := by unfold Hid; rw [hkc, List.length_map, K32.out]; kernel_rfl
  have LK : Hid ((List.replicate 32 (Value.int .u8 0)).length = kc.length) := by unfold Hid; rw [hkc, List.length_map, K32.out]; rfl
  have OKC : Hid (∀ v ∈ kc, v.oneCell' = true) := by unfold Hid; rw [hkc]; exact cells_u8 _
  have BKC : Hid (Tryd.prog.built 34 [(0, .int .u8 1)] = some kc.toArray) := by unfold Hid; rw [hkc, hke]; kernel_rfl
  obtain ⟨zc, hzc⟩ : ∃ c, c = zero32.map cellOf := ⟨_, rfl⟩
  have BZC : Hid (Tryd.prog.built 34 [] = some zc.toArray) := by unfold Hid; rw [hzc]; exact zeroBuilt
  have EZ : Hid (∀ W, (Op.equalIn 10000 34 (.agg zc.toArray) (.agg zc.toArray)).run Tryd.prog W = .ok true W) := fun W => by rw [hzc, equal30 zero32 zero32 (by simp [zero32]) (by simp [zero32]), sameB_self]
  obtain ⟨Z16, hZ16⟩ : ∃ Z, Z = outC [] 16 := ⟨_, rfl⟩
  have MK16 : Hid (∀ W : World, (Instr.makeSlice 28 (.int .i64 16) (.int .i64 16)).run Tryd.prog W = .ok (.slice (some ⟨W.heap.size, 0, none⟩) 16 16) (W.alloc (.cells Z16.toArray 5))) := fun W => by rw [hZ16]; exact make_bytes 16 (by omega) W
  obtain ⟨Z3, hZ3⟩ : ∃ Z, Z = outC [] 3001 := ⟨_, rfl⟩
  have MK3 : Hid (∀ W : World, (Instr.makeSlice 28 (.int .i64 3001) (.int .i64 3001)).run Tryd.prog W = .ok (.slice (some ⟨W.heap.size, 0, none⟩) 3001 3001) (W.alloc (.cells Z3.toArray 5))) := fun W => by rw [hZ3]; exact make_bytes 3001 (by omega) W
  obtain ⟨lt, hlt⟩ : ∃ l, l = Tap.tape 1 0 16 := ⟨_, rfl⟩
  have LT : Hid (lt.length = 16) := by unfold Hid; rw [hlt, Tap.tape_length]
  have COZ : Hid (∀ (W : World), Calls Tryd.prog 13 #[.pointer none, .agg kc.toArray, .int .i64 1, .slice none 0 0, .slice none 0 0] W fun e w' => e = .returned (.tuple #[.slice none 0 0, .bool false]) ∧ Below W.heap.size W w') := fun W => by rw [hkc]; exact HB.out.opZ W ke 1 none none 0 0 0 0 K32.out
  have CON : Hid (∀ (W : World) (g : Nat) (st : Bx.St) (M : Nat → Prop) (A : Option Addr), P W g st M → Calls Tryd.prog 13 #[.pointer (some ⟨g, 0, none⟩), .agg kc.toArray, .int .i64 (-1), .slice none 0 0, .slice A 16 16] W fun e w' => e = .returned (.tuple #[.slice none 0 0, .bool false]) ∧ Below W.heap.size W w') := fun W g st M A h => by rw [hkc]; exact HB.out.opN ke (-1) none A 0 0 16 16 h K32.out (by omega)
  have CSZ : Hid (∀ (W : World), Calls Tryd.prog 12 #[.pointer none, .agg kc.toArray, .int .i64 1, .slice none 0 0, .slice none 0 0] W fun e w' => e = .returned (.slice none 0 0) ∧ Below W.heap.size W w') := fun W => by rw [hkc]; exact HB.out.slZ W ke 1 none none 0 0 0 0 K32.out
  have CMZ : Hid (∀ (W : World), Calls Tryd.prog 14 #[.pointer none, .agg kc.toArray, .slice none 0 0] W fun e w' => e = .returned (.agg zc.toArray) ∧ Below W.heap.size W w') := fun W => by rw [hkc, hzc]; exact HB.out.mkZ W ke none 0 0 K32.out
  have CIZ : Hid (∀ (W : World), Calls Tryd.prog 15 #[.pointer none, .agg kc.toArray, .slice none 0 0, .agg zc.toArray] W fun e w' => e = .returned (.bool false) ∧ Below W.heap.size W w') := fun W => by rw [hkc, hzc]; exact HB.out.isZ W ke zero32 none 0 0 K32.out (by simp [zero32])
  have CLZ : Hid (∀ (W : World), Calls Tryd.prog 16 #[.pointer none, .agg kc.toArray, .string ⟨#[97]⟩] W fun e w' => e = .returned (.agg zc.toArray) ∧ Below W.heap.size W w') := fun W => by rw [hkc, hzc]; exact HB.out.lbZ W ke [97] K32.out
  have CSN : Hid (∀ (W : World) (g : Nat) (st : Bx.St) (M : Nat → Prop), P W g st M → Calls Tryd.prog 12 #[.pointer (some ⟨g, 0, none⟩), .agg kc.toArray, .int .i64 (-1), .slice none 0 0, .slice none 0 0] W fun e w' => e = .returned (.slice none 0 0) ∧ Below W.heap.size W w') := fun W g st M h => by rw [hkc]; exact HB.out.slN ke (-1) none none 0 0 0 0 h K32.out (by omega)
  have CSL : Hid (∀ (W : World) (g : Nat) (M : Nat → Prop) (A : Option Addr), P W g (.ideal 1 0 [] [] []) M → Calls Tryd.prog 12 #[.pointer (some ⟨g, 0, none⟩), .agg kc.toArray, .int .i64 0, .slice none 0 0, .slice A 3001 3001] W fun e w' => e = .returned (.slice none 0 0) ∧ Below W.heap.size W w') := fun W g M A h => by rw [hkc]; exact HB.out.slL ke 0 none A 0 0 3001 3001 h K32.out (by omega) (by omega)
  have CSI : Hid (∀ (W : World) (g : Nat) (M : Nat → Prop), Gl W → (∀ b, M b → 2 ≤ b) → P W g (.ideal 1 0 [] [] []) M → Calls Tryd.prog 12 #[.pointer (some ⟨g, 0, none⟩), .agg kc.toArray, .int .i64 0, .slice none 0 0, .slice none 0 0] W fun e w' => ∃ A c, e = .returned (.slice A 16 c) ∧ Rd w' A 16 c lt ∧ Fr M W w') := fun W g M h1 h0 h2 => by
    rw [hkc, hlt]
    refine (HB.out.slI ke 0 h1 h0 h2 (by omega) K32.out (by omega) (by omega) (Rd.nil W none 0 (by unfold maxLen; omega)) (Rd.nil W none 0 (by unfold maxLen; omega)) (Off.none_ _ _) (Off.none_ _ _) (by omega)).mono ?_
    rintro e w' ⟨A, c, M', he, hR, hP, hF, _, _⟩
    rw [Tap.tape_length] at he hR
    exact ⟨A, c, he, hR, hF⟩
  have CT : Hid (∀ W : World, Calls Tryd.prog 17 #[.int .i64 1, .int .i64 0, .int .i64 16] W fun e w' => ∃ A c, e = .returned (.slice A 16 c) ∧ Rd w' A 16 c lt ∧ Below W.heap.size W w') := fun W => by
    rw [hlt]
    exact rtape_any 1 0 16 W (by omega) (by omega) (by omega) (by omega)
  clear hke hkc hzc hlt hZ16 hZ3
  go_enter Tryd.func5, Tryd.ntmps5
  go_upto_region 2 with (fail)
  refine wp_region_lit ?_
  refine build_law rfl 34 #[(0, .const (.int .u8 1))] rfl kc (by simp only [List.map_toArray, List.map_cons, List.map_nil]; exact BKC.out) ?_
  simp only [Act.put, List.setIfInBounds_toArray, List.set_cons_zero, List.set_cons_succ]
  go_upto_region 3 with (first
    | ((with_reducible refine storeGen_law rfl 34 (.tmp 2) (.tmp 9) rfl w.heap.size rfl kc rfl 34 (List.replicate 32 (.int .u8 0)) IK.out LK.out OKC.out w.heap.size w ?_ ?_ (Nat.le_refl _) ?_)
       · exact Blk.at_new _ _ 34 _ _ (by rfl) rfl
       · exact (Below.refl _ _).alloc (Nat.le_refl _) _
       intro w1 BLK XK))
  obtain ⟨gk, hgk⟩ : ∃ g, g = w.heap.size := ⟨_, rfl⟩
  rw [← hgk] at BLK
  rw [← hgk]
  have hgk6 : w.heap.size ≤ gk := by omega
  have hgk7 : gk < w1.heap.size := BLK.out.lt
  have hsK := XK.out.size
  have KB := Lib.hid BLK.out
  clear hgk BLK
  have W1 := Lib.hid XK.out
  clear XK
  go_wp2_with (first | (with_reducible refine load_law rfl 34 (.tmp 2) rfl gk 0 rfl kc _ Tryd.underlying34 rfl IK.out KB.out.cells ?_))
  refine (COZ.out w1).mono ?_
  rintro e w2 ⟨rfl, hX⟩
  replace W1 := Lib.hid (W1.out.trans (hX.mono W1.out.size))
  replace KB := Lib.hid (KB.out.below hX KB.out.lt)
  have hgk2 : gk < w2.heap.size := KB.out.lt
  clear hX COZ
  go_wp2_with fail
  refine (tnew_any 1 _ (by omega) (by omega)).mono ?_
  rintro e w3 ⟨t, rfl, ht, hT, hX⟩
  replace W1 := Lib.hid (W1.out.trans (hX.mono W1.out.size))
  replace KB := Lib.hid (KB.out.below hX KB.out.lt)
  have T3 := Lib.hid hT
  have hsx := hX.size
  clear hX hT
  go_wp2_with fail
  refine (HB.out.newI T3.out).mono ?_
  rintro e w4 ⟨gi, Mi, rfl, hM, hP, hX⟩
  have htw : w.heap.size ≤ t := by omega
  have MI : Hid (∀ b, Mi b → w.heap.size ≤ b) := fun b hb => by
    rcases hM b hb with h | h
    · omega
    · have := W1.out.size
      omega
  have PI := Lib.hid hP
  replace W1 := Lib.hid (W1.out.trans (hX.mono W1.out.size))
  replace KB := Lib.hid (KB.out.below hX KB.out.lt)
  clear hX hP hM T3
  go_wp2_with fail
  refine (HB.out.newR _ none).mono ?_
  rintro e w5 ⟨gr, Mr, rfl, hM, hP, hX⟩
  replace W1 := Lib.hid (W1.out.trans (hX.mono W1.out.size)).drew
  replace KB := Lib.hid (KB.out.below hX KB.out.lt).drew
  replace PI := Lib.hid (HB.out.below PI.out hX.drew)
  have PR : Hid (P w5.drew gr .real Mr) := HB.out.keep hP (Nat.le_refl _) (fun _ _ => rfl)
  clear hX hP hM
  go_upto_region 6 with (fail)
  refine wp_region_any (by kernel_rfl) ?_
  change wpAny _ _ _ _ _ _ _ (World.drew _)
  generalize w5.drew = w6 at *
  refine wpAny_take (i := 0) (oi := ?oi1) (v := .pointer (some ⟨gr, 0, none⟩)) ?hi1 (by kernel_rfl) (by kernel_rfl) (by kernel_rfl) ?hQ1 ?hy1 ?rest1
  case hi1 => simp only [List.getElem?_toArray, List.getElem?_cons_succ, List.getElem?_cons_zero]; rfl
  case hQ1 => exact fun _ _ _ h => h
  case hy1 => exact Or.inl ⟨by rfl, by intro w; go_simp⟩
  try simp only [Act.put, List.setIfInBounds_toArray, List.set_cons_zero, List.set_cons_succ]
  refine phaseL (fun i => []) (fun d a w' => ∃ x21 x22 : Value, a = { tmps := #[.bool false, .pointer none, .pointer (some ⟨gk, 0, none⟩), .slice none 0 0, .bool false, .pointer (some ⟨gi, 0, none⟩), .pointer (some ⟨gr, 0, none⟩), undef, undef, .agg kc.toArray, .tuple #[.slice none 0 0, .bool false], .pointer none, .agg kc.toArray, .tuple #[.slice none 0 0, .bool false], .slice none 0 0, .bool false, .pointer (some ⟨t, 0, none⟩), .pointer (some ⟨gi, 0, none⟩), .pointer (some ⟨gr, 0, none⟩), undef, .pointer (some ⟨gr, 0, none⟩), x21, x22, undef, undef, undef, undef, undef, undef, undef, undef, undef, undef, undef, undef, undef, undef, undef, undef, undef, undef, undef, undef, undef, undef, undef, undef, undef, undef, undef, undef, undef, undef, undef, undef, undef, undef, undef, undef, undef, undef, undef, undef, undef, undef, undef, undef, undef, undef, undef, undef, undef, undef, undef, undef, undef, undef, undef, undef, undef, undef, undef, undef, undef, undef, undef, undef, undef, undef, undef], defers := [] } ∧ Hid (Below w6.heap.size w6 w') ∧ (d 1 = true → x21 = .agg kc.toArray) ∧ (d 2 = true → ∃ A : Option Addr, x22 = .slice A 16 16)) [1, 2] ?step2 6 2 [1, 2] _ _ _ rfl (by decide) (fun _ h => h) (Fits.of (by kernel_rfl)) ?init2 ?fin2
  case init2 => refine ⟨_, _, rfl, Below.refl _ _, ?_, ?_⟩ <;> (intro h; exact absurd h (by decide))
  case step2 =>
    intro i hi d a v2 hI hdi hdeps
    obtain ⟨x21, x22, rfl, BW, h1, h2⟩ := hI
    have hsw := BW.out.size
    simp only [List.mem_cons, List.not_mem_nil, or_false] at hi
    rcases hi with rfl | rfl
    · refine wpOp_step (o := ?os3) ?hos3 (fun K hK => ?_)
      case hos3 => simp only [List.getElem?_toArray, List.getElem?_cons_succ, List.getElem?_cons_zero]; rfl
      refine step_loadW rfl 34 (.tmp 2) rfl gk 0 rfl kc _ Tryd.underlying34 rfl IK.out (KB.out.below BW.out KB.out.lt).cells (hK _ _ ?_)
      clear hK K
      try simp only [Act.put, List.setIfInBounds_toArray, List.set_cons_zero, List.set_cons_succ]
      exact ⟨_, _, rfl, BW, fun _ => rfl, fun a => by first | exact h2 (by simpa using a) | exact ⟨_, rfl⟩⟩
    · have hX := alloc_below v2 (.cells Z16.toArray 5)
      have hmk := MK16.out
      refine wpOp_step (o := ?os4) ?hos4 (fun K hK => ?_)
      case hos4 => simp only [List.getElem?_toArray, List.getElem?_cons_succ, List.getElem?_cons_zero]; rfl
      go_simp
      refine hK _ _ ?_
      clear hK K
      try simp only [Act.put, List.setIfInBounds_toArray, List.set_cons_zero, List.set_cons_succ]
      exact ⟨_, _, rfl, BW.out.trans (hX.mono hsw), fun a => by first | exact h1 (by simpa using a) | rfl, fun _ => ⟨_, rfl⟩⟩
  case fin2 =>
    intro a v2 hI
    obtain ⟨x21, x22, rfl, BW, h1, h2⟩ := hI
    obtain rfl := h1 (by decide)
    obtain ⟨Am, rfl⟩ := h2 (by decide)
    replace W1 := Lib.hid (W1.out.trans (BW.out.mono W1.out.size))
    replace KB := Lib.hid (KB.out.below BW.out KB.out.lt)
    replace PI := Lib.hid (HB.out.below PI.out BW.out)
    replace PR := Lib.hid (HB.out.below PR.out BW.out)
    clear h1 h2 BW MK16
    try dsimp only
    refine wpAny_ready (rs := [3]) (by kernel_rfl) (by simp) ?_
    refine AllReady.cons (o := ?p5) ?q5 (fun K hK => ?_) AllReady.nil
    case q5 => simp only [List.getElem?_toArray, List.getElem?_cons_succ, List.getElem?_cons_zero]; rfl
    go_simp
    refine (CON.out _ gr _ Mr _ PR.out).mono ?_
    rintro e y1 ⟨rfl, hX⟩
    refine hK _ _ ?_
    clear hK K
    try simp only [Act.put, List.setIfInBounds_toArray, List.set_cons_zero, List.set_cons_succ]
    replace W1 := Lib.hid (W1.out.trans (hX.mono W1.out.size))
    replace KB := Lib.hid (KB.out.below hX KB.out.lt)
    replace PI := Lib.hid (HB.out.below PI.out hX)
    replace PR := Lib.hid (HB.out.below PR.out hX)
    clear hX
    refine wpAny_take (i := 4) (oi := ?oi6) (v := .tuple #[.slice none 0 0, .bool false]) ?hi6 (by kernel_rfl) (by kernel_rfl) (by kernel_rfl) ?hQ6 ?hy6 ?rest6
    case hi6 => simp only [List.getElem?_toArray, List.getElem?_cons_succ, List.getElem?_cons_zero]; rfl
    case hQ6 => exact fun _ _ _ h => h
    case hy6 => exact Or.inl ⟨by rfl, by intro w; go_simp⟩
    try simp only [Act.put, List.setIfInBounds_toArray, List.set_cons_zero, List.set_cons_succ]
    refine wpAny_take (i := 5) (oi := ?oi7) (v := .slice none 0 0) ?hi7 (by kernel_rfl) (by kernel_rfl) (by kernel_rfl) ?hQ7 ?hy7 ?rest7
    case hi7 => simp only [List.getElem?_toArray, List.getElem?_cons_succ, List.getElem?_cons_zero]; rfl
    case hQ7 => exact fun _ _ _ h => h
    case hy7 => exact Or.inl ⟨by rfl, by intro w; go_simp⟩
    try simp only [Act.put, List.setIfInBounds_toArray, List.set_cons_zero, List.set_cons_succ]
    refine wpAny_take (i := 6) (oi := ?oi8) (v := .bool false) ?hi8 (by kernel_rfl) (by kernel_rfl) (by kernel_rfl) ?hQ8 ?hy8 ?rest8
    case hi8 => simp only [List.getElem?_toArray, List.getElem?_cons_succ, List.getElem?_cons_zero]; rfl
    case hQ8 => exact fun _ _ _ h => h
    case hy8 => exact Or.inl ⟨by rfl, by intro w; go_simp⟩
    try simp only [Act.put, List.setIfInBounds_toArray, List.set_cons_zero, List.set_cons_succ]
    refine wpAny_take (i := 7) (oi := ?oi9) (v := .slice none 0 0) ?hi9 (by kernel_rfl) (by kernel_rfl) (by kernel_rfl) ?hQ9 ?hy9 ?rest9
    case hi9 => simp only [List.getElem?_toArray, List.getElem?_cons_succ, List.getElem?_cons_zero]; rfl
    case hQ9 => exact fun _ _ _ h => h
    case hy9 => exact Or.inl ⟨by rfl, by intro w; go_simp⟩
    try simp only [Act.put, List.setIfInBounds_toArray, List.set_cons_zero, List.set_cons_succ]
    refine wpAny_take (i := 8) (oi := ?oi10) (v := .bool false) ?hi10 (by kernel_rfl) (by kernel_rfl) (by kernel_rfl) ?hQ10 ?hy10 ?rest10
    case hi10 => simp only [List.getElem?_toArray, List.getElem?_cons_succ, List.getElem?_cons_zero]; rfl
    case hQ10 => exact fun _ _ _ h => h
    case hy10 => exact Or.inl ⟨by rfl, by intro w; go_simp⟩
    try simp only [Act.put, List.setIfInBounds_toArray, List.set_cons_zero, List.set_cons_succ]
    refine wpAny_done (by kernel_rfl) ?_ _
    replace W1 := Lib.hid W1.out.drew
    replace KB := Lib.hid KB.out.drew
    replace PI : Hid (P (World.drew y1) gi (.ideal 1 0 [] [] []) Mi) := HB.out.keep PI.out (Nat.le_refl _) (fun _ _ => rfl)
    replace PR : Hid (P (World.drew y1) gr .real Mr) := HB.out.keep PR.out (Nat.le_refl _) (fun _ _ => rfl)
    go_upto_region 7 with (fail)
    refine wp_region_any (by kernel_rfl) ?_
    change wpAny _ _ _ _ _ _ _ (World.drew _)
    generalize World.drew y1 = w7 at *
    simp only [List.append_eq, List.cons_append, List.nil_append]
    refine wpAny_ready (rs := [0]) (by kernel_rfl) (by simp) ?_
    refine AllReady.cons (o := ?p11) ?q11 (fun K hK => ?_) AllReady.nil
    case q11 => simp only [List.getElem?_toArray, List.getElem?_cons_succ, List.getElem?_cons_zero]; rfl
    go_simp
    refine (begun8_any HB.out (HG.out.below W1.out hsz)).mono ?_
    rintro e y2 ⟨rfl, hX⟩
    refine hK _ _ ?_
    clear hK K
    try simp only [Act.put, List.setIfInBounds_toArray, List.set_cons_zero, List.set_cons_succ]
    replace W1 := Lib.hid (W1.out.trans (hX.mono W1.out.size))
    replace KB := Lib.hid (KB.out.below hX KB.out.lt)
    replace PI := Lib.hid (HB.out.below PI.out hX)
    replace PR := Lib.hid (HB.out.below PR.out hX)
    clear hX
    have hnil := nil_eq
    refine wpAny_take (i := 1) (oi := ?oi12) (v := .bool true) ?hi12 (by kernel_rfl) (by kernel_rfl) (by kernel_rfl) ?hQ12 ?hy12 ?rest12
    case hi12 => simp only [List.getElem?_toArray, List.getElem?_cons_succ, List.getElem?_cons_zero]; rfl
    case hQ12 => exact fun _ _ _ h => h
    case hy12 => exact Or.inl ⟨by rfl, by intro w; go_simp⟩
    try simp only [Act.put, List.setIfInBounds_toArray, List.set_cons_zero, List.set_cons_succ]
    refine wpAny_take (i := 2) (oi := ?oi13) (v := .pointer none) ?hi13 (by kernel_rfl) (by kernel_rfl) (by kernel_rfl) ?hQ13 ?hy13 ?rest13
    case hi13 => simp only [List.getElem?_toArray, List.getElem?_cons_succ, List.getElem?_cons_zero]; rfl
    case hQ13 => exact fun _ _ _ h => h
    case hy13 => exact Or.inl ⟨by rfl, by intro w; go_simp⟩
    try simp only [Act.put, List.setIfInBounds_toArray, List.set_cons_zero, List.set_cons_succ]
    refine phaseL (fun i => []) (fun d a w' => ∃ x29 : Value, a = { tmps := #[.bool false, .pointer none, .pointer (some ⟨gk, 0, none⟩), .slice none 0 0, .bool false, .pointer (some ⟨gi, 0, none⟩), .pointer (some ⟨gr, 0, none⟩), .slice none 0 0, .bool false, .agg kc.toArray, .tuple #[.slice none 0 0, .bool false], .pointer none, .agg kc.toArray, .tuple #[.slice none 0 0, .bool false], .slice none 0 0, .bool false, .pointer (some ⟨t, 0, none⟩), .pointer (some ⟨gi, 0, none⟩), .pointer (some ⟨gr, 0, none⟩), .tuple #[.slice none 0 0, .bool false], .pointer (some ⟨gr, 0, none⟩), .agg kc.toArray, .slice Am 16 16, .tuple #[.slice none 0 0, .bool false], .slice none 0 0, .bool false, .bool true, .bool true, .pointer none, x29, undef, undef, undef, undef, undef, undef, undef, undef, undef, undef, undef, undef, undef, undef, undef, undef, undef, undef, undef, undef, undef, undef, undef, undef, undef, undef, undef, undef, undef, undef, undef, undef, undef, undef, undef, undef, undef, undef, undef, undef, undef, undef, undef, undef, undef, undef, undef, undef, undef, undef, undef, undef, undef, undef, undef, undef, undef, undef, undef, undef], defers := [] } ∧ Hid (Below y2.heap.size y2 w') ∧ (d 3 = true → x29 = .agg kc.toArray)) [3] ?step14 61 1 [3] _ _ _ rfl (by decide) (fun _ h => h) (Fits.of (by kernel_rfl)) ?init14 ?fin14
    case init14 => refine ⟨_, rfl, Below.refl _ _, ?_⟩ <;> (intro h; exact absurd h (by decide))
    case step14 =>
      intro i hi d a v14 hI hdi hdeps
      obtain ⟨x29, rfl, BW, h3⟩ := hI
      have hsw := BW.out.size
      simp only [List.mem_cons, List.not_mem_nil, or_false] at hi
      subst hi
      refine wpOp_step (o := ?os15) ?hos15 (fun K hK => ?_)
      case hos15 => simp only [List.getElem?_toArray, List.getElem?_cons_succ, List.getElem?_cons_zero]; rfl
      refine step_loadW rfl 34 (.tmp 2) rfl gk 0 rfl kc _ Tryd.underlying34 rfl IK.out (KB.out.below BW.out KB.out.lt).cells (hK _ _ ?_)
      clear hK K
      try simp only [Act.put, List.setIfInBounds_toArray, List.set_cons_zero, List.set_cons_succ]
      exact ⟨_, rfl, BW, fun _ => rfl⟩
    case fin14 =>
      intro a v14 hI
      obtain ⟨x29, rfl, BW, h3⟩ := hI
      obtain rfl := h3 (by decide)
      replace W1 := Lib.hid (W1.out.trans (BW.out.mono W1.out.size))
      replace KB := Lib.hid (KB.out.below BW.out KB.out.lt)
      replace PI := Lib.hid (HB.out.below PI.out BW.out)
      replace PR := Lib.hid (HB.out.below PR.out BW.out)
      clear h3 BW
      try dsimp only
      refine wpAny_ready (rs := [4]) (by kernel_rfl) (by simp) ?_
      refine AllReady.cons (o := ?p16) ?q16 (fun K hK => ?_) AllReady.nil
      case q16 => simp only [List.getElem?_toArray, List.getElem?_cons_succ, List.getElem?_cons_zero]; rfl
      go_simp
      refine (CSZ.out _).mono ?_
      rintro e y3 ⟨rfl, hX⟩
      refine hK _ _ ?_
      clear hK K
      try simp only [Act.put, List.setIfInBounds_toArray, List.set_cons_zero, List.set_cons_succ]
      replace W1 := Lib.hid (W1.out.trans (hX.mono W1.out.size))
      replace KB := Lib.hid (KB.out.below hX KB.out.lt)
      replace PI := Lib.hid (HB.out.below PI.out hX)
      replace PR := Lib.hid (HB.out.below PR.out hX)
      clear hX
      refine wpAny_take (i := 5) (oi := ?oi17) (v := .bool true) ?hi17 (by kernel_rfl) (by kernel_rfl) (by kernel_rfl) ?hQ17 ?hy17 ?rest17
      case hi17 => simp only [List.getElem?_toArray, List.getElem?_cons_succ, List.getElem?_cons_zero]; rfl
      case hQ17 => exact fun _ _ _ h => h
      case hy17 => exact Or.inl ⟨by rfl, by intro w; go_simp⟩
      try simp only [Act.put, List.setIfInBounds_toArray, List.set_cons_zero, List.set_cons_succ]
      refine wpAny_take (i := 6) (oi := ?oi18) (v := .bool true) ?hi18 (by kernel_rfl) (by kernel_rfl) (by kernel_rfl) ?hQ18 ?hy18 ?rest18
      case hi18 => simp only [List.getElem?_toArray, List.getElem?_cons_succ, List.getElem?_cons_zero]; rfl
      case hQ18 => exact fun _ _ _ h => h
      case hy18 => exact Or.inl ⟨by rfl, by intro w; go_simp⟩
      try simp only [Act.put, List.setIfInBounds_toArray, List.set_cons_zero, List.set_cons_succ]
      refine wpAny_take (i := 7) (oi := ?oi19) (v := .bool true) ?hi19 (by kernel_rfl) (by kernel_rfl) (by kernel_rfl) ?hQ19 ?hy19 ?rest19
      case hi19 => simp only [List.getElem?_toArray, List.getElem?_cons_succ, List.getElem?_cons_zero]; rfl
      case hQ19 => exact fun _ _ _ h => h
      case hy19 => exact Or.inl ⟨by rfl, by intro w; go_simp⟩
      try simp only [Act.put, List.setIfInBounds_toArray, List.set_cons_zero, List.set_cons_succ]
      refine wpAny_take (i := 8) (oi := ?oi20) (v := .bool false) ?hi20 (by kernel_rfl) (by kernel_rfl) (by kernel_rfl) ?hQ20 ?hy20 ?rest20
      case hi20 => simp only [List.getElem?_toArray, List.getElem?_cons_succ, List.getElem?_cons_zero]; rfl
      case hQ20 => exact fun _ _ _ h => h
      case hy20 => exact Or.inl ⟨by rfl, by intro w; go_simp⟩
      try simp only [Act.put, List.setIfInBounds_toArray, List.set_cons_zero, List.set_cons_succ]
      refine wpAny_take (i := 9) (oi := ?oi21) (v := .bool true) ?hi21 (by kernel_rfl) (by kernel_rfl) (by kernel_rfl) ?hQ21 ?hy21 ?rest21
      case hi21 => simp only [List.getElem?_toArray, List.getElem?_cons_succ, List.getElem?_cons_zero]; rfl
      case hQ21 => exact fun _ _ _ h => h
      case hy21 => exact Or.inl ⟨by rfl, by intro w; go_simp⟩
      try simp only [Act.put, List.setIfInBounds_toArray, List.set_cons_zero, List.set_cons_succ]
      refine wpAny_take (i := 10) (oi := ?oi22) (v := .bool true) ?hi22 (by kernel_rfl) (by kernel_rfl) (by kernel_rfl) ?hQ22 ?hy22 ?rest22
      case hi22 => simp only [List.getElem?_toArray, List.getElem?_cons_succ, List.getElem?_cons_zero]; rfl
      case hQ22 => exact fun _ _ _ h => h
      case hy22 => exact Or.inl ⟨by rfl, by intro w; go_simp⟩
      try simp only [Act.put, List.setIfInBounds_toArray, List.set_cons_zero, List.set_cons_succ]
      refine wpAny_take (i := 11) (oi := ?oi23) (v := .bool true) ?hi23 (by kernel_rfl) (by kernel_rfl) (by kernel_rfl) ?hQ23 ?hy23 ?rest23
      case hi23 => simp only [List.getElem?_toArray, List.getElem?_cons_succ, List.getElem?_cons_zero]; rfl
      case hQ23 => exact fun _ _ _ h => h
      case hy23 => exact Or.inl ⟨by rfl, by intro w; go_simp⟩
      try simp only [Act.put, List.setIfInBounds_toArray, List.set_cons_zero, List.set_cons_succ]
      refine wpAny_take (i := 12) (oi := ?oi24) (v := .pointer none) ?hi24 (by kernel_rfl) (by kernel_rfl) (by kernel_rfl) ?hQ24 ?hy24 ?rest24
      case hi24 => simp only [List.getElem?_toArray, List.getElem?_cons_succ, List.getElem?_cons_zero]; rfl
      case hQ24 => exact fun _ _ _ h => h
      case hy24 => exact Or.inl ⟨by rfl, by intro w; go_simp⟩
      try simp only [Act.put, List.setIfInBounds_toArray, List.set_cons_zero, List.set_cons_succ]
      refine phaseL (fun i => if i = 14 then [13] else []) (fun d a w' => ∃ x39 x40 x41 : Value, a = { tmps := #[.bool false, .pointer none, .pointer (some ⟨gk, 0, none⟩), .slice none 0 0, .bool false, .pointer (some ⟨gi, 0, none⟩), .pointer (some ⟨gr, 0, none⟩), .slice none 0 0, .bool false, .agg kc.toArray, .tuple #[.slice none 0 0, .bool false], .pointer none, .agg kc.toArray, .tuple #[.slice none 0 0, .bool false], .slice none 0 0, .bool false, .pointer (some ⟨t, 0, none⟩), .pointer (some ⟨gi, 0, none⟩), .pointer (some ⟨gr, 0, none⟩), .tuple #[.slice none 0 0, .bool false], .pointer (some ⟨gr, 0, none⟩), .agg kc.toArray, .slice Am 16 16, .tuple #[.slice none 0 0, .bool false], .slice none 0 0, .bool false, .bool true, .bool true, .pointer none, .agg kc.toArray, .slice none 0 0, .bool true, .bool true, .bool true, .bool false, .bool true, .bool true, .bool true, .pointer none, x39, x40, x41, undef, undef, undef, undef, undef, undef, undef, undef, undef, undef, undef, undef, undef, undef, undef, undef, undef, undef, undef, undef, undef, undef, undef, undef, undef, undef, undef, undef, undef, undef, undef, undef, undef, undef, undef, undef, undef, undef, undef, undef, undef, undef, undef, undef, undef, undef, undef, undef], defers := [] } ∧ Hid (Below y3.heap.size y3 w') ∧ (d 13 = true → x39 = .agg kc.toArray) ∧ (d 14 = true → x40 = .agg zc.toArray) ∧ (d 15 = true → x41 = .agg zc.toArray)) [13, 14, 15] ?step25 49 3 [13, 14, 15] _ _ _ rfl (by decide) (fun _ h => h) (Fits.of (by kernel_rfl)) ?init25 ?fin25
      case init25 => refine ⟨_, _, _, rfl, Below.refl _ _, ?_, ?_, ?_⟩ <;> (intro h; exact absurd h (by decide))
      case step25 =>
        intro i hi d a v25 hI hdi hdeps
        obtain ⟨x39, x40, x41, rfl, BW, h13, h14, h15⟩ := hI
        have hsw := BW.out.size
        simp only [List.mem_cons, List.not_mem_nil, or_false] at hi
        rcases hi with rfl | rfl | rfl
        · refine wpOp_step (o := ?os26) ?hos26 (fun K hK => ?_)
          case hos26 => simp only [List.getElem?_toArray, List.getElem?_cons_succ, List.getElem?_cons_zero]; rfl
          refine step_loadW rfl 34 (.tmp 2) rfl gk 0 rfl kc _ Tryd.underlying34 rfl IK.out (KB.out.below BW.out KB.out.lt).cells (hK _ _ ?_)
          clear hK K
          try simp only [Act.put, List.setIfInBounds_toArray, List.set_cons_zero, List.set_cons_succ]
          exact ⟨_, _, _, rfl, BW, fun _ => rfl, fun a => by first | exact h14 (by simpa using a) | rfl, fun a => by first | exact h15 (by simpa using a) | rfl⟩
        · obtain rfl := h13 (hdeps 13 (by simp))
          refine wpOp_step (o := ?os27) ?hos27 (fun K hK => ?_)
          case hos27 => simp only [List.getElem?_toArray, List.getElem?_cons_succ, List.getElem?_cons_zero]; rfl
          go_simp
          refine (CMZ.out v25).mono ?_
          rintro e u25 ⟨rfl, hX⟩
          refine hK _ _ ?_
          clear hK K
          try simp only [Act.put, List.setIfInBounds_toArray, List.set_cons_zero, List.set_cons_succ]
          exact ⟨_, _, _, rfl, BW.out.trans (hX.mono hsw), fun a => by first | exact h13 (by simpa using a) | rfl, fun _ => rfl, fun a => by first | exact h15 (by simpa using a) | rfl⟩
        · refine wpOp_step (o := ?os28) ?hos28 (fun K hK => ?_)
          case hos28 => simp only [List.getElem?_toArray, List.getElem?_cons_succ, List.getElem?_cons_zero]; rfl
          refine step_build rfl 34 #[] rfl zc (by simp only [List.map_toArray, List.map_cons, List.map_nil]; exact BZC.out) (hK _ _ ?_)
          clear hK K
          try simp only [Act.put, List.setIfInBounds_toArray, List.set_cons_zero, List.set_cons_succ]
          exact ⟨_, _, _, rfl, BW, fun a => by first | exact h13 (by simpa using a) | rfl, fun a => by first | exact h14 (by simpa using a) | rfl, fun _ => rfl⟩
      case fin25 =>
        intro a v25 hI
        obtain ⟨x39, x40, x41, rfl, BW, h13, h14, h15⟩ := hI
        obtain rfl := h13 (by decide)
        obtain rfl := h14 (by decide)
        obtain rfl := h15 (by decide)
        replace W1 := Lib.hid (W1.out.trans (BW.out.mono W1.out.size))
        replace KB := Lib.hid (KB.out.below BW.out KB.out.lt)
        replace PI := Lib.hid (HB.out.below PI.out BW.out)
        replace PR := Lib.hid (HB.out.below PR.out BW.out)
        have hee := EZ.out
        clear h13 h14 h15 BW
        try dsimp only
        refine wpAny_take (i := 16) (oi := ?oi29) (v := .bool true) ?hi29 (by kernel_rfl) (by kernel_rfl) (by kernel_rfl) ?hQ29 ?hy29 ?rest29
        case hi29 => simp only [List.getElem?_toArray, List.getElem?_cons_succ, List.getElem?_cons_zero]; rfl
        case hQ29 => exact fun _ _ _ h => h
        case hy29 => exact Or.inl ⟨by rfl, by intro w; go_simp⟩
        try simp only [Act.put, List.setIfInBounds_toArray, List.set_cons_zero, List.set_cons_succ]
        refine wpAny_take (i := 17) (oi := ?oi30) (v := .bool true) ?hi30 (by kernel_rfl) (by kernel_rfl) (by kernel_rfl) ?hQ30 ?hy30 ?rest30
        case hi30 => simp only [List.getElem?_toArray, List.getElem?_cons_succ, List.getElem?_cons_zero]; rfl
        case hQ30 => exact fun _ _ _ h => h
        case hy30 => exact Or.inl ⟨by rfl, by intro w; go_simp⟩
        try simp only [Act.put, List.setIfInBounds_toArray, List.set_cons_zero, List.set_cons_succ]
        refine wpAny_take (i := 18) (oi := ?oi31) (v := .bool true) ?hi31 (by kernel_rfl) (by kernel_rfl) (by kernel_rfl) ?hQ31 ?hy31 ?rest31
        case hi31 => simp only [List.getElem?_toArray, List.getElem?_cons_succ, List.getElem?_cons_zero]; rfl
        case hQ31 => exact fun _ _ _ h => h
        case hy31 => exact Or.inl ⟨by rfl, by intro w; go_simp⟩
        try simp only [Act.put, List.setIfInBounds_toArray, List.set_cons_zero, List.set_cons_succ]
        refine wpAny_take (i := 19) (oi := ?oi32) (v := .pointer none) ?hi32 (by kernel_rfl) (by kernel_rfl) (by kernel_rfl) ?hQ32 ?hy32 ?rest32
        case hi32 => simp only [List.getElem?_toArray, List.getElem?_cons_succ, List.getElem?_cons_zero]; rfl
        case hQ32 => exact fun _ _ _ h => h
        case hy32 => exact Or.inl ⟨by rfl, by intro w; go_simp⟩
        try simp only [Act.put, List.setIfInBounds_toArray, List.set_cons_zero, List.set_cons_succ]
        clear hee
        refine phaseL (fun i => []) (fun d a w' => ∃ x46 x47 : Value, a = { tmps := #[.bool false, .pointer none, .pointer (some ⟨gk, 0, none⟩), .slice none 0 0, .bool false, .pointer (some ⟨gi, 0, none⟩), .pointer (some ⟨gr, 0, none⟩), .slice none 0 0, .bool false, .agg kc.toArray, .tuple #[.slice none 0 0, .bool false], .pointer none, .agg kc.toArray, .tuple #[.slice none 0 0, .bool false], .slice none 0 0, .bool false, .pointer (some ⟨t, 0, none⟩), .pointer (some ⟨gi, 0, none⟩), .pointer (some ⟨gr, 0, none⟩), .tuple #[.slice none 0 0, .bool false], .pointer (some ⟨gr, 0, none⟩), .agg kc.toArray, .slice Am 16 16, .tuple #[.slice none 0 0, .bool false], .slice none 0 0, .bool false, .bool true, .bool true, .pointer none, .agg kc.toArray, .slice none 0 0, .bool true, .bool true, .bool true, .bool false, .bool true, .bool true, .bool true, .pointer none, .agg kc.toArray, .agg zc.toArray, .agg zc.toArray, .bool true, .bool true, .bool true, .pointer none, x46, x47, undef, undef, undef, undef, undef, undef, undef, undef, undef, undef, undef, undef, undef, undef, undef, undef, undef, undef, undef, undef, undef, undef, undef, undef, undef, undef, undef, undef, undef, undef, undef, undef, undef, undef, undef, undef, undef, undef, undef, undef, undef, undef], defers := [] } ∧ Hid (Below v25.heap.size v25 w') ∧ (d 20 = true → x46 = .agg kc.toArray) ∧ (d 21 = true → x47 = .agg zc.toArray)) [20, 21] ?step33 43 2 [20, 21] _ _ _ rfl (by decide) (fun _ h => h) (Fits.of (by kernel_rfl)) ?init33 ?fin33
        case init33 => refine ⟨_, _, rfl, Below.refl _ _, ?_, ?_⟩ <;> (intro h; exact absurd h (by decide))
        case step33 =>
          intro i hi d a v33 hI hdi hdeps
          obtain ⟨x46, x47, rfl, BW, h20, h21⟩ := hI
          have hsw := BW.out.size
          simp only [List.mem_cons, List.not_mem_nil, or_false] at hi
          rcases hi with rfl | rfl
          · refine wpOp_step (o := ?os34) ?hos34 (fun K hK => ?_)
            case hos34 => simp only [List.getElem?_toArray, List.getElem?_cons_succ, List.getElem?_cons_zero]; rfl
            refine step_loadW rfl 34 (.tmp 2) rfl gk 0 rfl kc _ Tryd.underlying34 rfl IK.out (KB.out.below BW.out KB.out.lt).cells (hK _ _ ?_)
            clear hK K
            try simp only [Act.put, List.setIfInBounds_toArray, List.set_cons_zero, List.set_cons_succ]
            exact ⟨_, _, rfl, BW, fun _ => rfl, fun a => by first | exact h21 (by simpa using a) | rfl⟩
          · refine wpOp_step (o := ?os35) ?hos35 (fun K hK => ?_)
            case hos35 => simp only [List.getElem?_toArray, List.getElem?_cons_succ, List.getElem?_cons_zero]; rfl
            refine step_build rfl 34 #[] rfl zc (by simp only [List.map_toArray, List.map_cons, List.map_nil]; exact BZC.out) (hK _ _ ?_)
            clear hK K
            try simp only [Act.put, List.setIfInBounds_toArray, List.set_cons_zero, List.set_cons_succ]
            exact ⟨_, _, rfl, BW, fun a => by first | exact h20 (by simpa using a) | rfl, fun _ => rfl⟩
        case fin33 =>
          intro a v33 hI
          obtain ⟨x46, x47, rfl, BW, h20, h21⟩ := hI
          obtain rfl := h20 (by decide)
          obtain rfl := h21 (by decide)
          replace W1 := Lib.hid (W1.out.trans (BW.out.mono W1.out.size))
          replace KB := Lib.hid (KB.out.below BW.out KB.out.lt)
          replace PI := Lib.hid (HB.out.below PI.out BW.out)
          replace PR := Lib.hid (HB.out.below PR.out BW.out)
          clear h20 h21 BW
          try dsimp only
          refine wpAny_ready (rs := [22]) (by kernel_rfl) (by simp) ?_
          refine AllReady.cons (o := ?p36) ?q36 (fun K hK => ?_) AllReady.nil
          case q36 => simp only [List.getElem?_toArray, List.getElem?_cons_succ, List.getElem?_cons_zero]; rfl
          go_simp
          refine (CIZ.out _).mono ?_
          rintro e y4 ⟨rfl, hX⟩
          refine hK _ _ ?_
          clear hK K
          try simp only [Act.put, List.setIfInBounds_toArray, List.set_cons_zero, List.set_cons_succ]
          replace W1 := Lib.hid (W1.out.trans (hX.mono W1.out.size))
          replace KB := Lib.hid (KB.out.below hX KB.out.lt)
          replace PI := Lib.hid (HB.out.below PI.out hX)
          replace PR := Lib.hid (HB.out.below PR.out hX)
          clear hX
          refine wpAny_take (i := 23) (oi := ?oi37) (v := .bool true) ?hi37 (by kernel_rfl) (by kernel_rfl) (by kernel_rfl) ?hQ37 ?hy37 ?rest37
          case hi37 => simp only [List.getElem?_toArray, List.getElem?_cons_succ, List.getElem?_cons_zero]; rfl
          case hQ37 => exact fun _ _ _ h => h
          case hy37 => exact Or.inl ⟨by rfl, by intro w; go_simp⟩
          try simp only [Act.put, List.setIfInBounds_toArray, List.set_cons_zero, List.set_cons_succ]
          refine wpAny_take (i := 24) (oi := ?oi38) (v := .bool true) ?hi38 (by kernel_rfl) (by kernel_rfl) (by kernel_rfl) ?hQ38 ?hy38 ?rest38
          case hi38 => simp only [List.getElem?_toArray, List.getElem?_cons_succ, List.getElem?_cons_zero]; rfl
          case hQ38 => exact fun _ _ _ h => h
          case hy38 => exact Or.inl ⟨by rfl, by intro w; go_simp⟩
          try simp only [Act.put, List.setIfInBounds_toArray, List.set_cons_zero, List.set_cons_succ]
          refine wpAny_take (i := 25) (oi := ?oi39) (v := .bool true) ?hi39 (by kernel_rfl) (by kernel_rfl) (by kernel_rfl) ?hQ39 ?hy39 ?rest39
          case hi39 => simp only [List.getElem?_toArray, List.getElem?_cons_succ, List.getElem?_cons_zero]; rfl
          case hQ39 => exact fun _ _ _ h => h
          case hy39 => exact Or.inl ⟨by rfl, by intro w; go_simp⟩
          try simp only [Act.put, List.setIfInBounds_toArray, List.set_cons_zero, List.set_cons_succ]
          refine wpAny_take (i := 26) (oi := ?oi40) (v := .pointer none) ?hi40 (by kernel_rfl) (by kernel_rfl) (by kernel_rfl) ?hQ40 ?hy40 ?rest40
          case hi40 => simp only [List.getElem?_toArray, List.getElem?_cons_succ, List.getElem?_cons_zero]; rfl
          case hQ40 => exact fun _ _ _ h => h
          case hy40 => exact Or.inl ⟨by rfl, by intro w; go_simp⟩
          try simp only [Act.put, List.setIfInBounds_toArray, List.set_cons_zero, List.set_cons_succ]
          refine phaseL (fun i => if i = 28 then [27] else []) (fun d a w' => ∃ x53 x54 x55 : Value, a = { tmps := #[.bool false, .pointer none, .pointer (some ⟨gk, 0, none⟩), .slice none 0 0, .bool false, .pointer (some ⟨gi, 0, none⟩), .pointer (some ⟨gr, 0, none⟩), .slice none 0 0, .bool false, .agg kc.toArray, .tuple #[.slice none 0 0, .bool false], .pointer none, .agg kc.toArray, .tuple #[.slice none 0 0, .bool false], .slice none 0 0, .bool false, .pointer (some ⟨t, 0, none⟩), .pointer (some ⟨gi, 0, none⟩), .pointer (some ⟨gr, 0, none⟩), .tuple #[.slice none 0 0, .bool false], .pointer (some ⟨gr, 0, none⟩), .agg kc.toArray, .slice Am 16 16, .tuple #[.slice none 0 0, .bool false], .slice none 0 0, .bool false, .bool true, .bool true, .pointer none, .agg kc.toArray, .slice none 0 0, .bool true, .bool true, .bool true, .bool false, .bool true, .bool true, .bool true, .pointer none, .agg kc.toArray, .agg zc.toArray, .agg zc.toArray, .bool true, .bool true, .bool true, .pointer none, .agg kc.toArray, .agg zc.toArray, .bool false, .bool true, .bool true, .bool true, .pointer none, x53, x54, x55, undef, undef, undef, undef, undef, undef, undef, undef, undef, undef, undef, undef, undef, undef, undef, undef, undef, undef, undef, undef, undef, undef, undef, undef, undef, undef, undef, undef, undef, undef, undef, undef, undef, undef], defers := [] } ∧ Hid (Below y4.heap.size y4 w') ∧ (d 27 = true → x53 = .agg kc.toArray) ∧ (d 28 = true → x54 = .agg zc.toArray) ∧ (d 29 = true → x55 = .agg zc.toArray)) [27, 28, 29] ?step41 35 3 [27, 28, 29] _ _ _ rfl (by decide) (fun _ h => h) (Fits.of (by kernel_rfl)) ?init41 ?fin41
          case init41 => refine ⟨_, _, _, rfl, Below.refl _ _, ?_, ?_, ?_⟩ <;> (intro h; exact absurd h (by decide))
          case step41 =>
            intro i hi d a v41 hI hdi hdeps
            obtain ⟨x53, x54, x55, rfl, BW, h27, h28, h29⟩ := hI
            have hsw := BW.out.size
            simp only [List.mem_cons, List.not_mem_nil, or_false] at hi
            rcases hi with rfl | rfl | rfl
            · refine wpOp_step (o := ?os42) ?hos42 (fun K hK => ?_)
              case hos42 => simp only [List.getElem?_toArray, List.getElem?_cons_succ, List.getElem?_cons_zero]; rfl
              refine step_loadW rfl 34 (.tmp 2) rfl gk 0 rfl kc _ Tryd.underlying34 rfl IK.out (KB.out.below BW.out KB.out.lt).cells (hK _ _ ?_)
              clear hK K
              try simp only [Act.put, List.setIfInBounds_toArray, List.set_cons_zero, List.set_cons_succ]
              exact ⟨_, _, _, rfl, BW, fun _ => rfl, fun a => by first | exact h28 (by simpa using a) | rfl, fun a => by first | exact h29 (by simpa using a) | rfl⟩
            · obtain rfl := h27 (hdeps 27 (by simp))
              refine wpOp_step (o := ?os43) ?hos43 (fun K hK => ?_)
              case hos43 => simp only [List.getElem?_toArray, List.getElem?_cons_succ, List.getElem?_cons_zero]; rfl
              go_simp
              refine (CLZ.out v41).mono ?_
              rintro e u41 ⟨rfl, hX⟩
              refine hK _ _ ?_
              clear hK K
              try simp only [Act.put, List.setIfInBounds_toArray, List.set_cons_zero, List.set_cons_succ]
              exact ⟨_, _, _, rfl, BW.out.trans (hX.mono hsw), fun a => by first | exact h27 (by simpa using a) | rfl, fun _ => rfl, fun a => by first | exact h29 (by simpa using a) | rfl⟩
            · refine wpOp_step (o := ?os44) ?hos44 (fun K hK => ?_)
              case hos44 => simp only [List.getElem?_toArray, List.getElem?_cons_succ, List.getElem?_cons_zero]; rfl
              refine step_build rfl 34 #[] rfl zc (by simp only [List.map_toArray, List.map_cons, List.map_nil]; exact BZC.out) (hK _ _ ?_)
              clear hK K
              try simp only [Act.put, List.setIfInBounds_toArray, List.set_cons_zero, List.set_cons_succ]
              exact ⟨_, _, _, rfl, BW, fun a => by first | exact h27 (by simpa using a) | rfl, fun a => by first | exact h28 (by simpa using a) | rfl, fun _ => rfl⟩
          case fin41 =>
            intro a v41 hI
            obtain ⟨x53, x54, x55, rfl, BW, h27, h28, h29⟩ := hI
            obtain rfl := h27 (by decide)
            obtain rfl := h28 (by decide)
            obtain rfl := h29 (by decide)
            replace W1 := Lib.hid (W1.out.trans (BW.out.mono W1.out.size))
            replace KB := Lib.hid (KB.out.below BW.out KB.out.lt)
            replace PI := Lib.hid (HB.out.below PI.out BW.out)
            replace PR := Lib.hid (HB.out.below PR.out BW.out)
            have hee := EZ.out
            clear h27 h28 h29 BW
            try dsimp only
            refine wpAny_take (i := 30) (oi := ?oi45) (v := .bool true) ?hi45 (by kernel_rfl) (by kernel_rfl) (by kernel_rfl) ?hQ45 ?hy45 ?rest45
            case hi45 => simp only [List.getElem?_toArray, List.getElem?_cons_succ, List.getElem?_cons_zero]; rfl
            case hQ45 => exact fun _ _ _ h => h
            case hy45 => exact Or.inl ⟨by rfl, by intro w; go_simp⟩
            try simp only [Act.put, List.setIfInBounds_toArray, List.set_cons_zero, List.set_cons_succ]
            refine wpAny_take (i := 31) (oi := ?oi46) (v := .bool true) ?hi46 (by kernel_rfl) (by kernel_rfl) (by kernel_rfl) ?hQ46 ?hy46 ?rest46
            case hi46 => simp only [List.getElem?_toArray, List.getElem?_cons_succ, List.getElem?_cons_zero]; rfl
            case hQ46 => exact fun _ _ _ h => h
            case hy46 => exact Or.inl ⟨by rfl, by intro w; go_simp⟩
            try simp only [Act.put, List.setIfInBounds_toArray, List.set_cons_zero, List.set_cons_succ]
            refine wpAny_take (i := 32) (oi := ?oi47) (v := .bool true) ?hi47 (by kernel_rfl) (by kernel_rfl) (by kernel_rfl) ?hQ47 ?hy47 ?rest47
            case hi47 => simp only [List.getElem?_toArray, List.getElem?_cons_succ, List.getElem?_cons_zero]; rfl
            case hQ47 => exact fun _ _ _ h => h
            case hy47 => exact Or.inl ⟨by rfl, by intro w; go_simp⟩
            try simp only [Act.put, List.setIfInBounds_toArray, List.set_cons_zero, List.set_cons_succ]
            refine wpAny_take (i := 33) (oi := ?oi48) (v := .pointer (some ⟨gi, 0, none⟩)) ?hi48 (by kernel_rfl) (by kernel_rfl) (by kernel_rfl) ?hQ48 ?hy48 ?rest48
            case hi48 => simp only [List.getElem?_toArray, List.getElem?_cons_succ, List.getElem?_cons_zero]; rfl
            case hQ48 => exact fun _ _ _ h => h
            case hy48 => exact Or.inl ⟨by rfl, by intro w; go_simp⟩
            try simp only [Act.put, List.setIfInBounds_toArray, List.set_cons_zero, List.set_cons_succ]
            clear hee
            refine phaseL (fun i => []) (fun d a w' => ∃ x60 : Value, a = { tmps := #[.bool false, .pointer none, .pointer (some ⟨gk, 0, none⟩), .slice none 0 0, .bool false, .pointer (some ⟨gi, 0, none⟩), .pointer (some ⟨gr, 0, none⟩), .slice none 0 0, .bool false, .agg kc.toArray, .tuple #[.slice none 0 0, .bool false], .pointer none, .agg kc.toArray, .tuple #[.slice none 0 0, .bool false], .slice none 0 0, .bool false, .pointer (some ⟨t, 0, none⟩), .pointer (some ⟨gi, 0, none⟩), .pointer (some ⟨gr, 0, none⟩), .tuple #[.slice none 0 0, .bool false], .pointer (some ⟨gr, 0, none⟩), .agg kc.toArray, .slice Am 16 16, .tuple #[.slice none 0 0, .bool false], .slice none 0 0, .bool false, .bool true, .bool true, .pointer none, .agg kc.toArray, .slice none 0 0, .bool true, .bool true, .bool true, .bool false, .bool true, .bool true, .bool true, .pointer none, .agg kc.toArray, .agg zc.toArray, .agg zc.toArray, .bool true, .bool true, .bool true, .pointer none, .agg kc.toArray, .agg zc.toArray, .bool false, .bool true, .bool true, .bool true, .pointer none, .agg kc.toArray, .agg zc.toArray, .agg zc.toArray, .bool true, .bool true, .bool true, .pointer (some ⟨gi, 0, none⟩), x60, undef, undef, undef, undef, undef, undef, undef, undef, undef, undef, undef, undef, undef, undef, undef, undef, undef, undef, undef, undef, undef, undef, undef, undef, undef, undef, undef, undef, undef], defers := [] } ∧ Hid (Below v41.heap.size v41 w') ∧ (d 34 = true → x60 = .agg kc.toArray)) [34] ?step49 30 1 [34] _ _ _ rfl (by decide) (fun _ h => h) (Fits.of (by kernel_rfl)) ?init49 ?fin49
            case init49 => refine ⟨_, rfl, Below.refl _ _, ?_⟩ <;> (intro h; exact absurd h (by decide))
            case step49 =>
              intro i hi d a v49 hI hdi hdeps
              obtain ⟨x60, rfl, BW, h34⟩ := hI
              have hsw := BW.out.size
              simp only [List.mem_cons, List.not_mem_nil, or_false] at hi
              subst hi
              refine wpOp_step (o := ?os50) ?hos50 (fun K hK => ?_)
              case hos50 => simp only [List.getElem?_toArray, List.getElem?_cons_succ, List.getElem?_cons_zero]; rfl
              refine step_loadW rfl 34 (.tmp 2) rfl gk 0 rfl kc _ Tryd.underlying34 rfl IK.out (KB.out.below BW.out KB.out.lt).cells (hK _ _ ?_)
              clear hK K
              try simp only [Act.put, List.setIfInBounds_toArray, List.set_cons_zero, List.set_cons_succ]
              exact ⟨_, rfl, BW, fun _ => rfl⟩
            case fin49 =>
              intro a v49 hI
              obtain ⟨x60, rfl, BW, h34⟩ := hI
              obtain rfl := h34 (by decide)
              replace W1 := Lib.hid (W1.out.trans (BW.out.mono W1.out.size))
              replace KB := Lib.hid (KB.out.below BW.out KB.out.lt)
              replace PI := Lib.hid (HB.out.below PI.out BW.out)
              replace PR := Lib.hid (HB.out.below PR.out BW.out)
              clear h34 BW
              try dsimp only
              refine wpAny_ready (rs := [35]) (by kernel_rfl) (by simp) ?_
              refine AllReady.cons (o := ?p51) ?q51 (fun K hK => ?_) AllReady.nil
              case q51 => simp only [List.getElem?_toArray, List.getElem?_cons_succ, List.getElem?_cons_zero]; rfl
              go_simp
              refine (CSN.out _ gi _ Mi PI.out).mono ?_
              rintro e y5 ⟨rfl, hX⟩
              refine hK _ _ ?_
              clear hK K
              try simp only [Act.put, List.setIfInBounds_toArray, List.set_cons_zero, List.set_cons_succ]
              replace W1 := Lib.hid (W1.out.trans (hX.mono W1.out.size))
              replace KB := Lib.hid (KB.out.below hX KB.out.lt)
              replace PI := Lib.hid (HB.out.below PI.out hX)
              replace PR := Lib.hid (HB.out.below PR.out hX)
              clear hX
              refine wpAny_take (i := 36) (oi := ?oi52) (v := .bool true) ?hi52 (by kernel_rfl) (by kernel_rfl) (by kernel_rfl) ?hQ52 ?hy52 ?rest52
              case hi52 => simp only [List.getElem?_toArray, List.getElem?_cons_succ, List.getElem?_cons_zero]; rfl
              case hQ52 => exact fun _ _ _ h => h
              case hy52 => exact Or.inl ⟨by rfl, by intro w; go_simp⟩
              try simp only [Act.put, List.setIfInBounds_toArray, List.set_cons_zero, List.set_cons_succ]
              refine wpAny_take (i := 37) (oi := ?oi53) (v := .bool true) ?hi53 (by kernel_rfl) (by kernel_rfl) (by kernel_rfl) ?hQ53 ?hy53 ?rest53
              case hi53 => simp only [List.getElem?_toArray, List.getElem?_cons_succ, List.getElem?_cons_zero]; rfl
              case hQ53 => exact fun _ _ _ h => h
              case hy53 => exact Or.inl ⟨by rfl, by intro w; go_simp⟩
              try simp only [Act.put, List.setIfInBounds_toArray, List.set_cons_zero, List.set_cons_succ]
              refine wpAny_take (i := 38) (oi := ?oi54) (v := .bool true) ?hi54 (by kernel_rfl) (by kernel_rfl) (by kernel_rfl) ?hQ54 ?hy54 ?rest54
              case hi54 => simp only [List.getElem?_toArray, List.getElem?_cons_succ, List.getElem?_cons_zero]; rfl
              case hQ54 => exact fun _ _ _ h => h
              case hy54 => exact Or.inl ⟨by rfl, by intro w; go_simp⟩
              try simp only [Act.put, List.setIfInBounds_toArray, List.set_cons_zero, List.set_cons_succ]
              refine wpAny_take (i := 39) (oi := ?oi55) (v := .pointer (some ⟨gi, 0, none⟩)) ?hi55 (by kernel_rfl) (by kernel_rfl) (by kernel_rfl) ?hQ55 ?hy55 ?rest55
              case hi55 => simp only [List.getElem?_toArray, List.getElem?_cons_succ, List.getElem?_cons_zero]; rfl
              case hQ55 => exact fun _ _ _ h => h
              case hy55 => exact Or.inl ⟨by rfl, by intro w; go_simp⟩
              try simp only [Act.put, List.setIfInBounds_toArray, List.set_cons_zero, List.set_cons_succ]
              refine phaseL (fun i => []) (fun d a w' => ∃ x66 x67 : Value, a = { tmps := #[.bool false, .pointer none, .pointer (some ⟨gk, 0, none⟩), .slice none 0 0, .bool false, .pointer (some ⟨gi, 0, none⟩), .pointer (some ⟨gr, 0, none⟩), .slice none 0 0, .bool false, .agg kc.toArray, .tuple #[.slice none 0 0, .bool false], .pointer none, .agg kc.toArray, .tuple #[.slice none 0 0, .bool false], .slice none 0 0, .bool false, .pointer (some ⟨t, 0, none⟩), .pointer (some ⟨gi, 0, none⟩), .pointer (some ⟨gr, 0, none⟩), .tuple #[.slice none 0 0, .bool false], .pointer (some ⟨gr, 0, none⟩), .agg kc.toArray, .slice Am 16 16, .tuple #[.slice none 0 0, .bool false], .slice none 0 0, .bool false, .bool true, .bool true, .pointer none, .agg kc.toArray, .slice none 0 0, .bool true, .bool true, .bool true, .bool false, .bool true, .bool true, .bool true, .pointer none, .agg kc.toArray, .agg zc.toArray, .agg zc.toArray, .bool true, .bool true, .bool true, .pointer none, .agg kc.toArray, .agg zc.toArray, .bool false, .bool true, .bool true, .bool true, .pointer none, .agg kc.toArray, .agg zc.toArray, .agg zc.toArray, .bool true, .bool true, .bool true, .pointer (some ⟨gi, 0, none⟩), .agg kc.toArray, .slice none 0 0, .bool true, .bool true, .bool true, .pointer (some ⟨gi, 0, none⟩), x66, x67, undef, undef, undef, undef, undef, undef, undef, undef, undef, undef, undef, undef, undef, undef, undef, undef, undef, undef, undef, undef, undef, undef], defers := [] } ∧ Hid (Below y5.heap.size y5 w') ∧ (d 40 = true → x66 = .agg kc.toArray) ∧ (d 41 = true → ∃ A : Option Addr, x67 = .slice A 3001 3001)) [40, 41] ?step56 23 2 [40, 41] _ _ _ rfl (by decide) (fun _ h => h) (Fits.of (by kernel_rfl)) ?init56 ?fin56
              case init56 => refine ⟨_, _, rfl, Below.refl _ _, ?_, ?_⟩ <;> (intro h; exact absurd h (by decide))
              case step56 =>
                intro i hi d a v56 hI hdi hdeps
                obtain ⟨x66, x67, rfl, BW, h40, h41⟩ := hI
                have hsw := BW.out.size
                simp only [List.mem_cons, List.not_mem_nil, or_false] at hi
                rcases hi with rfl | rfl
                · refine wpOp_step (o := ?os57) ?hos57 (fun K hK => ?_)
                  case hos57 => simp only [List.getElem?_toArray, List.getElem?_cons_succ, List.getElem?_cons_zero]; rfl
                  refine step_loadW rfl 34 (.tmp 2) rfl gk 0 rfl kc _ Tryd.underlying34 rfl IK.out (KB.out.below BW.out KB.out.lt).cells (hK _ _ ?_)
                  clear hK K
                  try simp only [Act.put, List.setIfInBounds_toArray, List.set_cons_zero, List.set_cons_succ]
                  exact ⟨_, _, rfl, BW, fun _ => rfl, fun a => by first | exact h41 (by simpa using a) | exact ⟨_, rfl⟩⟩
                · have hX := alloc_below v56 (.cells Z3.toArray 5)
                  have hmk := MK3.out
                  refine wpOp_step (o := ?os58) ?hos58 (fun K hK => ?_)
                  case hos58 => simp only [List.getElem?_toArray, List.getElem?_cons_succ, List.getElem?_cons_zero]; rfl
                  go_simp
                  refine hK _ _ ?_
                  clear hK K
                  try simp only [Act.put, List.setIfInBounds_toArray, List.set_cons_zero, List.set_cons_succ]
                  exact ⟨_, _, rfl, BW.out.trans (hX.mono hsw), fun a => by first | exact h40 (by simpa using a) | rfl, fun _ => ⟨_, rfl⟩⟩
              case fin56 =>
                intro a v56 hI
                obtain ⟨x66, x67, rfl, BW, h40, h41⟩ := hI
                obtain rfl := h40 (by decide)
                obtain ⟨An, rfl⟩ := h41 (by decide)
                replace W1 := Lib.hid (W1.out.trans (BW.out.mono W1.out.size))
                replace KB := Lib.hid (KB.out.below BW.out KB.out.lt)
                replace PI := Lib.hid (HB.out.below PI.out BW.out)
                replace PR := Lib.hid (HB.out.below PR.out BW.out)
                clear h40 h41 BW MK3
                try dsimp only
                refine wpAny_ready (rs := [42]) (by kernel_rfl) (by simp) ?_
                refine AllReady.cons (o := ?p59) ?q59 (fun K hK => ?_) AllReady.nil
                case q59 => simp only [List.getElem?_toArray, List.getElem?_cons_succ, List.getElem?_cons_zero]; rfl
                go_simp
                refine (CSL.out _ gi Mi _ PI.out).mono ?_
                rintro e y6 ⟨rfl, hX⟩
                refine hK _ _ ?_
                clear hK K
                try simp only [Act.put, List.setIfInBounds_toArray, List.set_cons_zero, List.set_cons_succ]
                replace W1 := Lib.hid (W1.out.trans (hX.mono W1.out.size))
                replace KB := Lib.hid (KB.out.below hX KB.out.lt)
                replace PI := Lib.hid (HB.out.below PI.out hX)
                replace PR := Lib.hid (HB.out.below PR.out hX)
                clear hX
                refine wpAny_take (i := 43) (oi := ?oi60) (v := .bool true) ?hi60 (by kernel_rfl) (by kernel_rfl) (by kernel_rfl) ?hQ60 ?hy60 ?rest60
                case hi60 => simp only [List.getElem?_toArray, List.getElem?_cons_succ, List.getElem?_cons_zero]; rfl
                case hQ60 => exact fun _ _ _ h => h
                case hy60 => exact Or.inl ⟨by rfl, by intro w; go_simp⟩
                try simp only [Act.put, List.setIfInBounds_toArray, List.set_cons_zero, List.set_cons_succ]
                refine wpAny_take (i := 44) (oi := ?oi61) (v := .bool true) ?hi61 (by kernel_rfl) (by kernel_rfl) (by kernel_rfl) ?hQ61 ?hy61 ?rest61
                case hi61 => simp only [List.getElem?_toArray, List.getElem?_cons_succ, List.getElem?_cons_zero]; rfl
                case hQ61 => exact fun _ _ _ h => h
                case hy61 => exact Or.inl ⟨by rfl, by intro w; go_simp⟩
                try simp only [Act.put, List.setIfInBounds_toArray, List.set_cons_zero, List.set_cons_succ]
                refine wpAny_take (i := 45) (oi := ?oi62) (v := .bool true) ?hi62 (by kernel_rfl) (by kernel_rfl) (by kernel_rfl) ?hQ62 ?hy62 ?rest62
                case hi62 => simp only [List.getElem?_toArray, List.getElem?_cons_succ, List.getElem?_cons_zero]; rfl
                case hQ62 => exact fun _ _ _ h => h
                case hy62 => exact Or.inl ⟨by rfl, by intro w; go_simp⟩
                try simp only [Act.put, List.setIfInBounds_toArray, List.set_cons_zero, List.set_cons_succ]
                refine wpAny_take (i := 46) (oi := ?oi63) (v := .pointer (some ⟨gr, 0, none⟩)) ?hi63 (by kernel_rfl) (by kernel_rfl) (by kernel_rfl) ?hQ63 ?hy63 ?rest63
                case hi63 => simp only [List.getElem?_toArray, List.getElem?_cons_succ, List.getElem?_cons_zero]; rfl
                case hQ63 => exact fun _ _ _ h => h
                case hy63 => exact Or.inl ⟨by rfl, by intro w; go_simp⟩
                try simp only [Act.put, List.setIfInBounds_toArray, List.set_cons_zero, List.set_cons_succ]
                refine phaseL (fun i => []) (fun d a w' => ∃ x73 : Value, a = { tmps := #[.bool false, .pointer none, .pointer (some ⟨gk, 0, none⟩), .slice none 0 0, .bool false, .pointer (some ⟨gi, 0, none⟩), .pointer (some ⟨gr, 0, none⟩), .slice none 0 0, .bool false, .agg kc.toArray, .tuple #[.slice none 0 0, .bool false], .pointer none, .agg kc.toArray, .tuple #[.slice none 0 0, .bool false], .slice none 0 0, .bool false, .pointer (some ⟨t, 0, none⟩), .pointer (some ⟨gi, 0, none⟩), .pointer (some ⟨gr, 0, none⟩), .tuple #[.slice none 0 0, .bool false], .pointer (some ⟨gr, 0, none⟩), .agg kc.toArray, .slice Am 16 16, .tuple #[.slice none 0 0, .bool false], .slice none 0 0, .bool false, .bool true, .bool true, .pointer none, .agg kc.toArray, .slice none 0 0, .bool true, .bool true, .bool true, .bool false, .bool true, .bool true, .bool true, .pointer none, .agg kc.toArray, .agg zc.toArray, .agg zc.toArray, .bool true, .bool true, .bool true, .pointer none, .agg kc.toArray, .agg zc.toArray, .bool false, .bool true, .bool true, .bool true, .pointer none, .agg kc.toArray, .agg zc.toArray, .agg zc.toArray, .bool true, .bool true, .bool true, .pointer (some ⟨gi, 0, none⟩), .agg kc.toArray, .slice none 0 0, .bool true, .bool true, .bool true, .pointer (some ⟨gi, 0, none⟩), .agg kc.toArray, .slice An 3001 3001, .slice none 0 0, .bool true, .bool true, .bool true, .pointer (some ⟨gr, 0, none⟩), x73, undef, undef, undef, undef, undef, undef, undef, undef, undef, undef, undef, undef, undef, undef, undef, undef], defers := [] } ∧ Hid (Below y6.heap.size y6 w') ∧ (d 47 = true → x73 = .agg kc.toArray)) [47] ?step64 17 1 [47] _ _ _ rfl (by decide) (fun _ h => h) (Fits.of (by kernel_rfl)) ?init64 ?fin64
                case init64 => refine ⟨_, rfl, Below.refl _ _, ?_⟩ <;> (intro h; exact absurd h (by decide))
                case step64 =>
                  intro i hi d a v64 hI hdi hdeps
                  obtain ⟨x73, rfl, BW, h47⟩ := hI
                  have hsw := BW.out.size
                  simp only [List.mem_cons, List.not_mem_nil, or_false] at hi
                  subst hi
                  refine wpOp_step (o := ?os65) ?hos65 (fun K hK => ?_)
                  case hos65 => simp only [List.getElem?_toArray, List.getElem?_cons_succ, List.getElem?_cons_zero]; rfl
                  refine step_loadW rfl 34 (.tmp 2) rfl gk 0 rfl kc _ Tryd.underlying34 rfl IK.out (KB.out.below BW.out KB.out.lt).cells (hK _ _ ?_)
                  clear hK K
                  try simp only [Act.put, List.setIfInBounds_toArray, List.set_cons_zero, List.set_cons_succ]
                  exact ⟨_, rfl, BW, fun _ => rfl⟩
                case fin64 =>
                  intro a v64 hI
                  obtain ⟨x73, rfl, BW, h47⟩ := hI
                  obtain rfl := h47 (by decide)
                  replace W1 := Lib.hid (W1.out.trans (BW.out.mono W1.out.size))
                  replace KB := Lib.hid (KB.out.below BW.out KB.out.lt)
                  replace PI := Lib.hid (HB.out.below PI.out BW.out)
                  replace PR := Lib.hid (HB.out.below PR.out BW.out)
                  clear h47 BW
                  try dsimp only
                  refine wpAny_ready (rs := [48]) (by kernel_rfl) (by simp) ?_
                  refine AllReady.cons (o := ?p66) ?q66 (fun K hK => ?_) AllReady.nil
                  case q66 => simp only [List.getElem?_toArray, List.getElem?_cons_succ, List.getElem?_cons_zero]; rfl
                  go_simp
                  refine (CSN.out _ gr _ Mr PR.out).mono ?_
                  rintro e y7 ⟨rfl, hX⟩
                  refine hK _ _ ?_
                  clear hK K
                  try simp only [Act.put, List.setIfInBounds_toArray, List.set_cons_zero, List.set_cons_succ]
                  replace W1 := Lib.hid (W1.out.trans (hX.mono W1.out.size))
                  replace KB := Lib.hid (KB.out.below hX KB.out.lt)
                  replace PI := Lib.hid (HB.out.below PI.out hX)
                  replace PR := Lib.hid (HB.out.below PR.out hX)
                  clear hX
                  refine wpAny_take (i := 49) (oi := ?oi67) (v := .bool true) ?hi67 (by kernel_rfl) (by kernel_rfl) (by kernel_rfl) ?hQ67 ?hy67 ?rest67
                  case hi67 => simp only [List.getElem?_toArray, List.getElem?_cons_succ, List.getElem?_cons_zero]; rfl
                  case hQ67 => exact fun _ _ _ h => h
                  case hy67 => exact Or.inl ⟨by rfl, by intro w; go_simp⟩
                  try simp only [Act.put, List.setIfInBounds_toArray, List.set_cons_zero, List.set_cons_succ]
                  refine wpAny_take (i := 50) (oi := ?oi68) (v := .bool true) ?hi68 (by kernel_rfl) (by kernel_rfl) (by kernel_rfl) ?hQ68 ?hy68 ?rest68
                  case hi68 => simp only [List.getElem?_toArray, List.getElem?_cons_succ, List.getElem?_cons_zero]; rfl
                  case hQ68 => exact fun _ _ _ h => h
                  case hy68 => exact Or.inl ⟨by rfl, by intro w; go_simp⟩
                  try simp only [Act.put, List.setIfInBounds_toArray, List.set_cons_zero, List.set_cons_succ]
                  refine wpAny_take (i := 51) (oi := ?oi69) (v := .bool true) ?hi69 (by kernel_rfl) (by kernel_rfl) (by kernel_rfl) ?hQ69 ?hy69 ?rest69
                  case hi69 => simp only [List.getElem?_toArray, List.getElem?_cons_succ, List.getElem?_cons_zero]; rfl
                  case hQ69 => exact fun _ _ _ h => h
                  case hy69 => exact Or.inl ⟨by rfl, by intro w; go_simp⟩
                  try simp only [Act.put, List.setIfInBounds_toArray, List.set_cons_zero, List.set_cons_succ]
                  refine wpAny_take (i := 52) (oi := ?oi70) (v := .bool false) ?hi70 (by kernel_rfl) (by kernel_rfl) (by kernel_rfl) ?hQ70 ?hy70 ?rest70
                  case hi70 => simp only [List.getElem?_toArray, List.getElem?_cons_succ, List.getElem?_cons_zero]; rfl
                  case hQ70 => exact fun _ _ _ h => h
                  case hy70 => exact Or.inl ⟨by rfl, by intro w; go_simp⟩
                  try simp only [Act.put, List.setIfInBounds_toArray, List.set_cons_zero, List.set_cons_succ]
                  refine wpAny_take (i := 53) (oi := ?oi71) (v := .bool true) ?hi71 (by kernel_rfl) (by kernel_rfl) (by kernel_rfl) ?hQ71 ?hy71 ?rest71
                  case hi71 => simp only [List.getElem?_toArray, List.getElem?_cons_succ, List.getElem?_cons_zero]; rfl
                  case hQ71 => exact fun _ _ _ h => h
                  case hy71 => exact Or.inl ⟨by rfl, by intro w; go_simp⟩
                  try simp only [Act.put, List.setIfInBounds_toArray, List.set_cons_zero, List.set_cons_succ]
                  refine wpAny_take (i := 54) (oi := ?oi72) (v := .bool true) ?hi72 (by kernel_rfl) (by kernel_rfl) (by kernel_rfl) ?hQ72 ?hy72 ?rest72
                  case hi72 => simp only [List.getElem?_toArray, List.getElem?_cons_succ, List.getElem?_cons_zero]; rfl
                  case hQ72 => exact fun _ _ _ h => h
                  case hy72 => exact Or.inl ⟨by rfl, by intro w; go_simp⟩
                  try simp only [Act.put, List.setIfInBounds_toArray, List.set_cons_zero, List.set_cons_succ]
                  refine wpAny_take (i := 55) (oi := ?oi73) (v := .bool true) ?hi73 (by kernel_rfl) (by kernel_rfl) (by kernel_rfl) ?hQ73 ?hy73 ?rest73
                  case hi73 => simp only [List.getElem?_toArray, List.getElem?_cons_succ, List.getElem?_cons_zero]; rfl
                  case hQ73 => exact fun _ _ _ h => h
                  case hy73 => exact Or.inl ⟨by rfl, by intro w; go_simp⟩
                  try simp only [Act.put, List.setIfInBounds_toArray, List.set_cons_zero, List.set_cons_succ]
                  refine wpAny_take (i := 56) (oi := ?oi74) (v := .pointer (some ⟨gi, 0, none⟩)) ?hi74 (by kernel_rfl) (by kernel_rfl) (by kernel_rfl) ?hQ74 ?hy74 ?rest74
                  case hi74 => simp only [List.getElem?_toArray, List.getElem?_cons_succ, List.getElem?_cons_zero]; rfl
                  case hQ74 => exact fun _ _ _ h => h
                  case hy74 => exact Or.inl ⟨by rfl, by intro w; go_simp⟩
                  try simp only [Act.put, List.setIfInBounds_toArray, List.set_cons_zero, List.set_cons_succ]
                  refine phaseL (fun i => []) (fun d a w' => ∃ x83 : Value, a = { tmps := #[.bool false, .pointer none, .pointer (some ⟨gk, 0, none⟩), .slice none 0 0, .bool false, .pointer (some ⟨gi, 0, none⟩), .pointer (some ⟨gr, 0, none⟩), .slice none 0 0, .bool false, .agg kc.toArray, .tuple #[.slice none 0 0, .bool false], .pointer none, .agg kc.toArray, .tuple #[.slice none 0 0, .bool false], .slice none 0 0, .bool false, .pointer (some ⟨t, 0, none⟩), .pointer (some ⟨gi, 0, none⟩), .pointer (some ⟨gr, 0, none⟩), .tuple #[.slice none 0 0, .bool false], .pointer (some ⟨gr, 0, none⟩), .agg kc.toArray, .slice Am 16 16, .tuple #[.slice none 0 0, .bool false], .slice none 0 0, .bool false, .bool true, .bool true, .pointer none, .agg kc.toArray, .slice none 0 0, .bool true, .bool true, .bool true, .bool false, .bool true, .bool true, .bool true, .pointer none, .agg kc.toArray, .agg zc.toArray, .agg zc.toArray, .bool true, .bool true, .bool true, .pointer none, .agg kc.toArray, .agg zc.toArray, .bool false, .bool true, .bool true, .bool true, .pointer none, .agg kc.toArray, .agg zc.toArray, .agg zc.toArray, .bool true, .bool true, .bool true, .pointer (some ⟨gi, 0, none⟩), .agg kc.toArray, .slice none 0 0, .bool true, .bool true, .bool true, .pointer (some ⟨gi, 0, none⟩), .agg kc.toArray, .slice An 3001 3001, .slice none 0 0, .bool true, .bool true, .bool true, .pointer (some ⟨gr, 0, none⟩), .agg kc.toArray, .slice none 0 0, .bool true, .bool true, .bool true, .bool false, .bool true, .bool true, .bool true, .pointer (some ⟨gi, 0, none⟩), x83, undef, undef, undef, undef, undef, undef], defers := [] } ∧ Hid (Below y7.heap.size y7 w') ∧ (d 57 = true → x83 = .agg kc.toArray)) [57] ?step75 7 1 [57] _ _ _ rfl (by decide) (fun _ h => h) (Fits.of (by kernel_rfl)) ?init75 ?fin75
                  case init75 => refine ⟨_, rfl, Below.refl _ _, ?_⟩ <;> (intro h; exact absurd h (by decide))
                  case step75 =>
                    intro i hi d a v75 hI hdi hdeps
                    obtain ⟨x83, rfl, BW, h57⟩ := hI
                    have hsw := BW.out.size
                    simp only [List.mem_cons, List.not_mem_nil, or_false] at hi
                    subst hi
                    refine wpOp_step (o := ?os76) ?hos76 (fun K hK => ?_)
                    case hos76 => simp only [List.getElem?_toArray, List.getElem?_cons_succ, List.getElem?_cons_zero]; rfl
                    refine step_loadW rfl 34 (.tmp 2) rfl gk 0 rfl kc _ Tryd.underlying34 rfl IK.out (KB.out.below BW.out KB.out.lt).cells (hK _ _ ?_)
                    clear hK K
                    try simp only [Act.put, List.setIfInBounds_toArray, List.set_cons_zero, List.set_cons_succ]
                    exact ⟨_, rfl, BW, fun _ => rfl⟩
                  case fin75 =>
                    intro a v75 hI
                    obtain ⟨x83, rfl, BW, h57⟩ := hI
                    obtain rfl := h57 (by decide)
                    replace W1 := Lib.hid (W1.out.trans (BW.out.mono W1.out.size))
                    replace KB := Lib.hid (KB.out.below BW.out KB.out.lt)
                    replace PI := Lib.hid (HB.out.below PI.out BW.out)
                    replace PR := Lib.hid (HB.out.below PR.out BW.out)
                    clear h57 BW
                    try dsimp only
                    refine wpAny_ready (rs := [58]) (by kernel_rfl) (by simp) ?_
                    refine AllReady.cons (o := ?p77) ?q77 (fun K hK => ?_) AllReady.nil
                    case q77 => simp only [List.getElem?_toArray, List.getElem?_cons_succ, List.getElem?_cons_zero]; rfl
                    go_simp
                    refine (CSI.out _ gi Mi (HG.out.below W1.out hsz) (fun b hb => Nat.le_trans hsz (MI.out b hb)) PI.out).mono ?_
                    rintro e z1 ⟨A4, c4, rfl, hR, hF⟩
                    refine hK _ _ ?_
                    clear hK K
                    try simp only [Act.put, List.setIfInBounds_toArray, List.set_cons_zero, List.set_cons_succ]
                    have R4 := Lib.hid hR
                    replace W1 := Lib.hid (hF.below W1.out MI.out W1.out.size)
                    clear hR hF PI PR KB hnil
                    refine phaseL (fun i => if i = 61 then [60] else []) (fun d a w' => ∃ x85 x86 x87 : Value, a = { tmps := #[.bool false, .pointer none, .pointer (some ⟨gk, 0, none⟩), .slice none 0 0, .bool false, .pointer (some ⟨gi, 0, none⟩), .pointer (some ⟨gr, 0, none⟩), .slice none 0 0, .bool false, .agg kc.toArray, .tuple #[.slice none 0 0, .bool false], .pointer none, .agg kc.toArray, .tuple #[.slice none 0 0, .bool false], .slice none 0 0, .bool false, .pointer (some ⟨t, 0, none⟩), .pointer (some ⟨gi, 0, none⟩), .pointer (some ⟨gr, 0, none⟩), .tuple #[.slice none 0 0, .bool false], .pointer (some ⟨gr, 0, none⟩), .agg kc.toArray, .slice Am 16 16, .tuple #[.slice none 0 0, .bool false], .slice none 0 0, .bool false, .bool true, .bool true, .pointer none, .agg kc.toArray, .slice none 0 0, .bool true, .bool true, .bool true, .bool false, .bool true, .bool true, .bool true, .pointer none, .agg kc.toArray, .agg zc.toArray, .agg zc.toArray, .bool true, .bool true, .bool true, .pointer none, .agg kc.toArray, .agg zc.toArray, .bool false, .bool true, .bool true, .bool true, .pointer none, .agg kc.toArray, .agg zc.toArray, .agg zc.toArray, .bool true, .bool true, .bool true, .pointer (some ⟨gi, 0, none⟩), .agg kc.toArray, .slice none 0 0, .bool true, .bool true, .bool true, .pointer (some ⟨gi, 0, none⟩), .agg kc.toArray, .slice An 3001 3001, .slice none 0 0, .bool true, .bool true, .bool true, .pointer (some ⟨gr, 0, none⟩), .agg kc.toArray, .slice none 0 0, .bool true, .bool true, .bool true, .bool false, .bool true, .bool true, .bool true, .pointer (some ⟨gi, 0, none⟩), .agg kc.toArray, .slice A4 16 c4, x85, x86, x87, undef, undef], defers := [] } ∧ Hid (Below z1.heap.size z1 w') ∧ (d 59 = true → x85 = .string ⟨lt.toArray⟩) ∧ (d 60 = true → Hid (∃ A c, x86 = .slice A 16 c ∧ Rd w' A 16 c lt)) ∧ (d 61 = true → x87 = .string ⟨lt.toArray⟩)) [59, 60, 61] ?step78 3 3 [59, 60, 61] _ _ _ rfl (by decide) (fun _ h => h) (Fits.of (by kernel_rfl)) ?init78 ?fin78
                    case init78 => refine ⟨_, _, _, rfl, Below.refl _ _, ?_, ?_, ?_⟩ <;> (intro h; exact absurd h (by decide))
                    case step78 =>
                      intro i hi d a v78 hI hdi hdeps
                      obtain ⟨x85, x86, x87, rfl, BW, h59, h60, h61⟩ := hI
                      have hsw := BW.out.size
                      simp only [List.mem_cons, List.not_mem_nil, or_false] at hi
                      rcases hi with rfl | rfl | rfl
                      · have hcv := conv_bytes (R4.out.below BW.out)
                        refine wpOp_step (o := ?os79) ?hos79 (fun K hK => ?_)
                        case hos79 => simp only [List.getElem?_toArray, List.getElem?_cons_succ, List.getElem?_cons_zero]; rfl
                        go_simp
                        refine hK _ _ ?_
                        clear hK K
                        try simp only [Act.put, List.setIfInBounds_toArray, List.set_cons_zero, List.set_cons_succ]
                        exact ⟨_, _, _, rfl, BW, fun _ => rfl, fun a => h60 (by simpa using a), fun a => by first | exact h61 (by simpa using a) | rfl⟩
                      · refine wpOp_step (o := ?os80) ?hos80 (fun K hK => ?_)
                        case hos80 => simp only [List.getElem?_toArray, List.getElem?_cons_succ, List.getElem?_cons_zero]; rfl
                        go_simp
                        refine (CT.out v78).mono ?_
                        rintro e u78 ⟨AX, cX, rfl, hR, hX⟩
                        refine hK _ _ ?_
                        clear hK K
                        try simp only [Act.put, List.setIfInBounds_toArray, List.set_cons_zero, List.set_cons_succ]
                        exact ⟨_, _, _, rfl, BW.out.trans (hX.mono hsw), fun a => by first | exact h59 (by simpa using a) | rfl, fun _ => ⟨_, _, rfl, hR⟩, fun a => by first | exact h61 (by simpa using a) | rfl⟩
                      · obtain ⟨AY, cY, rfl, hRY⟩ := (h60 (hdeps 60 (by simp))).out
                        have hcv := conv_bytes hRY
                        refine wpOp_step (o := ?os81) ?hos81 (fun K hK => ?_)
                        case hos81 => simp only [List.getElem?_toArray, List.getElem?_cons_succ, List.getElem?_cons_zero]; rfl
                        go_simp
                        refine hK _ _ ?_
                        clear hK K
                        try simp only [Act.put, List.setIfInBounds_toArray, List.set_cons_zero, List.set_cons_succ]
                        exact ⟨_, _, _, rfl, BW, fun a => by first | exact h59 (by simpa using a) | rfl, fun a => h60 (by simpa using a), fun _ => rfl⟩
                    case fin78 =>
                      intro a v78 hI
                      obtain ⟨x85, x86, x87, rfl, BW, h59, h60, h61⟩ := hI
                      obtain rfl := h59 (by decide)
                      obtain rfl := h61 (by decide)
                      obtain ⟨A5, c5, rfl, _⟩ := (h60 (by decide)).out
                      have hss := str_same lt
                      replace W1 := Lib.hid (W1.out.trans (BW.out.mono W1.out.size))
                      clear h59 h60 h61 BW R4
                      try dsimp only
                      refine wpAny_take (i := 62) (oi := ?oi82) (v := .bool true) ?hi82 (by kernel_rfl) (by kernel_rfl) (by kernel_rfl) ?hQ82 ?hy82 ?rest82
                      case hi82 => simp only [List.getElem?_toArray, List.getElem?_cons_succ, List.getElem?_cons_zero]; rfl
                      case hQ82 => exact fun _ _ _ h => h
                      case hy82 => exact Or.inl ⟨by rfl, by intro w; go_simp⟩
                      try simp only [Act.put, List.setIfInBounds_toArray, List.set_cons_zero, List.set_cons_succ]
                      refine wpAny_take (i := 63) (oi := ?oi83) (v := .bool true) ?hi83 (by kernel_rfl) (by kernel_rfl) (by kernel_rfl) ?hQ83 ?hy83 ?rest83
                      case hi83 => simp only [List.getElem?_toArray, List.getElem?_cons_succ, List.getElem?_cons_zero]; rfl
                      case hQ83 => exact fun _ _ _ h => h
                      case hy83 => exact Or.inl ⟨by rfl, by intro w; go_simp⟩
                      try simp only [Act.put, List.setIfInBounds_toArray, List.set_cons_zero, List.set_cons_succ]
                      refine wpAny_take (i := 64) (oi := ?oi84) (v := .bool true) ?hi84 (by kernel_rfl) (by kernel_rfl) (by kernel_rfl) ?hQ84 ?hy84 ?rest84
                      case hi84 => simp only [List.getElem?_toArray, List.getElem?_cons_succ, List.getElem?_cons_zero]; rfl
                      case hQ84 => exact fun _ _ _ h => h
                      case hy84 => exact Or.inl ⟨by rfl, by intro w; go_simp⟩
                      try simp only [Act.put, List.setIfInBounds_toArray, List.set_cons_zero, List.set_cons_succ]
                      refine wpAny_done (by kernel_rfl) ?_ _
                      clear hss
                      go_wp2_with fail
                      go_ret
                      exact ⟨rfl, W1.out⟩
end Go.Proofs.YtpbfeobifpmjbaaDoor.boxNone
