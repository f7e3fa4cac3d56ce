/-
  PROVED: for all key, info, a and b the law MacExpand answers true (a longer expansion begins with a shorter one; 8,160 bytes and not one more). CONDITIONS: none beyond the card's own.
-/
import Derived.Test.YtbepofmkfloajaaDoorConv
import Derived.Lib.LazyBuf
import Derived.Test.YtbepofmkfloajaaDoorTie
import Derived.Test.YtbepofmkfloajaaDoorCards
import Derived.OpenShut
import Derived.Stop.Joined
import Derived.SevenTiedAt
namespace Go.Proofs.YtbepofmkfloajaaDoor.macExpand
open Go.ChangeShapes Go.WideShapes Go.ChangeAt Go.RowKit
set_option linter.unusedVariables false
set_option linter.unusedSimpArgs false

set_option maxRecDepth 100000 in
set_option maxHeartbeats 2000000 in
theorem walk_out {A0 A1 : Option Addr} {n0 c0 n1 c1 : Nat} {x0 x1 : List UInt8} (a b : Int) (w : World) (hg : Gl w) (hr0 : Rd w A0 n0 c0 x0) (hr1 : Rd w A1 n1 c1 x1) (h : a < 1 ∨ b < a ∨ 400 < b) :
    Calls Tryd.prog 9 #[.slice A0 n0 c0, .slice A1 n1 c1, .int .i64 a, .int .i64 b] w fun e w' => e = .returned (.bool true) ∧ Below w.heap.size w w' := by
  have HG := Lib.hid hg
  have R0 := Lib.hid hr0
  have R1 := Lib.hid hr1
  clear hg hr0 hr1
  go_enter Tryd.func9, Tryd.ntmps9
  go_wp2_with (first | (go_at_call 15; refine (begun_any HG.out).mono ?_; rintro e w1 ⟨rfl, HB⟩; have HB1 := Lib.hid HB; clear HB))
  refine (short_any 40 (R0.out.below HB1.out) (by omega)).mono ?_
  rintro e w' ⟨A2, n2, c2, rfl, hr2, rfl⟩
  clear hr2 R0
  go_wp2_with fail
  refine (short_any 40 (R1.out.below HB1.out) (by omega)).mono ?_
  rintro e w' ⟨A3, n3, c3, rfl, hr3, rfl⟩
  clear hr3 R1
  by_cases h1 : a < 1
  · have hd : decide (a < 1) = true := by simpa using h1
    clear h
    go_wp2_with fail
    go_ret
    exact ⟨rfl, HB1.out⟩
  · have hd : decide (a < 1) = false := by simpa using h1
    by_cases h2 : b < a
    · have hd2 : decide (b < a) = true := by simpa using h2
      clear h
      go_wp2_with fail
      go_ret
      exact ⟨rfl, HB1.out⟩
    · have hd2 : decide (b < a) = false := by simpa using h2
      have h3 : 400 < b := by omega
      have hd3 : decide (400 < b) = true := by simpa using h3
      clear h
      go_wp2_with fail
      go_ret
      exact ⟨rfl, HB1.out⟩

set_option maxRecDepth 100000 in
set_option maxHeartbeats 4000000 in
theorem walkIn {A0 A1 : Option Addr} {n0 c0 n1 c1 : Nat} {x0 x1 : List UInt8} (a b : Nat) (w : World) (hg : Gl w) (hr0 : Rd w A0 n0 c0 x0) (hr1 : Rd w A1 n1 c1 x1) (h1 : 1 ≤ a) (h2 : a ≤ b) (h3 : b ≤ 400) :
    Calls Tryd.prog 9 #[.slice A0 n0 c0, .slice A1 n1 c1, .int .i64 (a : Int), .int .i64 (b : Int)] w fun e w' => e = .returned (.bool true) ∧ Below w.heap.size w w' := by
  have HG := Lib.hid hg
  have hsz := hg.size
  have R0 := Lib.hid hr0
  have R1 := Lib.hid hr1
  clear hg hr0 hr1
  have hd : decide ((a : Int) < 1) = false := by simp; omega
  have hd2 : decide (b < a) = false := by simp; omega
  have hd2' : decide ((b : Int) < (a : Int)) = false := by simp; omega
  have hd3 : decide ((400 : Int) < (b : Int)) = false := by simp; omega
  go_enter Tryd.func9, Tryd.ntmps9
  go_wp2_with (first | (go_at_call 15; refine (begun_any HG.out).mono ?_; rintro e w1 ⟨rfl, HB⟩; have W1 := Lib.hid HB; clear HB))
  refine (short_any 40 (R0.out.below W1.out) (by omega)).mono ?_
  rintro e w' ⟨A2, n2, c2, rfl, hr2, rfl⟩
  have R2 := Lib.hid hr2
  clear hr2
  go_wp2_with fail
  refine (short_any 40 (R1.out.below W1.out) (by omega)).mono ?_
  rintro e w' ⟨A3, n3, c3, rfl, hr3, rfl⟩
  have R3 := Lib.hid hr3
  have hl2 : n2 ≤ 40 := by rw [← R2.out.len, List.length_take]; omega
  have hl3 : n3 ≤ 40 := by rw [← hr3.len, List.length_take]; omega
  clear hr3 R0 R1
  obtain ⟨key, hke⟩ : ∃ l, l = x0.take 40 := ⟨_, rfl⟩
  obtain ⟨info, hie⟩ : ∃ l, l = x1.take 40 := ⟨_, rfl⟩
  rw [← hke] at R2
  rw [← hie] at R3
  clear hke hie
  have HG1 := Lib.hid (HG.out.below W1.out HG.out.size)
  go_wp2_with fail
  refine (expand_any HG1.out R2.out (by omega) R3.out (by omega) a h1 (by omega)).mono ?_
  rintro e w2 ⟨gx, rfl, hrx, hgx, hX⟩
  have RX := Lib.hid hrx
  have W2 := Lib.hid (W1.out.trans (hX.mono W1.out.size))
  have HG2 := Lib.hid (HG.out.below W2.out HG.out.size)
  have R22 := Lib.hid (R2.out.below hX)
  have R32 := Lib.hid (R3.out.below hX)
  clear hrx hX HG1 R2 R3
  go_wp2_with fail
  refine (expand_any HG2.out R22.out (by omega) R32.out (by omega) b (by omega) (by omega)).mono ?_
  rintro e w3 ⟨gy, rfl, hry, hgy, hX⟩
  have RX3 := Lib.hid (RX.out.below hX)
  have W3 := Lib.hid (W2.out.trans (hX.mono W2.out.size)).drew
  have RY3 := Lib.hid hry
  clear hry hX RX R22 R32 W1 W2 HG2
  have hsl : ∀ W, (Instr.slice 23 (.slice (some ⟨gy, 0, none⟩) b b) none (some (.int .i64 (a : Int))) none).run Tryd.prog W = .ok (.slice (cutA (some ⟨gy, 0, none⟩) b 0) a b) W := fun W => slice_h _ b b a h2 W
  have hcut := RY3.out.drew.cut (k := 0) (e := a) (by omega) h2
  simp only [List.drop_zero, Nat.sub_zero] at hcut
  rw [expand_take key info a b h2] at hcut
  have cv1 := conv_bytes hcut
  have cv2 := conv_bytes RX3.out.drew
  clear hcut
  have hb1 : ((a : Int) == (a : Int)) = true := by simp
  have hnil : ∀ W, (binOp .eql 23 (.slice none 0 0) (.slice none 0 0)).run Tryd.prog W = .ok (.bool true) W := fun W => Go.run_eql_slice_nil W 23 5 none 0 0 Tryd.underlying23
  have hb2 : ((b : Int) == (b : Int)) = true := by simp
  go_wp2_with fail
  refine wp_region_still_lit (by kernel_rfl) (by kernel_rfl) ?_
  have hD : ({ w3 with drawn := w3.drawn + 1 } : World) = w3.drew := rfl
  rw [hD]
  clear hD
  generalize w3.drew = w4 at *
  repeat (first | still_step | still_call ((expand_none _ (by omega)).mono fun _ _ h => ⟨h.1, h.2.symm⟩))
  refine wpStill_nil ?_
  clear cv1 cv2 hsl
  go_wp2_with fail
  go_ret
  exact ⟨rfl, W3.out⟩

theorem walk {A0 A1 : Option Addr} {n0 c0 n1 c1 : Nat} {x0 x1 : List UInt8} (a b : Int) (w : World) (hg : Gl w) (hr0 : Rd w A0 n0 c0 x0) (hr1 : Rd w A1 n1 c1 x1) :
    Calls Tryd.prog 9 #[.slice A0 n0 c0, .slice A1 n1 c1, .int .i64 a, .int .i64 b] w fun e w' => e = .returned (.bool true) ∧ Below w.heap.size w w' := by
  by_cases h : a < 1 ∨ b < a ∨ 400 < b
  · exact walk_out a b w hg hr0 hr1 h
  · obtain ⟨n, rfl⟩ := Int.eq_ofNat_of_zero_le (show 0 ≤ a by omega)
    obtain ⟨m, rfl⟩ := Int.eq_ofNat_of_zero_le (show 0 ≤ b by omega)
    exact walkIn n m w hg hr0 hr1 (by omega) (by omega) (by omega)

set_option maxRecDepth 100000 in
theorem lifted (os : Os) (started : os.Started) (H : Type) (enc : TypeId × Value → H) :
    ReturnsInHanded {} Tryd.checked os 9 .any (fun w args => (Rows.macExpandSpec.pre enc Tryd.prog Tryd.f9 [] false w args ∧ laidMetH Tryd.prog laid2 w) ∧ sizedMet enc Tryd.prog Tryd.f9 (OpenSpec.ofChange Rows.macExpandSpec) false w args)
      (Rows.macExpandSpec.post enc Tryd.prog Tryd.f9 false true false false) := by
  refine returnsInHanded_of_change_and (C := Tryd.checked) (X := fun w _ => laidMetH Tryd.prog laid2 w) (fun _ _ _ hh h => h.of_heap hh) own started (by kernel_rfl) Tryd.func9
    (ChangeSpec.witness_shaped (enc := enc) (C := Tryd.checked) (os := os) (X := fun w _ => laidMetH Tryd.prog laid2 w) false (World.doorLaid Tryd.prog 400 os) #[.slice none 0 0, .slice none 0 0, .int .i64 0, .int .i64 0] 8 rfl (World.shaped_of_RefB (by kernel_rfl) (by kernel_rfl)) (by kernel_rfl) (by kernel_rfl) (by kernel_rfl) (door_met os _)) ?_
  intro W base args ds gs before hval0 hW _ _ hL _
  have hval : ∀ (j : Nat) t v, Tryd.f9.params[j]? = some t → args[j]? = some v → Value.okWide Tryd.prog W .any base t v := hval0
  have hW' := hW
  obtain ⟨p, q, hA0, hV, rfl, hfz, hnd⟩ := hW
  have hA : DataW.TrodAll enc Tryd.prog W 0 (fun _ => true) true Tryd.f9.params.toList args.toList ds p := hA0
  rw [Tryd.params9] at hA hval
  have hG := gl_of_laid hL
  obtain ⟨v0, vs0, d0, ds0, p0, q0, hargs, rfl, rfl, h0, r0⟩ := trodAll_cons hA
  obtain ⟨v1, vs1, d1, ds1, p1, q1, rfl, rfl, rfl, h1, r1⟩ := trodAll_cons r0
  obtain ⟨v2, vs2, d2, ds2, p2, q2, rfl, rfl, rfl, h2, r2⟩ := trodAll_cons r1
  obtain ⟨v3, vs3, d3, ds3, p3, q3, rfl, rfl, rfl, h3, r3⟩ := trodAll_cons r2
  obtain ⟨rfl, rfl, rfl⟩ := trodAll_nil r3
  obtain rfl : args = #[v0, v1, v2, v3] := by cases args; simp_all
  obtain ⟨rfl, rfl⟩ := trodVars_none hV
  obtain ⟨a0, len0, cap0, rfl⟩ := okWide_slice Tryd.underlying23 (hval 0 23 v0 rfl rfl)
  have k0 := h0
  have lt0 : ∀ x ∈ p0, x.block < W.heap.size := by obtain ⟨m, hm⟩ := k0; exact DataW.trod_lt m _ _ _ hm
  obtain ⟨l0, hr0⟩ : ∃ l, Rd W a0 len0 cap0 l := by
    obtain ⟨fuel, hf⟩ := h0
    rcases open_ints Tryd.underlying23 Tryd.underlying5 (by kernel_rfl) hf with ⟨hcs, _⟩ | ⟨x, l, c, zs, hcs, _, hl, hm, hz, _, hcell, hwz⟩
    · simp [Value.cells] at hcs
      obtain ⟨rfl, rfl, rfl⟩ := hcs
      exact rd_came (zs := []) (.inl ⟨rfl, rfl, rfl, rfl⟩)
    · simp [Value.cells] at hcs
      obtain ⟨rfl, rfl, rfl⟩ := hcs
      exact rd_came (.inr ⟨_, rfl, hl, hm, by simpa using hz, hcell, hwz⟩)
  obtain ⟨a1, len1, cap1, rfl⟩ := okWide_slice Tryd.underlying23 (hval 1 23 v1 rfl rfl)
  have k1 := h1
  have lt1 : ∀ x ∈ p1, x.block < W.heap.size := by obtain ⟨m, hm⟩ := k1; exact DataW.trod_lt m _ _ _ hm
  obtain ⟨l1, hr1⟩ : ∃ l, Rd W a1 len1 cap1 l := by
    obtain ⟨fuel, hf⟩ := h1
    rcases open_ints Tryd.underlying23 Tryd.underlying5 (by kernel_rfl) hf with ⟨hcs, _⟩ | ⟨x, l, c, zs, hcs, _, hl, hm, hz, _, hcell, hwz⟩
    · simp [Value.cells] at hcs
      obtain ⟨rfl, rfl, rfl⟩ := hcs
      exact rd_came (zs := []) (.inl ⟨rfl, rfl, rfl, rfl⟩)
    · simp [Value.cells] at hcs
      obtain ⟨rfl, rfl, rfl⟩ := hcs
      exact rd_came (.inr ⟨_, rfl, hl, hm, by simpa using hz, hcell, hwz⟩)
  obtain ⟨a2, rfl, rfl, rfl, w2⟩ := open_int Tryd.underlying3 (hval 2 3 v2 rfl rfl) h2
  obtain ⟨a3, rfl, rfl, rfl, w3⟩ := open_int Tryd.underlying3 (hval 3 3 v3 rfl rfl) h3
  clear hA0 hval0
  refine (walk a2 a3 W hG hr0 hr1).mono fun e W' ⟨he, bel⟩ => ?_
  subst he
  exact ⟨_, rfl, _, _, _, [], _, [], hW', trodAll_mk1 (shut_bool Tryd.underlying4 _), (trodAll_cons_mk (Below.trod laidOut (by kernel_rfl) (of_decide_eq_true (by kernel_rfl)) k0 bel lt0) (trodAll_cons_mk (Below.trod laidOut (by kernel_rfl) (of_decide_eq_true (by kernel_rfl)) k1 bel lt1) (trodAll_cons_mk (shut_int Tryd.underlying3 w2) (trodAll_cons_mk (shut_int Tryd.underlying3 w3) trodAll_mk0)))), rfl, bel.frame _, fun h => by cases h⟩

theorem over : Rows.macExpandRow.holds Tryd.pinned (OpenSpec.ofChange Rows.macExpandSpec) :=
  OpenClaim.holds_of_wide 9 Tryd.f9 rfl rfl rfl rfl rfl rfl rfl ⟨rfl, rfl, rfl, rfl, rfl⟩ rfl rfl rfl rfl rfl (by kernel_rfl) Tryd.func9 (by kernel_rfl)
    (of_decide_eq_true (by kernel_rfl)) (by unfold Func.isWrapper; first | (rw [if_pos (by decide +kernel)]; kernel_rfl) | (rw [if_neg (by decide +kernel)]; exact ⟨rfl, rfl⟩))
    (fun os started H enc _ => lifted os started H enc)
end Go.Proofs.YtbepofmkfloajaaDoor.macExpand
namespace Go.Proofs.YtbepofmkfloajaaDoor
theorem macExpand_card : Rows.MacExpandCardSaid :=
  Claim7.holds_tied_plain_at .later [] [.data, .data] true (true, "ac81aa9bd4a0dec26816718b789ea913be61d5e2860e2b9353823b24d89e6bc9") false
    macExpand.over (fun _ h => by cases h) (by kernel_rfl) (fun _ h => by cases h) macExpand_row_tie rfl ⟨rfl, rfl⟩ (by kernel_rfl) rfl
    (fun f fn hf hfn => by
      obtain rfl : f = 9 := Option.some.inj ((show Tryd.prog.funcNamed Tryd.f9.name = some 9 by kernel_rfl).symm.trans hf) |>.symm
      obtain rfl : fn = Tryd.f9 := (Option.some.inj (Tryd.func9.symm.trans hfn)).symm
      exact ⟨by kernel_rfl, fun j t ht => by
        rw [Tryd.params9] at ht
        have hm : t ∈ [23, 23, 3, 3] := by simpa using Array.mem_of_getElem? ht
        have hall : (([23, 23, 3, 3] : List TypeId).all fun u => !Tryd.prog.wantsStandIn u) = true := by kernel_rfl
        exact (show Tryd.prog.wantsStandIn t = false by simpa using List.all_eq_true.1 hall t hm)⟩)
    (by kernel_rfl)
#print axioms macExpand_card
end Go.Proofs.YtbepofmkfloajaaDoor
