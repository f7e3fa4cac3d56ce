/-
  PROVED: for all n, x and cut the law ShaLong answers true (a message of up to 300 bytes, cut in two with nothing between, has the standard's sum). CONDITIONS: none beyond the card's own.
-/
import Derived.Test.YtbepofmkfloajaaDoorCommon
import Derived.Test.YtbepofmkfloajaaDoorTie
import Derived.Test.YtbepofmkfloajaaDoorCards
import Derived.OpenShut
import Derived.Stop.Joined
import Derived.SevenTiedAt
namespace Go.Proofs.YtbepofmkfloajaaDoor.shaLong
open Go.ChangeShapes Go.WideShapes Go.ChangeAt Go.RowKit
set_option linter.unusedVariables false
set_option linter.unusedSimpArgs false

set_option maxRecDepth 100000 in
set_option maxHeartbeats 2000000 in
theorem walk_out (a0 a1 a2 : Int) (w : World) (hg : Gl w) (h : a0 < 0 ∨ 300 < a0 ∨ a2 < 0 ∨ a0 < a2) :
    Calls Tryd.prog 4 #[.int .i64 a0, .int .u8 a1, .int .i64 a2] w fun e w' => e = .returned (.bool true) ∧ Below w.heap.size w w' := by
  have HG := Lib.hid hg
  clear hg
  by_cases h1 : a0 < 0
  · have hd : decide (a0 < 0) = true := by simpa using h1
    go_enter Tryd.func4, Tryd.ntmps4
    go_wp2_with (go_at_call 15; refine (begun_any HG.out).mono ?_; rintro e w1 ⟨rfl, HB⟩; have HB1 := Lib.hid HB; clear HB)
    go_ret
    exact ⟨rfl, HB1.out⟩
  · have hd : decide (a0 < 0) = false := by simpa using h1
    by_cases h2 : 300 < a0
    · have hd2 : decide ((300 : Int) < a0) = true := by simpa using h2
      go_enter Tryd.func4, Tryd.ntmps4
      go_wp2_with (go_at_call 15; refine (begun_any HG.out).mono ?_; rintro e w1 ⟨rfl, HB⟩; have HB1 := Lib.hid HB; clear HB)
      go_ret
      exact ⟨rfl, HB1.out⟩
    · have hd2 : decide ((300 : Int) < a0) = false := by simpa using h2
      by_cases h3 : a2 < 0
      · have hd3 : decide (a2 < 0) = true := by simpa using h3
        go_enter Tryd.func4, Tryd.ntmps4
        go_wp2_with (go_at_call 15; refine (begun_any HG.out).mono ?_; rintro e w1 ⟨rfl, HB⟩; have HB1 := Lib.hid HB; clear HB)
        go_ret
        exact ⟨rfl, HB1.out⟩
      · have hd3 : decide (a2 < 0) = false := by simpa using h3
        have h4 : a0 < a2 := by omega
        have hd4 : decide (a0 < a2) = true := by simpa using h4
        go_enter Tryd.func4, Tryd.ntmps4
        go_wp2_with (go_at_call 15; refine (begun_any HG.out).mono ?_; rintro e w1 ⟨rfl, HB⟩; have HB1 := Lib.hid HB; clear HB)
        go_ret
        exact ⟨rfl, HB1.out⟩

set_option maxRecDepth 100000 in
set_option maxHeartbeats 4000000 in
theorem walkIn (n kc : Nat) (a1 : Int) (w : World) (hg : Gl w) (hn : n ≤ 300) (hk : kc ≤ n) :
    Calls Tryd.prog 4 #[.int .i64 (n : Int), .int .u8 a1, .int .i64 (kc : Int)] w fun e w' => e = .returned (.bool true) ∧ Below w.heap.size w w' := by
  have HG := Lib.hid hg
  have hsz := hg.size
  clear hg
  have hd : decide ((n : Int) < 0) = false := by simp
  have hd2 : decide ((300 : Int) < (n : Int)) = false := by simp; omega
  have hd3 : decide ((kc : Int) < 0) = false := by simp
  have hd4 : decide (n < kc) = false := by simp; omega
  have hd5 : decide ((n : Int) < (kc : Int)) = false := by simp; omega
  have hmk := fun W => make_bytes n (by omega) W
  go_enter Tryd.func4, Tryd.ntmps4
  go_wp2_with (go_at_call 15; refine (begun_any HG.out).mono ?_; rintro e w1 ⟨rfl, HB⟩; have HB1 := Lib.hid HB; clear HB)
  clear hmk hd hd2 hd3 hd4 hd5
  obtain ⟨wb, rfl⟩ : ∃ wb, wb = w1 := ⟨_, rfl⟩
  have hsb := HB1.out.size
  go_loopw [9] (fun i wr => ∃ (k : Nat) (l : List UInt8), k ≤ n ∧ i = .int .i64 k ∧ Hid (l.length = k) ∧ Hid (Blk wr wb.heap.size 5 (outC l n)) ∧ Hid (Below wb.heap.size wb wr)) (fun i _ => n - (intOf i).toNat)
  case atStart => exact ⟨0, [], by omega, rfl, rfl, Blk.at_new _ _ 5 _ _ rfl rfl, alloc_below _ _⟩
  case round =>
    obtain ⟨k, l, hkn, rfl, HK, BK, BW⟩ := hrel
    by_cases hlt : k < n
    · have c0 : wr.cell? ⟨wb.heap.size, k, none⟩ = some (.int .u8 0) := by rw [BK.out.cell]; exact outC_at l n k HK.out hlt
      have f0 : wr.frozen? ⟨wb.heap.size, k, none⟩ = false := BK.out.frozen k
      go_wp2_with fail
      go_roundw
      case rel => exact ⟨k + 1, _, by omega, by go_num, by unfold Hid; simp [HK.out], outC_put BK.out HK.out hlt _, BW.out.setCell (Nat.le_refl _) _⟩
      case measure => simp [intOf]; omega
    · obtain rfl : k = n := by omega
      have HR : Hid (Rd wr.drew (some ⟨wb.heap.size, 0, none⟩) k k l) := (outC_rd BK.out HK.out (by omega)).drew
      have W1 : Hid (Below w.heap.size w wr.drew) := (HB1.out.trans (BW.out.mono hsb)).drew
      have hsl1 : ∀ W, (Instr.slice 23 (.slice (some ⟨wb.heap.size, 0, none⟩) k k) none (some (.int .i64 (kc : Int))) none).run Tryd.prog W = .ok (.slice (cutA (some ⟨wb.heap.size, 0, none⟩) k 0) kc k) W := fun W => slice_h _ k k kc (by omega) W
      have hsl2 : ∀ W, (Instr.slice 23 (.slice (some ⟨wb.heap.size, 0, none⟩) k k) (some (.int .i64 (kc : Int))) none none).run Tryd.prog W = .ok (.slice (cutA (some ⟨wb.heap.size, 0, none⟩) k kc) (k - kc) (k - kc)) W := fun W => slice_l _ k k kc (by omega) W
      have hr1 := HR.out.cut (k := 0) (e := kc) (by omega) hk
      have hr2 := HR.out.cut (k := kc) (e := k) hk (Nat.le_refl _)
      simp only [List.drop_zero, Nat.sub_zero] at hr1
      rw [List.take_of_length_le (by rw [List.length_drop, HK.out]; omega)] at hr2
      have HR1 := Lib.hid hr1
      have HR2 := Lib.hid hr2
      clear hr1 hr2 BK BW
      go_wp2_with fail
      refine wp_region_any (by kernel_rfl) ?_
      change wpAny _ _ _ _ _ _ _ (World.drew _)
      generalize wr.drew = w2 at *
      refine wpAny_take (i := 0) (oi := ?oi1) (v := .slice (some ⟨wb.heap.size, 0, none⟩) k k) ?hi1 (by kernel_rfl) (by kernel_rfl) (by kernel_rfl) ?hQ1 ?hy1 ?rest1
      case hi1 => simp only [List.getElem?_toArray, List.getElem?_cons_succ, List.getElem?_cons_zero]; rfl
      case hQ1 => exact fun _ _ _ h => h
      case hy1 => exact Or.inl ⟨by rfl, by intro w; go_simp⟩
      try simp only [Act.put, List.setIfInBounds_toArray, List.set_cons_zero, List.set_cons_succ]
      refine wpAny_take (i := 1) (oi := ?oi2) (v := .int .i64 (kc : Int)) ?hi2 (by kernel_rfl) (by kernel_rfl) (by kernel_rfl) ?hQ2 ?hy2 ?rest2
      case hi2 => simp only [List.getElem?_toArray, List.getElem?_cons_succ, List.getElem?_cons_zero]; rfl
      case hQ2 => exact fun _ _ _ h => h
      case hy2 => exact Or.inl ⟨by rfl, by intro w; go_simp⟩
      try simp only [Act.put, List.setIfInBounds_toArray, List.set_cons_zero, List.set_cons_succ]
      refine wpAny_take (i := 2) (oi := ?oi3) (v := .slice (cutA (some ⟨wb.heap.size, 0, none⟩) k 0) kc k) ?hi3 (by kernel_rfl) (by kernel_rfl) (by kernel_rfl) ?hQ3 ?hy3 ?rest3
      case hi3 => simp only [List.getElem?_toArray, List.getElem?_cons_succ, List.getElem?_cons_zero]; rfl
      case hQ3 => exact fun _ _ _ h => h
      case hy3 => exact Or.inl ⟨by rfl, by intro w; go_simp⟩
      try simp only [Act.put, List.setIfInBounds_toArray, List.set_cons_zero, List.set_cons_succ]
      refine wpAny_take (i := 3) (oi := ?oi4) (v := .slice (some ⟨wb.heap.size, 0, none⟩) k k) ?hi4 (by kernel_rfl) (by kernel_rfl) (by kernel_rfl) ?hQ4 ?hy4 ?rest4
      case hi4 => simp only [List.getElem?_toArray, List.getElem?_cons_succ, List.getElem?_cons_zero]; rfl
      case hQ4 => exact fun _ _ _ h => h
      case hy4 => exact Or.inl ⟨by rfl, by intro w; go_simp⟩
      try simp only [Act.put, List.setIfInBounds_toArray, List.set_cons_zero, List.set_cons_succ]
      refine wpAny_take (i := 4) (oi := ?oi5) (v := .int .i64 (kc : Int)) ?hi5 (by kernel_rfl) (by kernel_rfl) (by kernel_rfl) ?hQ5 ?hy5 ?rest5
      case hi5 => simp only [List.getElem?_toArray, List.getElem?_cons_succ, List.getElem?_cons_zero]; rfl
      case hQ5 => exact fun _ _ _ h => h
      case hy5 => exact Or.inl ⟨by rfl, by intro w; go_simp⟩
      try simp only [Act.put, List.setIfInBounds_toArray, List.set_cons_zero, List.set_cons_succ]
      refine wpAny_take (i := 5) (oi := ?oi6) (v := .slice (cutA (some ⟨wb.heap.size, 0, none⟩) k kc) (k - kc) (k - kc)) ?hi6 (by kernel_rfl) (by kernel_rfl) (by kernel_rfl) ?hQ6 ?hy6 ?rest6
      case hi6 => simp only [List.getElem?_toArray, List.getElem?_cons_succ, List.getElem?_cons_zero]; rfl
      case hQ6 => exact fun _ _ _ h => h
      case hy6 => exact Or.inl ⟨by rfl, by intro w; go_simp⟩
      try simp only [Act.put, List.setIfInBounds_toArray, List.set_cons_zero, List.set_cons_succ]
      refine wpAny_take (i := 8) (oi := ?oi7) (v := .slice (some ⟨wb.heap.size, 0, none⟩) k k) ?hi7 (by kernel_rfl) (by kernel_rfl) (by kernel_rfl) ?hQ7 ?hy7 ?rest7
      case hi7 => simp only [List.getElem?_toArray, List.getElem?_cons_succ, List.getElem?_cons_zero]; rfl
      case hQ7 => exact fun _ _ _ h => h
      case hy7 => exact Or.inl ⟨by rfl, by intro w; go_simp⟩
      try simp only [Act.put, List.setIfInBounds_toArray, List.set_cons_zero, List.set_cons_succ]
      refine wpAny_ready (rs := [6]) (by kernel_rfl) (by simp) ?_
      refine AllReady.cons (o := ?o8) ?ho8 (fun K hK => ?_) AllReady.nil
      case ho8 => simp only [List.getElem?_toArray, List.getElem?_cons_succ, List.getElem?_cons_zero]; rfl
      go_simp
      refine hK _ _ ?_
      clear hK K hsl1 hsl2
      have X3 := Lib.hid (alloc_below w2 (.cells #[.slice (cutA (some ⟨wb.heap.size, 0, none⟩) k 0) kc k, .slice none 0 0, .slice (cutA (some ⟨wb.heap.size, 0, none⟩) k kc) (k - kc) (k - kc)] 23))
      have HP := Lib.hid (lit_parts3' (g := w2.heap.size) w2 HR1.out (Rd.nil w2 none 0 (by unfold maxLen; omega)) HR2.out rfl)
      generalize w2.alloc (.cells #[.slice (cutA (some ⟨wb.heap.size, 0, none⟩) k 0) kc k, .slice none 0 0, .slice (cutA (some ⟨wb.heap.size, 0, none⟩) k kc) (k - kc) (k - kc)] 23) = w3 at *
      try simp only [Act.put, List.setIfInBounds_toArray, List.set_cons_zero, List.set_cons_succ]
      have W3 := Lib.hid (W1.out.trans (X3.out.mono W1.out.size))
      have HG3 := Lib.hid (HG.out.below W3.out HG.out.size)
      have HL := Lib.hid (three l kc)
      have HR3 := Lib.hid (HR.out.below X3.out)
      refine wpAny_ready (rs := [7]) (by kernel_rfl) (by simp) ?_
      refine AllReady.cons (o := ?o9) ?ho9 (fun K hK => ?_) AllReady.nil
      case ho9 => simp only [List.getElem?_toArray, List.getElem?_cons_succ, List.getElem?_cons_zero]; rfl
      go_simp
      refine (shaSum_any HG3.out HP.out (by omega) (by rw [HL.out, HK.out]; omega)).mono ?_
      rintro e w4 ⟨D, rfl, hS, hX⟩
      rw [HL.out] at hS
      have HS := Lib.hid hS
      have W4 := Lib.hid (W3.out.trans (hX.mono W3.out.size))
      have HR4 := Lib.hid (HR3.out.below hX)
      clear hS hX
      refine hK _ _ ?_
      clear hK K
      try simp only [Act.put, List.setIfInBounds_toArray, List.set_cons_zero, List.set_cons_succ]
      refine wpAny_ready (rs := [9]) (by kernel_rfl) (by simp) ?_
      refine AllReady.cons (o := ?o10) ?ho10 (fun K hK => ?_) AllReady.nil
      case ho10 => simp only [List.getElem?_toArray, List.getElem?_cons_succ, List.getElem?_cons_zero]; rfl
      go_simp
      refine (rsum_any HR4.out (by omega)).mono ?_
      rintro e w5 ⟨D2, rfl, hS2, hX⟩
      obtain rfl := HS.out.uniq hS2
      have W5 := Lib.hid (W4.out.trans (hX.mono W4.out.size))
      have hq := fun W => HS.out.self W
      clear hS2 hX
      refine hK _ _ ?_
      clear hK K
      try simp only [Act.put, List.setIfInBounds_toArray, List.set_cons_zero, List.set_cons_succ]
      refine wpAny_take (i := 10) (oi := ?oi11) (v := .bool true) ?hi11 (by kernel_rfl) (by kernel_rfl) (by kernel_rfl) ?hQ11 ?hy11 ?rest11
      case hi11 => simp only [List.getElem?_toArray, List.getElem?_cons_succ, List.getElem?_cons_zero]; rfl
      case hQ11 => exact fun _ _ _ h => h
      case hy11 => exact Or.inl ⟨by rfl, by intro w; go_simp⟩
      try simp only [Act.put, List.setIfInBounds_toArray, List.set_cons_zero, List.set_cons_succ]
      refine wpAny_take (i := 11) (oi := ?oi12) (v := .bool true) ?hi12 (by kernel_rfl) (by kernel_rfl) (by kernel_rfl) ?hQ12 ?hy12 ?rest12
      case hi12 => simp only [List.getElem?_toArray, List.getElem?_cons_succ, List.getElem?_cons_zero]; rfl
      case hQ12 => exact fun _ _ _ h => h
      case hy12 => exact Or.inl ⟨by rfl, by intro w; go_simp⟩
      try simp only [Act.put, List.setIfInBounds_toArray, List.set_cons_zero, List.set_cons_succ]
      refine wpAny_done (by kernel_rfl) ?_ _
      clear hq
      go_wp2_with fail
      go_ret
      exact ⟨rfl, W5.out⟩

theorem walk (a0 a1 a2 : Int) (w : World) (hg : Gl w) : Calls Tryd.prog 4 #[.int .i64 a0, .int .u8 a1, .int .i64 a2] w fun e w' => e = .returned (.bool true) ∧ Below w.heap.size w w' := by
  by_cases h : a0 < 0 ∨ 300 < a0 ∨ a2 < 0 ∨ a0 < a2
  · exact walk_out a0 a1 a2 w hg h
  · obtain ⟨n, rfl⟩ := Int.eq_ofNat_of_zero_le (show 0 ≤ a0 by omega)
    obtain ⟨kc, rfl⟩ := Int.eq_ofNat_of_zero_le (show 0 ≤ a2 by omega)
    exact walkIn n kc a1 w hg (by omega) (by omega)

set_option maxRecDepth 100000 in
theorem lifted (os : Os) (started : os.Started) (H : Type) (enc : TypeId × Value → H) :
    ReturnsInHanded {} Tryd.checked os 4 .any (fun w args => (Rows.shaLongSpec.pre enc Tryd.prog Tryd.f4 [] false w args ∧ laidMetH Tryd.prog laid2 w) ∧ sizedMet enc Tryd.prog Tryd.f4 (OpenSpec.ofChange Rows.shaLongSpec) false w args)
      (Rows.shaLongSpec.post enc Tryd.prog Tryd.f4 false true false false) := by
  refine returnsInHanded_of_change_and (C := Tryd.checked) (X := fun w _ => laidMetH Tryd.prog laid2 w) (fun _ _ _ hh h => h.of_heap hh) own started (by kernel_rfl) Tryd.func4
    (ChangeSpec.witness_shaped (enc := enc) (C := Tryd.checked) (os := os) (X := fun w _ => laidMetH Tryd.prog laid2 w) false (World.doorLaid Tryd.prog 400 os) #[.int .i64 0, .int .u8 0, .int .i64 0] 8 rfl (World.shaped_of_RefB (by kernel_rfl) (by kernel_rfl)) (by kernel_rfl) (by kernel_rfl) (by kernel_rfl) (door_met os _)) ?_
  intro W base args ds gs before hval0 hW _ _ hL _
  have hval : ∀ (j : Nat) t v, Tryd.f4.params[j]? = some t → args[j]? = some v → Value.okWide Tryd.prog W .any base t v := hval0
  have hW' := hW
  obtain ⟨p, q, hA0, hV, rfl, hfz, hnd⟩ := hW
  have hA : DataW.TrodAll enc Tryd.prog W 0 (fun _ => true) true Tryd.f4.params.toList args.toList ds p := hA0
  rw [Tryd.params4] at hA hval
  have hG := gl_of_laid hL
  obtain ⟨v0, vs0, d0, ds0, p0, q0, hargs, rfl, rfl, h0, r0⟩ := trodAll_cons hA
  obtain ⟨v1, vs1, d1, ds1, p1, q1, rfl, rfl, rfl, h1, r1⟩ := trodAll_cons r0
  obtain ⟨v2, vs2, d2, ds2, p2, q2, rfl, rfl, rfl, h2, r2⟩ := trodAll_cons r1
  obtain ⟨rfl, rfl, rfl⟩ := trodAll_nil r2
  obtain rfl : args = #[v0, v1, v2] := by cases args; simp_all
  obtain ⟨rfl, rfl⟩ := trodVars_none hV
  obtain ⟨a0, rfl, rfl, rfl, w0⟩ := open_int Tryd.underlying3 (hval 0 3 v0 rfl rfl) h0
  obtain ⟨a1, rfl, rfl, rfl, w1⟩ := open_int Tryd.underlying5 (hval 1 5 v1 rfl rfl) h1
  obtain ⟨a2, rfl, rfl, rfl, w2⟩ := open_int Tryd.underlying3 (hval 2 3 v2 rfl rfl) h2
  clear hA0 hval0
  simp only [List.append_nil] at hW'
  refine (walk a0 a1 a2 W hG).mono fun e W' ⟨he, bel⟩ => ?_
  subst he
  exact ⟨_, rfl, _, _, _, [], [], [], hW', trodAll_mk1 (shut_bool Tryd.underlying4 _), trodAll_mk3 (shut_int Tryd.underlying3 w0) (shut_int Tryd.underlying5 w1) (shut_int Tryd.underlying3 w2), rfl, bel.frame _, fun h => by cases h⟩

theorem over : Rows.shaLongRow.holds Tryd.pinned (OpenSpec.ofChange Rows.shaLongSpec) :=
  OpenClaim.holds_of_wide 4 Tryd.f4 rfl rfl rfl rfl rfl rfl rfl ⟨rfl, rfl, rfl, rfl, rfl⟩ rfl rfl rfl rfl rfl (by kernel_rfl) Tryd.func4 (by kernel_rfl)
    (of_decide_eq_true (by kernel_rfl)) (by unfold Func.isWrapper; first | (rw [if_pos (by decide +kernel)]; kernel_rfl) | (rw [if_neg (by decide +kernel)]; exact ⟨rfl, rfl⟩))
    (fun os started H enc _ => lifted os started H enc)
end Go.Proofs.YtbepofmkfloajaaDoor.shaLong
namespace Go.Proofs.YtbepofmkfloajaaDoor
theorem shaLong_card : Rows.ShaLongCardSaid :=
  Claim7.holds_tied_plain_at .later [] [.data, .data] true (true, "ac81aa9bd4a0dec26816718b789ea913be61d5e2860e2b9353823b24d89e6bc9") false
    shaLong.over (fun _ h => by cases h) (by kernel_rfl) (fun _ h => by cases h) shaLong_row_tie rfl ⟨rfl, rfl⟩ (by kernel_rfl) rfl
    (fun f fn hf hfn => by
      obtain rfl : f = 4 := Option.some.inj ((show Tryd.prog.funcNamed Tryd.f4.name = some 4 by kernel_rfl).symm.trans hf) |>.symm
      obtain rfl : fn = Tryd.f4 := (Option.some.inj (Tryd.func4.symm.trans hfn)).symm
      exact ⟨by kernel_rfl, fun j t ht => by
        rw [Tryd.params4] at ht
        have hm : t ∈ [3, 5, 3] := by simpa using Array.mem_of_getElem? ht
        have hall : (([3, 5, 3] : List TypeId).all fun u => !Tryd.prog.wantsStandIn u) = true := by kernel_rfl
        exact (show Tryd.prog.wantsStandIn t = false by simpa using List.all_eq_true.1 hall t hm)⟩)
    (by kernel_rfl)
#print axioms shaLong_card
end Go.Proofs.YtbepofmkfloajaaDoor
