/-
  PROVED: for all key, info and n the law MacBlocks answers true (what is expanded goes by blocks of thirty-two bytes, each the HMAC of the one ahead, info and the block's number). CONDITIONS: none beyond the card's own.
-/
import Derived.Test.YtbepofmkfloajaaDoorConv
import Derived.Test.YtbepofmkfloajaaDoorTie
import Derived.Test.YtbepofmkfloajaaDoorCards
import Derived.OpenShut
import Derived.Stop.Joined
import Derived.SevenTiedAt
namespace Go.Proofs.YtbepofmkfloajaaDoor.macBlocks
open Go.ChangeShapes Go.WideShapes Go.ChangeAt Go.RowKit
set_option linter.unusedVariables false
set_option linter.unusedSimpArgs false

theorem expand_block (key info : List UInt8) (n k m : Nat) (hm : m = 32 * n) (h : k < n) : ((Sha.expand key info m).drop (32 * k)).take 32 = Sha.T key info (k + 1) := by
  have e0 : (Sha.pre key info n).take m = Sha.pre key info n := List.take_of_length_le (by rw [Sha.pre_length]; omega)
  rw [Sha.expand_pre key info m n (by omega) (by omega), e0]
  clear e0
  obtain ⟨r, hr⟩ := pre_add key info (k + 1) (n - (k + 1))
  rw [show k + 1 + (n - (k + 1)) = n by omega] at hr
  rw [hr, Sha.pre_succ, List.append_assoc, List.drop_append_of_le_length (by rw [Sha.pre_length]; omega), List.drop_of_length_le (by rw [Sha.pre_length]; omega), List.nil_append, List.take_append_of_le_length (by rw [Sha.T_length']; omega), List.take_of_length_le (by rw [Sha.T_length']; omega)]

set_option maxRecDepth 100000 in
set_option maxHeartbeats 2000000 in
theorem walk_out {A0 A1 : Option Addr} {n0 c0 n1 c1 : Nat} {x0 x1 : List UInt8} (n : Int) (w : World) (hg : Gl w) (hr0 : Rd w A0 n0 c0 x0) (hr1 : Rd w A1 n1 c1 x1) (h : n < 1 ∨ 6 < n) :
    Calls Tryd.prog 14 #[.slice A0 n0 c0, .slice A1 n1 c1, .int .i64 n] w fun e w' => e = .returned (.bool true) ∧ Below w.heap.size w w' := by
  have HG := Lib.hid hg
  have R0 := Lib.hid hr0
  have R1 := Lib.hid hr1
  clear hg hr0 hr1
  go_enter Tryd.func14, Tryd.ntmps14
  go_wp2_with (first | (go_at_call 15; refine (begun_any HG.out).mono ?_; rintro e w1 ⟨rfl, HB⟩; have HB1 := Lib.hid HB; clear HB))
  refine (short_any 40 (R0.out.below HB1.out) (by omega)).mono ?_
  rintro e w' ⟨A2, n2, c2, rfl, hr2, rfl⟩
  clear hr2 R0
  go_wp2_with fail
  refine (short_any 30 (R1.out.below HB1.out) (by omega)).mono ?_
  rintro e w' ⟨A3, n3, c3, rfl, hr3, rfl⟩
  clear hr3 R1
  by_cases h1 : n < 1
  · have hd : decide (n < 1) = true := by simpa using h1
    clear h
    go_wp2_with fail
    go_ret
    exact ⟨rfl, HB1.out⟩
  · have hd : decide (n < 1) = false := by simpa using h1
    have h2 : 6 < n := by omega
    have hd2 : decide (6 < n) = true := by simpa using h2
    clear h
    go_wp2_with fail
    go_ret
    exact ⟨rfl, HB1.out⟩

set_option maxRecDepth 100000 in
set_option maxHeartbeats 4000000 in
theorem walkIn {A0 A1 : Option Addr} {n0 c0 n1 c1 : Nat} {x0 x1 : List UInt8} (n : Nat) (w : World) (hg : Gl w) (hr0 : Rd w A0 n0 c0 x0) (hr1 : Rd w A1 n1 c1 x1) (h1 : 1 ≤ n) (h2 : n ≤ 6) :
    Calls Tryd.prog 14 #[.slice A0 n0 c0, .slice A1 n1 c1, .int .i64 (n : Int)] w fun e w' => e = .returned (.bool true) ∧ Below w.heap.size w w' := by
  have HG := Lib.hid hg
  have hsz := hg.size
  have R0 := Lib.hid hr0
  have R1 := Lib.hid hr1
  clear hg hr0 hr1
  have hd : decide ((n : Int) < 1) = false := by simp; omega
  have hd2 : decide ((6 : Int) < (n : Int)) = false := by simp; omega
  go_enter Tryd.func14, Tryd.ntmps14
  go_wp2_with (first | (go_at_call 15; refine (begun_any HG.out).mono ?_; rintro e w1 ⟨rfl, HB⟩; have W1 := Lib.hid HB; clear HB))
  refine (short_any 40 (R0.out.below W1.out) (by omega)).mono ?_
  rintro e w' ⟨A2, n2, c2, rfl, hr2, rfl⟩
  have R2 := Lib.hid hr2
  clear hr2
  go_wp2_with fail
  refine (short_any 30 (R1.out.below W1.out) (by omega)).mono ?_
  rintro e w' ⟨A3, n3, c3, rfl, hr3, rfl⟩
  have R3 := Lib.hid hr3
  have hl2 : n2 ≤ 40 := by rw [← R2.out.len, List.length_take]; omega
  have hl3 : n3 ≤ 30 := by rw [← hr3.len, List.length_take]; omega
  clear hr3 R0 R1
  obtain ⟨key, hke⟩ : ∃ l, l = x0.take 40 := ⟨_, rfl⟩
  obtain ⟨info, hie⟩ : ∃ l, l = x1.take 30 := ⟨_, rfl⟩
  rw [← hke] at R2
  rw [← hie] at R3
  clear hke hie
  have HG1 := Lib.hid (HG.out.below W1.out HG.out.size)
  have hE := Lib.hid (expand_any HG1.out R2.out (by omega) R3.out (by omega) (32 * n) (by omega) (by omega))
  rw [show ((32 * n : Nat) : Int) = 32 * (n : Int) by omega] at hE
  go_wp2_with fail
  refine hE.out.mono ?_
  rintro e w2 ⟨gx, rfl, hrx, hgx, hX⟩
  have RX := Lib.hid hrx
  have W2 := Lib.hid (W1.out.trans (hX.mono W1.out.size))
  have R22 := Lib.hid (R2.out.below hX)
  have R32 := Lib.hid (R3.out.below hX)
  clear hrx hX HG1 R2 R3 W1 hE
  obtain ⟨m, hm⟩ : ∃ m, m = 32 * n := ⟨_, rfl⟩
  rw [← hm] at RX
  rw [← hm]
  have HM := Lib.hid hm
  have HG2 := Lib.hid (HG.out.below W2.out HG.out.size)
  have hs2 := W2.out.size
  clear hm
  go_wp2_with fail
  go_loopw [9, 10] (fun v i wr => ∃ (k : Nat) (B : Option Addr) (q qc : Nat), k ≤ n ∧ i = .int .i64 k ∧ v = .slice B q qc ∧ Hid (Rd wr B q qc (Sha.T key info k)) ∧ Hid (Below w2.heap.size w2 wr)) (fun _ i _ => 7 - (intOf i).toNat)
  case atStart => exact ⟨0, none, 0, 0, by omega, rfl, rfl, Rd.nil _ _ _ (by unfold maxLen; omega), Below.refl _ _⟩
  case round =>
    obtain ⟨k, B, q, qc, hk, rfl, rfl, HT, BW⟩ := hrel
    by_cases hlt : k < n
    · have hlb : decide ((k : Int) < (n : Int)) = true := by simp; omega
      have hwr := BW.out.size
      obtain ⟨x, hx⟩ : ∃ x : UInt8, x = UInt8.ofNat (k + 1) := ⟨_, rfl⟩
      have hxe : ((k : Int) + 1) = (x.toNat : Int) := by rw [hx]; simp; omega
      have hxe2 : ((k : Int) + 1) % 256 = (x.toNat : Int) := by rw [hx]; simp
      have HXX := Lib.hid hx
      have X1 := Lib.hid ((Below.refl wr.heap.size wr).alloc (Nat.le_refl _) (.cells #[.int .u8 (x.toNat : Int)] 5))
      have X2 := Lib.hid (X1.out.trans ((((Below.refl _ _).alloc (Nat.le_refl _) (.cells #[.slice B q qc, .slice A3 n3 c3, .slice (some ⟨wr.heap.size, 0, none⟩) 1 1] 23))).mono X1.out.size))
      have HP := Lib.hid (lit_parts3 _ (HT.out.below X1.out) ((R32.out.below BW.out).below X1.out) (lit_bytes1 wr x))
      have HRX := Lib.hid (RX.out.below BW.out)
      have HIL := Lib.hid R32.out.len
      have hcall := Lib.hid (hmac_any (c' := 3) ((HG2.out.below BW.out HG2.out.size).below X2.out (HG2.out.below BW.out HG2.out.size).size) ((R22.out.below BW.out).below X2.out) (by omega) HP.out (by omega) (by have := Sha.T_length key info k; simp [HIL.out]; omega))
      clear hx
      have esz : (wr.alloc (.cells #[.int .u8 (x.toNat : Int)] 5)).heap.size = wr.heap.size + 1 := by simp
      rw [esz] at hcall
      have hs2x := X2.out.size
      go_wp2_with fail
      clear hxe hxe2 esz
      refine hcall.out.mono ?_
      rintro e w3 ⟨D, rfl, hS, hX⟩
      have hM : D = (Sha.T key info (k + 1)).map cellOf := by
        have h0 : D = (Sha.hmac key ([Sha.T key info k, info, [x]].flatten)).map cellOf := hS
        rw [h0, Sha.T, HXX.out]
        simp
      have hDl : D.length = 32 := by rw [hM, List.length_map, Sha.T_length']
      have HD := Lib.hid hM
      have HI30 : Hid ((Tryd.prog.info? 30).map (·.size) = some D.length) := by unfold Hid; rw [hDl]; kernel_rfl
      have HL30 : Hid ((List.replicate 32 (Value.int .u8 0)).length = D.length) := by unfold Hid; rw [hDl]; rfl
      have H130 : Hid (∀ v ∈ D, v.oneCell' = true) := by unfold Hid; rw [hM]; exact cells_u8 _
      have X3 : Hid (Below wr.heap.size wr w3) := X2.out.trans (hX.mono hs2x)
      have hs3 := X3.out.size
      clear hX hS hM hDl hcall HP X1 X2
      go_upto_region 13 with (first
        | ((with_reducible refine storeGen_law rfl 30 (.tmp 11) (.tmp 43) rfl w3.heap.size rfl D rfl 30 (List.replicate 32 (.int .u8 0)) HI30.out HL30.out H130.out w3.heap.size w3 ?_ ?_ (Nat.le_refl _) ?_)
           · exact Blk.at_new _ _ 30 _ _ (by rfl) rfl
           · exact (Below.refl _ _).alloc (Nat.le_refl _) _
           intro w4 B4 X4))
      try simp only [Act.put]
      have hs4 := X4.out.size
      have X5 : Hid (Below wr.heap.size wr w4.drew) := (X3.out.trans (X4.out.mono (show wr.heap.size ≤ w3.heap.size by omega))).drew
      have HR5 : Hid (Rd w4.drew (some ⟨w3.heap.size, 0, none⟩) 32 32 (Sha.T key info (k + 1))) :=
        Rd.of_block B4.out.drew (Sha.T_length' _ _ _) (Nat.le_refl _) (by unfold maxLen; omega) (fun j hj => by
          have hj' : j < (Sha.T key info (k + 1)).length := by rw [Sha.T_length']; exact hj
          rw [HD.out]
          simp [List.getD_eq_getElem?_getD, List.getElem?_eq_getElem hj'])
      have HRX5 := Lib.hid (HRX.out.below X5.out)
      have hcut := HRX5.out.cut (k := 32 * k) (e := 32 * k + 32) (by omega) (by have := HM.out; omega)
      rw [show 32 * k + 32 - 32 * k = 32 by omega, expand_block key info n k m HM.out hlt] at hcut
      have cv1 := conv_bytes hcut
      have cv2 := conv_bytes HR5.out
      have hsl : ∀ W, (Instr.slice 23 (.slice (some ⟨gx, 0, none⟩) m m) (some (.int .i64 (32 * (k : Int)))) (some (.int .i64 (32 * (k : Int) + 32))) none).run Tryd.prog W = .ok (.slice (cutA (some ⟨gx, 0, none⟩) m (32 * k)) 32 (m - 32 * k)) W := fun W => by
        have e := slice_lh (some ⟨gx, 0, none⟩) m m (32 * k) (32 * k + 32) (by omega) (by have := HM.out; omega) W
        rw [show 32 * k + 32 - 32 * k = 32 by omega] at e
        rw [← e]
        congr 5
      have ej : IntKind.i64.wrap (32 * (k : Int)) = 32 * (k : Int) := by rw [IntKind.wrap_i64]; omega
      have ej2 : IntKind.i64.wrap (32 * (k : Int) + 32) = 32 * (k : Int) + 32 := by rw [IntKind.wrap_i64]; omega
      have en : IntKind.i64.wrap (32 * (n : Int)) = 32 * (n : Int) := by rw [IntKind.wrap_i64]; omega
      have hmn : ((m : Int) == 32 * (n : Int)) = true := by have := HM.out; simp; omega
      have hmn2 : ((m : Int) != 32 * (n : Int)) = false := by have := HM.out; simp; omega
      clear hcut X3 X4 B4
      refine wp_region_still_lit (by kernel_rfl) (by kernel_rfl) ?_
      have hDr : ({ w4 with drawn := w4.drawn + 1 } : World) = w4.drew := rfl
      rw [hDr]
      clear hDr
      have BW5 := Lib.hid (BW.out.trans (X5.out.mono hwr))
      clear X5
      generalize w4.drew = w5 at *
      repeat still_step
      refine wpStill_nil ?_
      clear cv1 cv2 hsl ej ej2 en hmn hmn2
      go_wp2_with fail
      go_roundw
      case rel => exact ⟨k + 1, _, _, _, by omega, by go_num, rfl, HR5, BW5⟩
      case measure => simp [intOf]; omega
    · have hlb : decide ((k : Int) < (n : Int)) = false := by simp; omega
      go_wp2_with fail
      go_ret
      exact ⟨rfl, W2.out.trans (BW.out.mono hs2)⟩

theorem walk {A0 A1 : Option Addr} {n0 c0 n1 c1 : Nat} {x0 x1 : List UInt8} (n : Int) (w : World) (hg : Gl w) (hr0 : Rd w A0 n0 c0 x0) (hr1 : Rd w A1 n1 c1 x1) :
    Calls Tryd.prog 14 #[.slice A0 n0 c0, .slice A1 n1 c1, .int .i64 n] w fun e w' => e = .returned (.bool true) ∧ Below w.heap.size w w' := by
  by_cases h : n < 1 ∨ 6 < n
  · exact walk_out n w hg hr0 hr1 h
  · obtain ⟨m, rfl⟩ := Int.eq_ofNat_of_zero_le (show 0 ≤ n by omega)
    exact walkIn m w hg hr0 hr1 (by omega) (by omega)

set_option maxRecDepth 100000 in
theorem lifted (os : Os) (started : os.Started) (H : Type) (enc : TypeId × Value → H) :
    ReturnsInHanded {} Tryd.checked os 14 .any (fun w args => (Rows.macBlocksSpec.pre enc Tryd.prog Tryd.f14 [] false w args ∧ laidMetH Tryd.prog laid2 w) ∧ sizedMet enc Tryd.prog Tryd.f14 (OpenSpec.ofChange Rows.macBlocksSpec) false w args)
      (Rows.macBlocksSpec.post enc Tryd.prog Tryd.f14 false true false false) := by
  refine returnsInHanded_of_change_and (C := Tryd.checked) (X := fun w _ => laidMetH Tryd.prog laid2 w) (fun _ _ _ hh h => h.of_heap hh) own started (by kernel_rfl) Tryd.func14
    (ChangeSpec.witness_shaped (enc := enc) (C := Tryd.checked) (os := os) (X := fun w _ => laidMetH Tryd.prog laid2 w) false (World.doorLaid Tryd.prog 400 os) #[.slice none 0 0, .slice none 0 0, .int .i64 0] 8 rfl (World.shaped_of_RefB (by kernel_rfl) (by kernel_rfl)) (by kernel_rfl) (by kernel_rfl) (by kernel_rfl) (door_met os _)) ?_
  intro W base args ds gs before hval0 hW _ _ hL _
  have hval : ∀ (j : Nat) t v, Tryd.f14.params[j]? = some t → args[j]? = some v → Value.okWide Tryd.prog W .any base t v := hval0
  have hW' := hW
  obtain ⟨p, q, hA0, hV, rfl, hfz, hnd⟩ := hW
  have hA : DataW.TrodAll enc Tryd.prog W 0 (fun _ => true) true Tryd.f14.params.toList args.toList ds p := hA0
  rw [Tryd.params14] at hA hval
  have hG := gl_of_laid hL
  obtain ⟨v0, vs0, d0, ds0, p0, q0, hargs, rfl, rfl, h0, r0⟩ := trodAll_cons hA
  obtain ⟨v1, vs1, d1, ds1, p1, q1, rfl, rfl, rfl, h1, r1⟩ := trodAll_cons r0
  obtain ⟨v2, vs2, d2, ds2, p2, q2, rfl, rfl, rfl, h2, r2⟩ := trodAll_cons r1
  obtain ⟨rfl, rfl, rfl⟩ := trodAll_nil r2
  obtain rfl : args = #[v0, v1, v2] := by cases args; simp_all
  obtain ⟨rfl, rfl⟩ := trodVars_none hV
  obtain ⟨a0, len0, cap0, rfl⟩ := okWide_slice Tryd.underlying23 (hval 0 23 v0 rfl rfl)
  have k0 := h0
  have lt0 : ∀ x ∈ p0, x.block < W.heap.size := by obtain ⟨m, hm⟩ := k0; exact DataW.trod_lt m _ _ _ hm
  obtain ⟨l0, hr0⟩ : ∃ l, Rd W a0 len0 cap0 l := by
    obtain ⟨fuel, hf⟩ := h0
    rcases open_ints Tryd.underlying23 Tryd.underlying5 (by kernel_rfl) hf with ⟨hcs, _⟩ | ⟨x, l, c, zs, hcs, _, hl, hm, hz, _, hcell, hwz⟩
    · simp [Value.cells] at hcs
      obtain ⟨rfl, rfl, rfl⟩ := hcs
      exact rd_came (zs := []) (.inl ⟨rfl, rfl, rfl, rfl⟩)
    · simp [Value.cells] at hcs
      obtain ⟨rfl, rfl, rfl⟩ := hcs
      exact rd_came (.inr ⟨_, rfl, hl, hm, by simpa using hz, hcell, hwz⟩)
  obtain ⟨a1, len1, cap1, rfl⟩ := okWide_slice Tryd.underlying23 (hval 1 23 v1 rfl rfl)
  have k1 := h1
  have lt1 : ∀ x ∈ p1, x.block < W.heap.size := by obtain ⟨m, hm⟩ := k1; exact DataW.trod_lt m _ _ _ hm
  obtain ⟨l1, hr1⟩ : ∃ l, Rd W a1 len1 cap1 l := by
    obtain ⟨fuel, hf⟩ := h1
    rcases open_ints Tryd.underlying23 Tryd.underlying5 (by kernel_rfl) hf with ⟨hcs, _⟩ | ⟨x, l, c, zs, hcs, _, hl, hm, hz, _, hcell, hwz⟩
    · simp [Value.cells] at hcs
      obtain ⟨rfl, rfl, rfl⟩ := hcs
      exact rd_came (zs := []) (.inl ⟨rfl, rfl, rfl, rfl⟩)
    · simp [Value.cells] at hcs
      obtain ⟨rfl, rfl, rfl⟩ := hcs
      exact rd_came (.inr ⟨_, rfl, hl, hm, by simpa using hz, hcell, hwz⟩)
  obtain ⟨a2, rfl, rfl, rfl, w2⟩ := open_int Tryd.underlying3 (hval 2 3 v2 rfl rfl) h2
  clear hA0 hval0
  refine (walk a2 W hG hr0 hr1).mono fun e W' ⟨he, bel⟩ => ?_
  subst he
  exact ⟨_, rfl, _, _, _, [], _, [], hW', trodAll_mk1 (shut_bool Tryd.underlying4 _), (trodAll_cons_mk (Below.trod laidOut (by kernel_rfl) (of_decide_eq_true (by kernel_rfl)) k0 bel lt0) (trodAll_cons_mk (Below.trod laidOut (by kernel_rfl) (of_decide_eq_true (by kernel_rfl)) k1 bel lt1) (trodAll_cons_mk (shut_int Tryd.underlying3 w2) trodAll_mk0))), rfl, bel.frame _, fun h => by cases h⟩

theorem over : Rows.macBlocksRow.holds Tryd.pinned (OpenSpec.ofChange Rows.macBlocksSpec) :=
  OpenClaim.holds_of_wide 14 Tryd.f14 rfl rfl rfl rfl rfl rfl rfl ⟨rfl, rfl, rfl, rfl, rfl⟩ rfl rfl rfl rfl rfl (by kernel_rfl) Tryd.func14 (by kernel_rfl)
    (of_decide_eq_true (by kernel_rfl)) (by unfold Func.isWrapper; first | (rw [if_pos (by decide +kernel)]; kernel_rfl) | (rw [if_neg (by decide +kernel)]; exact ⟨rfl, rfl⟩))
    (fun os started H enc _ => lifted os started H enc)
end Go.Proofs.YtbepofmkfloajaaDoor.macBlocks
namespace Go.Proofs.YtbepofmkfloajaaDoor
theorem macBlocks_card : Rows.MacBlocksCardSaid :=
  Claim7.holds_tied_plain_at .later [] [.data, .data] true (true, "ac81aa9bd4a0dec26816718b789ea913be61d5e2860e2b9353823b24d89e6bc9") false
    macBlocks.over (fun _ h => by cases h) (by kernel_rfl) (fun _ h => by cases h) macBlocks_row_tie rfl ⟨rfl, rfl⟩ (by kernel_rfl) rfl
    (fun f fn hf hfn => by
      obtain rfl : f = 14 := Option.some.inj ((show Tryd.prog.funcNamed Tryd.f14.name = some 14 by kernel_rfl).symm.trans hf) |>.symm
      obtain rfl : fn = Tryd.f14 := (Option.some.inj (Tryd.func14.symm.trans hfn)).symm
      exact ⟨by kernel_rfl, fun j t ht => by
        rw [Tryd.params14] at ht
        have hm : t ∈ [23, 23, 3] := by simpa using Array.mem_of_getElem? ht
        have hall : (([23, 23, 3] : List TypeId).all fun u => !Tryd.prog.wantsStandIn u) = true := by kernel_rfl
        exact (show Tryd.prog.wantsStandIn t = false by simpa using List.all_eq_true.1 hall t hm)⟩)
    (by kernel_rfl)
#print axioms macBlocks_card
end Go.Proofs.YtbepofmkfloajaaDoor
