/-
  PROVED: for all a and b the law ShaOwn answers true (what was written may be turned afterwards; two states go by themselves). CONDITIONS: none beyond the card's own.
-/
import Derived.Test.YtbepofmkfloajaaDoorCommon
import Derived.Test.YtbepofmkfloajaaDoorTie
import Derived.Test.YtbepofmkfloajaaDoorCards
import Derived.OpenShut
import Derived.Stop.Joined
import Derived.SevenTiedAt
namespace Go.Proofs.YtbepofmkfloajaaDoor.shaOwn
open Go.ChangeShapes Go.WideShapes Go.ChangeAt Go.RowKit
set_option linter.unusedVariables false
set_option linter.unusedSimpArgs false

theorem rd_block {w : World} {A : Option Addr} {n c : Nat} {l : List UInt8} (h : Rd w A n c l) : 0 < n → ∀ ad, A = some ad → ad.block < w.heap.size := fun h0 ad had => by
  obtain ⟨b, off, e, hlt, _⟩ := h.at_ h0
  rw [had] at e
  injection e with e
  subst e
  exact hlt
/-- A row that is owned: its block. -/
theorem own_blk {w : World} {base : Nat} {v : Value} {l : List UInt8} (h : Ow w base v l) (h0 : 0 < l.length) : ∃ g c cur, v = .slice (some ⟨g, 0, none⟩) l.length c ∧ base ≤ g ∧ Blk w g 5 cur ∧ ∀ j, j < l.length → ∃ z : Int, cur[j]? = some (.int .u8 z) := by
  have h' := h
  rcases h.2 with ⟨rfl, hn⟩ | ⟨g, cap, cur, rfl, hb, hg, _⟩
  · have := h.form h0
    obtain ⟨g, c, e, _⟩ := this
    cases e
  · have hg' : Blk w g 5 cur.toList := by unfold Blk; rw [Array.toArray_toList]; exact hg
    refine ⟨g, cap, cur.toList, rfl, hb, hg', fun j hj => ?_⟩
    have h1 := World.ownsRow.cellAt h' j (by simpa using hj)
    rw [hg'.cell] at h1
    exact ⟨((l.getD j 0).toNat : Int), by rw [h1]; simp [cellOf, List.getD_eq_getElem?_getD, List.getElem?_eq_getElem hj]⟩

set_option maxRecDepth 100000 in
set_option maxHeartbeats 4000000 in
theorem walk {A0 A1 : Option Addr} {n0 c0 n1 c1 : Nat} {x0 x1 : List UInt8} (w : World) (hg : Gl w) (hr0 : Rd w A0 n0 c0 x0) (hr1 : Rd w A1 n1 c1 x1) :
    Calls Tryd.prog 5 #[.slice A0 n0 c0, .slice A1 n1 c1] w fun e w' => e = .returned (.bool true) ∧ Below w.heap.size w w' := by
  have HG := Lib.hid hg
  have hsz := hg.size
  have R0 := Lib.hid hr0
  have R1 := Lib.hid hr1
  clear hg hr0 hr1
  go_enter Tryd.func5, Tryd.ntmps5
  go_wp2_with (go_at_call 15; refine (begun_any HG.out).mono ?_; rintro e w1 ⟨rfl, HB⟩; have W1 := Lib.hid HB; clear HB)
  refine (short_any 80 (R0.out.below W1.out) (by omega)).mono ?_
  rintro e w' ⟨A2, n2, c2, rfl, hr2, rfl⟩
  have R2 := Lib.hid hr2
  clear hr2
  go_wp2_with fail
  refine (short_any 80 (R1.out.below W1.out) (by omega)).mono ?_
  rintro e w' ⟨A3, n3, c3, rfl, hr3, rfl⟩
  have R3 := Lib.hid hr3
  have hl2 : n2 ≤ 80 := by rw [← R2.out.len, List.length_take]; omega
  have hl3 : n3 ≤ 80 := by rw [← hr3.len, List.length_take]; omega
  clear hr3 R0 R1
  obtain ⟨l2, hl2e⟩ : ∃ l, l = x0.take 80 := ⟨_, rfl⟩
  obtain ⟨l3, hl3e⟩ : ∃ l, l = x1.take 80 := ⟨_, rfl⟩
  rw [← hl2e] at R2
  rw [← hl3e] at R3
  clear hl2e hl3e
  have N2 := Lib.hid R2.out.len
  have N3 := Lib.hid R3.out.len
  go_wp2_with fail
  refine (new_ex _).mono ?_
  rintro e w2 ⟨gs, rfl, hgs, hH, hX⟩
  have H2 := Lib.hid hH
  have hlt2 := hH.lt
  have W2 := Lib.hid (W1.out.trans (hX.mono W1.out.size))
  have R22 := Lib.hid (R2.out.below hX)
  have R32 := Lib.hid (R3.out.below hX)
  have hs1 := W1.out.size
  have hs2 := hX.size
  have P2s := Lib.hid (R2.out.apart (g := gs) hgs)
  have P3s := Lib.hid (R3.out.apart (g := gs) hgs)
  have P2w : Hid (0 < n2 → ∀ ad, A2 = some ad → ad.block < w1.heap.size) := rd_block R2.out
  have P3w : Hid (0 < n3 → ∀ ad, A3 = some ad → ad.block < w1.heap.size) := rd_block R3.out
  have P2r := R2
  have P3r := R3
  clear hH hX R2 R3 W1
  go_wp2_with fail
  refine (new_ex _).mono ?_
  rintro e w3 ⟨gt, rfl, hgt, hH, hX⟩
  have H3 : Hid (Holds w3 gt []) := hH
  have hlt3 := hH.lt
  have H23 : Hid (Holds w3 gs []) := H2.out.keep (hX.block gs hlt2)
  have W3 := Lib.hid (W2.out.trans (hX.mono W2.out.size))
  have R23 := Lib.hid (R22.out.below hX)
  have R33 := Lib.hid (R32.out.below hX)
  have hs3 := hX.size
  have P2t := Lib.hid (P2r.out.apart (g := gt) (by omega))
  have P3t := Lib.hid (P3r.out.apart (g := gt) (by omega))
  clear hH hX R22 R32 H2 W2 P2r P3r
  go_upto_region 7 with (first | (at_builtin; refine onto_law rfl _ _ rfl rfl rfl R23.out (Ow.empty _ w3.heap.size) (by simp; omega) (Nat.le_refl _) (Below.refl _ _) ?_; intro v4 w4 O4 X4))
  rw [List.nil_append] at O4
  obtain ⟨A4, c4, rfl, hr4, hg4⟩ := O4.out.value
  rw [N2.out] at hr4 hg4
  rw [N2.out]
  have R4 := Lib.hid hr4
  have G4 := Lib.hid hg4
  have BK4 := Lib.hid (own_blk O4.out)
  have H24 : Hid (Holds w4 gs []) := H23.out.keep (X4.out.block gs (by omega))
  have H34 : Hid (Holds w4 gt []) := H3.out.keep (X4.out.block gt hlt3)
  have W4 := Lib.hid (W3.out.trans (X4.out.mono W3.out.size))
  have HG4 := Lib.hid (HG.out.below W4.out HG.out.size)
  have R34 := Lib.hid (R33.out.below X4.out)
  have R24 := Lib.hid (R23.out.below X4.out)
  have hs4 := X4.out.size
  have AP4 : Hid (0 < n2 → ∀ ad, A4 = some ad → ad.block ≠ gs) := fun h0 ad had => by
    obtain ⟨g, e, hge⟩ := G4.out h0
    rw [had] at e
    injection e with e
    subst e
    show g ≠ gs
    omega
  clear hr4 hg4 O4 R33 R23 H23 H3 W3
  go_wp2_with fail
  refine (write_any HG4.out (by omega) H24.out R4.out AP4.out (by simp [N2.out]; omega)).mono ?_
  rintro e w5 ⟨rfl, R5, O5⟩
  have H25 : Hid (Holds w5 gs l2) := R5.holds
  have hs5 := O5.size
  have H35 : Hid (Holds w5 gt []) := H34.out.keep (O5.block gt (by omega) (by simp; omega))
  have W5 : Hid (Below w.heap.size w w5) := below_of_only W4.out O5 (by omega) (by omega)
  have Q5 : Hid (w4.grownBy w5 (some gs)) := O5
  have R35 := Lib.hid (R34.out.grown O5 P3s.out)
  have R25 := Lib.hid (R24.out.grown O5 P2s.out)
  clear R5 O5 R34 R24 H24 H34 W4 R4
  obtain ⟨wb, rfl⟩ : ∃ wb, wb = w5 := ⟨_, rfl⟩
  go_wp2_with fail
  go_loopw [26] (fun i wr => ∃ k : Nat, k ≤ n2 ∧ i = .int .i64 k ∧ Hid (0 < n2 → ∃ gc cur, A4 = some ⟨gc, 0, none⟩ ∧ w3.heap.size ≤ gc ∧ Blk wr gc 5 cur ∧ ∀ j, j < n2 → ∃ z : Int, cur[j]? = some (.int .u8 z)) ∧ Hid (Below w3.heap.size wb wr)) (fun i _ => n2 - (intOf i).toNat)
  case atStart =>
    refine ⟨0, by omega, rfl, fun h0 => ?_, Below.refl _ _⟩
    obtain ⟨gc, c, cur, e, hge, hB, hc⟩ := BK4.out (by rw [N2.out]; exact h0)
    rw [N2.out] at e hc
    injection e with e1 e2 e3
    exact ⟨gc, cur, e1, hge, (Q5.out.block gc hB.lt (by simp; omega)).trans hB, hc⟩
  case round =>
    obtain ⟨k, hk, rfl, HC, BW⟩ := hrel
    by_cases hlt : k < n2
    · obtain ⟨gc, cur, rfl, hge, hB, hc⟩ := HC.out (by omega)
      obtain ⟨z, hz⟩ := hc k hlt
      have e0 : wr.cell? ⟨gc, k, none⟩ = some (.int .u8 z) := by rw [hB.cell]; exact hz
      have f0 : wr.frozen? ⟨gc, k, none⟩ = false := hB.frozen k
      have HB := Lib.hid hB
      have HCC := Lib.hid hc
      clear hB hc hz HC
      go_wp2_with fail
      go_roundw
      case rel =>
        refine ⟨k + 1, by omega, by go_num, fun _ => ⟨gc, _, rfl, hge, HB.out.set_ k _, fun j hj => ?_⟩, BW.out.setCell hge _⟩
        by_cases hjk : k = j
        · subst hjk
          obtain ⟨z', hz'⟩ := HCC.out k hj
          have hlen : k < cur.length := (List.getElem?_eq_some_iff.1 hz').1
          rw [List.getElem?_set_self hlen]
          exact ⟨_, rfl⟩
        · rw [List.getElem?_set_ne hjk]
          exact HCC.out j hj
      case measure => simp [intOf]; omega
    · have hsr := BW.out.size
      have H26 : Hid (Holds wr gs l2) := H25.out.keep (BW.out.block gs (by omega))
      have H36 : Hid (Holds wr gt []) := H35.out.keep (BW.out.block gt hlt3)
      have W6 := Lib.hid (W5.out.trans (BW.out.mono (by omega)))
      have HG6 := Lib.hid (HG.out.below W6.out HG.out.size)
      have K6 : Hid (∀ b, b < w1.heap.size → wr.heap[b]? = wb.heap[b]?) := fun b hb => BW.out.block b (by omega)
      have R36 : Hid (Rd wr A3 n3 c3 l3) := R35.out.keep hsr (fun b off e h0 _ => by
        have := P3w.out h0 _ e
        exact K6.out b this)
      have R26 : Hid (Rd wr A2 n2 c2 l2) := R25.out.keep hsr (fun b off e h0 _ => by
        have := P2w.out h0 _ e
        exact K6.out b this)
      clear HC BW H25 H35 W5 R35 R25 Q5 BK4
      go_wp2_with fail
      refine (write_any HG6.out (by omega) H36.out R36.out P3t.out (by simp [N3.out]; omega)).mono ?_
      rintro e w7 ⟨rfl, Y7, O7⟩
      have H37 : Hid (Holds w7 gt l3) := Y7.holds
      have hs7 := O7.size
      have H27 : Hid (Holds w7 gs l2) := H26.out.keep (O7.block gs (by omega) (by simp; omega))
      have W7 : Hid (Below w.heap.size w w7) := below_of_only W6.out O7 (by omega) (by omega)
      have HG7 := Lib.hid (HG.out.below W7.out HG.out.size)
      have R37 := Lib.hid (R36.out.grown O7 P3t.out)
      have R27 := Lib.hid (R26.out.grown O7 P2t.out)
      clear Y7 O7 R36 R26 H26 H36 W6
      go_wp2_with fail
      refine (write_any HG7.out (by omega) H27.out R37.out P3s.out (by rw [N2.out, N3.out]; omega)).mono ?_
      rintro e w8 ⟨rfl, Y8, O8⟩
      have H28 : Hid (Holds w8 gs (l2 ++ l3)) := Y8.holds
      have hs8 := O8.size
      have H38 : Hid (Holds w8 gt l3) := H37.out.keep (O8.block gt (by omega) (by simp; omega))
      have W8 : Hid (Below w.heap.size w w8) := below_of_only W7.out O8 (by omega) (by omega)
      have HG8 := Lib.hid (HG.out.below W8.out HG.out.size)
      have R38 := Lib.hid (R37.out.grown O8 P3s.out)
      have R28 := Lib.hid (R27.out.grown O8 P2s.out)
      clear Y8 O8 R37 R27 H27 H37 W7
      go_wp2_with fail
      refine (sum_ex HG8.out H28.out (by rw [List.length_append, N2.out, N3.out]; omega)).mono ?_
      rintro e w9 ⟨D, rfl, hS, hX⟩
      have HS := Lib.hid hS
      have W9 := Lib.hid (W8.out.trans (hX.mono W8.out.size))
      have H39 : Hid (Holds w9 gt l3) := H38.out.keep (hX.block gt (by omega))
      have R39 := Lib.hid (R38.out.below hX)
      have R29 := Lib.hid (R28.out.below hX)
      have hs9 := hX.size
      clear hS hX R38 R28 H38 W8
      go_wp2_with (first
        | (at_builtin; refine onto_law rfl (.const (.slice none 0 0)) _ rfl rfl rfl R29.out (Ow.empty _ w9.heap.size) (by simp; omega) (Nat.le_refl _) (Below.refl _ _) ?_; intro v10 w10 O10 X10)
        | (at_builtin; refine onto_law rfl _ _ rfl rfl rfl (R39.out.below X10.out) O10.out (by simp [N2.out]; omega) X10.out.size X10.out ?_; intro v11 w11 O11 X11))
      rw [List.nil_append] at O11
      obtain ⟨A5, c5, rfl, hr5, _⟩ := O11.out.value
      have R5 := Lib.hid hr5
      have W11 := Lib.hid (W9.out.trans (X11.out.mono W9.out.size))
      have H311 : Hid (Holds w11 gt l3) := H39.out.keep (X11.out.block gt (by omega))
      have R311 := Lib.hid (R39.out.below X11.out)
      have hs11 := X11.out.size
      clear hr5 O11 O10 X10 X11 R39 R29 H39 W9
      refine (rsum_any R5.out (by rw [List.length_append, N2.out, N3.out]; omega)).mono ?_
      rintro e w12 ⟨D2, rfl, hS2, hX⟩
      obtain rfl := HS.out.uniq hS2
      have hq := fun W => HS.out.self W
      have W12 := Lib.hid (W11.out.trans (hX.mono W11.out.size))
      have H312 : Hid (Holds w12 gt l3) := H311.out.keep (hX.block gt (by omega))
      have R312 := Lib.hid (R311.out.below hX)
      have HG12 := Lib.hid (HG.out.below W12.out HG.out.size)
      have hs12 := hX.size
      clear hS2 hX R311 H311 W11 R5
      go_wp2_with fail
      clear hq
      refine (sum_ex HG12.out H312.out (by rw [N3.out]; omega)).mono ?_
      rintro e w13 ⟨D3, rfl, hS3, hX⟩
      have HS3 := Lib.hid hS3
      have W13 := Lib.hid (W12.out.trans (hX.mono W12.out.size))
      have R313 := Lib.hid (R312.out.below hX)
      clear hS3 hX R312 H312 W12
      go_wp2_with fail
      refine (rsum_any R313.out (by omega)).mono ?_
      rintro e w14 ⟨D4, rfl, hS4, hX⟩
      obtain rfl := HS3.out.uniq hS4
      have hq := fun W => HS3.out.self W
      have W14 := Lib.hid (W13.out.trans (hX.mono W13.out.size))
      clear hS4 hX
      go_wp2_with fail
      go_ret
      exact ⟨rfl, W14.out⟩

set_option maxRecDepth 100000 in
theorem lifted (os : Os) (started : os.Started) (H : Type) (enc : TypeId × Value → H) :
    ReturnsInHanded {} Tryd.checked os 5 .any (fun w args => (Rows.shaOwnSpec.pre enc Tryd.prog Tryd.f5 [] false w args ∧ laidMetH Tryd.prog laid2 w) ∧ sizedMet enc Tryd.prog Tryd.f5 (OpenSpec.ofChange Rows.shaOwnSpec) false w args)
      (Rows.shaOwnSpec.post enc Tryd.prog Tryd.f5 false true false false) := by
  refine returnsInHanded_of_change_and (C := Tryd.checked) (X := fun w _ => laidMetH Tryd.prog laid2 w) (fun _ _ _ hh h => h.of_heap hh) own started (by kernel_rfl) Tryd.func5
    (ChangeSpec.witness_shaped (enc := enc) (C := Tryd.checked) (os := os) (X := fun w _ => laidMetH Tryd.prog laid2 w) false (World.doorLaid Tryd.prog 400 os) #[.slice none 0 0, .slice none 0 0] 8 rfl (World.shaped_of_RefB (by kernel_rfl) (by kernel_rfl)) (by kernel_rfl) (by kernel_rfl) (by kernel_rfl) (door_met os _)) ?_
  intro W base args ds gs before hval0 hW _ _ hL _
  have hval : ∀ (j : Nat) t v, Tryd.f5.params[j]? = some t → args[j]? = some v → Value.okWide Tryd.prog W .any base t v := hval0
  have hW' := hW
  obtain ⟨p, q, hA0, hV, rfl, hfz, hnd⟩ := hW
  have hA : DataW.TrodAll enc Tryd.prog W 0 (fun _ => true) true Tryd.f5.params.toList args.toList ds p := hA0
  rw [Tryd.params5] at hA hval
  have hG := gl_of_laid hL
  obtain ⟨v0, vs0, d0, ds0, p0, q0, hargs, rfl, rfl, h0, r0⟩ := trodAll_cons hA
  obtain ⟨v1, vs1, d1, ds1, p1, q1, rfl, rfl, rfl, h1, r1⟩ := trodAll_cons r0
  obtain ⟨rfl, rfl, rfl⟩ := trodAll_nil r1
  obtain rfl : args = #[v0, v1] := by cases args; simp_all
  obtain ⟨rfl, rfl⟩ := trodVars_none hV
  obtain ⟨a0, len0, cap0, rfl⟩ := okWide_slice Tryd.underlying23 (hval 0 23 v0 rfl rfl)
  have k0 := h0
  have lt0 : ∀ x ∈ p0, x.block < W.heap.size := by obtain ⟨m, hm⟩ := k0; exact DataW.trod_lt m _ _ _ hm
  obtain ⟨l0, hr0⟩ : ∃ l, Rd W a0 len0 cap0 l := by
    obtain ⟨fuel, hf⟩ := h0
    rcases open_ints Tryd.underlying23 Tryd.underlying5 (by kernel_rfl) hf with ⟨hcs, _⟩ | ⟨x, l, c, zs, hcs, _, hl, hm, hz, _, hcell, hwz⟩
    · simp [Value.cells] at hcs
      obtain ⟨rfl, rfl, rfl⟩ := hcs
      exact rd_came (zs := []) (.inl ⟨rfl, rfl, rfl, rfl⟩)
    · simp [Value.cells] at hcs
      obtain ⟨rfl, rfl, rfl⟩ := hcs
      exact rd_came (.inr ⟨_, rfl, hl, hm, by simpa using hz, hcell, hwz⟩)
  obtain ⟨a1, len1, cap1, rfl⟩ := okWide_slice Tryd.underlying23 (hval 1 23 v1 rfl rfl)
  have k1 := h1
  have lt1 : ∀ x ∈ p1, x.block < W.heap.size := by obtain ⟨m, hm⟩ := k1; exact DataW.trod_lt m _ _ _ hm
  obtain ⟨l1, hr1⟩ : ∃ l, Rd W a1 len1 cap1 l := by
    obtain ⟨fuel, hf⟩ := h1
    rcases open_ints Tryd.underlying23 Tryd.underlying5 (by kernel_rfl) hf with ⟨hcs, _⟩ | ⟨x, l, c, zs, hcs, _, hl, hm, hz, _, hcell, hwz⟩
    · simp [Value.cells] at hcs
      obtain ⟨rfl, rfl, rfl⟩ := hcs
      exact rd_came (zs := []) (.inl ⟨rfl, rfl, rfl, rfl⟩)
    · simp [Value.cells] at hcs
      obtain ⟨rfl, rfl, rfl⟩ := hcs
      exact rd_came (.inr ⟨_, rfl, hl, hm, by simpa using hz, hcell, hwz⟩)
  clear hA0 hval0
  refine (walk W hG hr0 hr1).mono fun e W' ⟨he, bel⟩ => ?_
  subst he
  exact ⟨_, rfl, _, _, _, [], _, [], hW', trodAll_mk1 (shut_bool Tryd.underlying4 _), (trodAll_cons_mk (Below.trod laidOut (by kernel_rfl) (of_decide_eq_true (by kernel_rfl)) k0 bel lt0) (trodAll_cons_mk (Below.trod laidOut (by kernel_rfl) (of_decide_eq_true (by kernel_rfl)) k1 bel lt1) trodAll_mk0)), rfl, bel.frame _, fun h => by cases h⟩

theorem over : Rows.shaOwnRow.holds Tryd.pinned (OpenSpec.ofChange Rows.shaOwnSpec) :=
  OpenClaim.holds_of_wide 5 Tryd.f5 rfl rfl rfl rfl rfl rfl rfl ⟨rfl, rfl, rfl, rfl, rfl⟩ rfl rfl rfl rfl rfl (by kernel_rfl) Tryd.func5 (by kernel_rfl)
    (of_decide_eq_true (by kernel_rfl)) (by unfold Func.isWrapper; first | (rw [if_pos (by decide +kernel)]; kernel_rfl) | (rw [if_neg (by decide +kernel)]; exact ⟨rfl, rfl⟩))
    (fun os started H enc _ => lifted os started H enc)
end Go.Proofs.YtbepofmkfloajaaDoor.shaOwn
namespace Go.Proofs.YtbepofmkfloajaaDoor
theorem shaOwn_card : Rows.ShaOwnCardSaid :=
  Claim7.holds_tied_plain_at .later [] [.data, .data] true (true, "ac81aa9bd4a0dec26816718b789ea913be61d5e2860e2b9353823b24d89e6bc9") false
    shaOwn.over (fun _ h => by cases h) (by kernel_rfl) (fun _ h => by cases h) shaOwn_row_tie rfl ⟨rfl, rfl⟩ (by kernel_rfl) rfl
    (fun f fn hf hfn => by
      obtain rfl : f = 5 := Option.some.inj ((show Tryd.prog.funcNamed Tryd.f5.name = some 5 by kernel_rfl).symm.trans hf) |>.symm
      obtain rfl : fn = Tryd.f5 := (Option.some.inj (Tryd.func5.symm.trans hfn)).symm
      exact ⟨by kernel_rfl, fun j t ht => by
        rw [Tryd.params5] at ht
        have hm : t ∈ [23, 23] := by simpa using Array.mem_of_getElem? ht
        have hall : (([23, 23] : List TypeId).all fun u => !Tryd.prog.wantsStandIn u) = true := by kernel_rfl
        exact (show Tryd.prog.wantsStandIn t = false by simpa using List.all_eq_true.1 hall t hm)⟩)
    (by kernel_rfl)
#print axioms shaOwn_card
end Go.Proofs.YtbepofmkfloajaaDoor
