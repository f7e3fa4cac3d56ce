/- The contract of mix. -/
import Derived.Test.YtbepofmkfloajaaDoorWords
namespace Go.Proofs.YtbepofmkfloajaaDoor
set_option linter.unusedVariables false
set_option linter.unusedSimpArgs false
open Go.RowKit

theorem wd_at (l : List Int) (j : Nat) (h : j < l.length) : (l.map wd)[j]? = some (.int .u32 (l.getD j 0)) := by
  simp [wd, List.getD_eq_getElem?_getD, List.getElem?_eq_getElem h]

theorem drop_cons (l : List Int) (k : Nat) (h : k < l.length) : l.drop k = l.getD k 0 :: l.drop (k + 1) := by
  rw [List.drop_eq_getElem_cons h]
  simp [List.getD_eq_getElem?_getD, List.getElem?_eq_getElem h]
theorem half_at (l s : List Int) (k : Nat) (hl : l.length = k) (h : k < s.length) : (l.map wd ++ (s.drop k).map wd)[k]? = some (.int .u32 (s.getD k 0)) := by
  rw [List.getElem?_append_right (by simp; omega), drop_cons s k h]
  simp [hl, wd]
theorem half_set (l s : List Int) (k : Nat) (x : Int) (hl : l.length = k) (h : k < s.length) : (l.map wd ++ (s.drop k).map wd).set k (wd x) = (l ++ [x]).map wd ++ (s.drop (k + 1)).map wd := by
  rw [List.set_append_right _ _ (by simp; omega), drop_cons s k h]
  simp [hl]

set_option maxRecDepth 100000 in
set_option maxHeartbeats 4000000 in
theorem mix_any (s ws : List Int) (w : World) (hg : Gl w) (hs : s.length = 8) (hw : ws.length = 64) :
    Calls Tryd.prog 30 #[.agg (s.map wd).toArray, .agg (ws.map wd).toArray] w fun e w' => e = .returned (.agg ((Sha.adds s (Sha.run Sha.K ws (s.getD 0 0) (s.getD 1 0) (s.getD 2 0) (s.getD 3 0) (s.getD 4 0) (s.getD 5 0) (s.getD 6 0) (s.getD 7 0))).map wd).toArray) ∧ Below w.heap.size w w' := by
  obtain ⟨cs, hcs⟩ : ∃ cs, cs = s.map wd := ⟨_, rfl⟩
  obtain ⟨cw, hcw⟩ : ∃ cw, cw = ws.map wd := ⟨_, rfl⟩
  rw [← hcs, ← hcw]
  have HG := Lib.hid hg
  have HS := Lib.hid hs
  have HW := Lib.hid hw
  have HCS := Lib.hid hcs
  have HCW := Lib.hid hcw
  clear hg hs hw hcs hcw
  go_enter Tryd.func30, Tryd.ntmps30
  go_wp2_with fail
  obtain ⟨w1, hw1⟩ : ∃ w1, w1 = ((w.alloc (Obj.cells cs.toArray 50)).alloc (Obj.cells cw.toArray 56)).alloc (Obj.cells #[Value.int IntKind.u32 0, Value.int IntKind.u32 0, Value.int IntKind.u32 0, Value.int IntKind.u32 0, Value.int IntKind.u32 0, Value.int IntKind.u32 0, Value.int IntKind.u32 0, Value.int IntKind.u32 0] 50) := ⟨_, rfl⟩
  have B0 : Hid (Blk w1 w.heap.size 50 cs) := by unfold Hid; rw [hw1]; exact ((Blk.new w 50 cs).alloc _).alloc _
  have B1 : Hid (Blk w1 (w.heap.size + 1) 56 cw) := by unfold Hid; rw [hw1]; exact (Blk.at_new _ _ 56 _ _ rfl (by simp)).alloc _
  have B2 : Hid (Blk w1 (w.heap.size + 1 + 1) 50 (List.replicate 8 (wd 0))) := by unfold Hid; rw [hw1]; exact Blk.at_new _ _ 50 _ _ (by rfl) (by simp)
  have BW : Hid (Below w.heap.size w w1) := by unfold Hid; rw [hw1]; exact (((Below.refl _ _).alloc (Nat.le_refl _) _).alloc (by simp) _).alloc (by simp; omega) _
  have BG : Hid (Gl w1) := HG.out.below BW.out HG.out.size
  rw [← hw1]
  clear hw1
  have hcell : ∀ j, j < 8 → w1.drew.cell? ⟨w.heap.size, j, none⟩ = some (.int .u32 (s.getD j 0)) := fun j hj => by
    rw [B0.out.drew.cell, HCS.out]; exact wd_at s j (by rw [HS.out]; exact hj)
  have c0 := hcell 0 (by omega)
  have c1 := hcell 1 (by omega)
  have c2 := hcell 2 (by omega)
  have c3 := hcell 3 (by omega)
  have c4 := hcell 4 (by omega)
  have c5 := hcell 5 (by omega)
  have c6 := hcell 6 (by omega)
  have c7 := hcell 7 (by omega)
  clear hcell
  obtain ⟨R, hR⟩ : ∃ R, R = Sha.run Sha.K ws (s.getD 0 0) (s.getD 1 0) (s.getD 2 0) (s.getD 3 0) (s.getD 4 0) (s.getD 5 0) (s.getD 6 0) (s.getD 7 0) := ⟨_, rfl⟩
  have HR := Lib.hid hR
  have HR2 := Lib.hid hR
  clear hR
  generalize s.getD 0 0 = s0 at c0 HR
  generalize s.getD 1 0 = s1 at c1 HR
  generalize s.getD 2 0 = s2 at c2 HR
  generalize s.getD 3 0 = s3 at c3 HR
  generalize s.getD 4 0 = s4 at c4 HR
  generalize s.getD 5 0 = s5 at c5 HR
  generalize s.getD 6 0 = s6 at c6 HR
  generalize s.getD 7 0 = s7 at c7 HR
  refine wp_region_still_lit (by kernel_rfl) (by kernel_rfl) ?_
  have hD : ({ w1 with drawn := w1.drawn + 1 } : World) = w1.drew := rfl
  rw [hD]
  clear hD
  replace B0 := Lib.hid B0.out.drew
  replace B1 := Lib.hid B1.out.drew
  replace B2 := Lib.hid B2.out.drew
  replace BW := Lib.hid BW.out.drew
  replace BG := Lib.hid (HG.out.below BW.out HG.out.size)
  generalize w1.drew = w2 at *
  repeat still_step
  refine wpStill_nil ?_
  go_wp2_with fail
  refine wp_region_still_lit (by kernel_rfl) (by kernel_rfl) ?_
  have hD : ({ w2 with drawn := w2.drawn + 1 } : World) = w2.drew := rfl
  rw [hD]
  clear hD
  replace B0 := Lib.hid B0.out.drew
  replace B1 := Lib.hid B1.out.drew
  replace B2 := Lib.hid B2.out.drew
  replace BW := Lib.hid BW.out.drew
  replace BG := Lib.hid (HG.out.below BW.out HG.out.size)
  replace c4 : w2.drew.cell? ⟨w.heap.size, 4, none⟩ = some (.int .u32 s4) := c4
  replace c5 : w2.drew.cell? ⟨w.heap.size, 5, none⟩ = some (.int .u32 s5) := c5
  replace c6 : w2.drew.cell? ⟨w.heap.size, 6, none⟩ = some (.int .u32 s6) := c6
  replace c7 : w2.drew.cell? ⟨w.heap.size, 7, none⟩ = some (.int .u32 s7) := c7
  clear c0 c1 c2 c3
  generalize w2.drew = w3 at *
  repeat still_step
  refine wpStill_nil ?_
  clear c4 c5 c6 c7
  obtain ⟨kc, hkc⟩ : ∃ kc, kc = Sha.K.map wd := ⟨_, rfl⟩
  have HKC := Lib.hid hkc
  have HKL : Hid ((Tryd.prog.info? 56).map (·.size) = some kc.length) := by unfold Hid; rw [hkc]; kernel_rfl
  have HKR : Hid (∀ j v, kc[j]? = some v → w3.cell? ⟨1, 0 + j, none⟩ = some v) := by unfold Hid; rw [hkc]; exact BG.out.rounds
  clear hkc
  go_wp2_with (with_reducible refine load_law rfl 56 (.global 1) rfl 1 0 rfl kc _ Tryd.underlying56 rfl HKL.out HKR.out ?_)
  go_loopw [5, 6, 7, 8, 9, 10, 11, 12, 36] (fun va vb vc vd ve vf vg vh vi wr => ∃ (k : Nat) (a b c d e f g h : Int), k ≤ 64 ∧ vi = .int .i64 k ∧ va = .int .u32 a ∧ vb = .int .u32 b ∧ vc = .int .u32 c ∧ vd = .int .u32 d ∧ ve = .int .u32 e ∧ vf = .int .u32 f ∧ vg = .int .u32 g ∧ vh = .int .u32 h ∧ Hid (Sha.run (Sha.K.drop k) (ws.drop k) a b c d e f g h = R) ∧ Hid (Blk wr w.heap.size 50 cs) ∧ Hid (Blk wr (w.heap.size + 1) 56 cw) ∧ Hid (Blk wr (w.heap.size + 1 + 1) 50 (List.replicate 8 (wd 0))) ∧ Hid (Below w.heap.size w wr)) (fun _ _ _ _ _ _ _ _ i _ => 64 - (intOf i).toNat)
  case atStart => exact ⟨0, s0, s1, s2, s3, s4, s5, s6, s7, by omega, rfl, rfl, rfl, rfl, rfl, rfl, rfl, rfl, rfl, HR.out.symm, B0, B1, B2, BW⟩
  case round =>
    clear B0 B1 B2 BW BG HKR HR
    obtain ⟨k, a, b, c, d, e, f, g, h, hk, rfl, rfl, rfl, rfl, rfl, rfl, rfl, rfl, rfl, HE, B0, B1, B2, BW⟩ := hrel
    by_cases hlt : k < 64
    · obtain ⟨kk, hkk⟩ : ∃ x, x = Sha.K.getD k 0 := ⟨_, rfl⟩
      obtain ⟨wk, hwk⟩ : ∃ x, x = ws.getD k 0 := ⟨_, rfl⟩
      have hkg : kc[k]? = some (.int .u32 kk) := by rw [HKC.out, hkk]; exact wd_at _ k (by rw [Sha.K_length]; exact hlt)
      have hkl : kc.length = 64 := by rw [HKC.out, List.length_map, Sha.K_length]
      have c1 : wr.drew.cell? ⟨w.heap.size + 1, k, none⟩ = some (.int .u32 wk) := by
        rw [B1.out.drew.cell, HCW.out, hwk]; exact wd_at ws k (by rw [HW.out]; exact hlt)
      have HE2 : Hid (Sha.run (Sha.K.drop (k + 1)) (ws.drop (k + 1)) (Sha.add (Sha.one e f g h kk wk) (Sha.two a b c)) a b c (Sha.add d (Sha.one e f g h kk wk)) e f g = R) := by
        unfold Hid
        rw [← HE.out, List.drop_eq_getElem_cons (show k < Sha.K.length by rw [Sha.K_length]; exact hlt), List.drop_eq_getElem_cons (show k < ws.length by rw [HW.out]; exact hlt), Sha.run_cons]
        have e1 : Sha.K[k]'(by rw [Sha.K_length]; exact hlt) = kk := by rw [hkk, List.getD_eq_getElem?_getD, List.getElem?_eq_getElem (by rw [Sha.K_length]; exact hlt)]; rfl
        have e2 : ws[k]'(by rw [HW.out]; exact hlt) = wk := by rw [hwk, List.getD_eq_getElem?_getD, List.getElem?_eq_getElem (by rw [HW.out]; exact hlt)]; rfl
        rw [e1, e2]
      have bk : (k : Int) < 64 := by omega
      clear hkk hwk HE
      replace B0 := Lib.hid B0.out.drew
      replace B1 := Lib.hid B1.out.drew
      replace B2 := Lib.hid B2.out.drew
      replace BW := Lib.hid BW.out.drew
      have hix := run_index_one (P := Tryd.prog) wr 56 49 64 _ Tryd.underlying56 Tryd.underlying49 rfl (by kernel_rfl) kc k hlt _ hkg
      clear hkg hkl
      go_wp2_with fail
      clear hix
      refine wp_region_still_lit (by kernel_rfl) (by kernel_rfl) ?_
      have hD : ({ wr with drawn := wr.drawn + 1 } : World) = wr.drew := rfl
      rw [hD]
      clear hD
      generalize wr.drew = w4 at *
      repeat (first | still_step | still_call (turn_lit _ _ _ (by omega) (by omega)))
      refine wpStill_nil ?_
      go_wp2_with (go_at_call 36; refine (turn_lit _ _ _ (by omega) (by omega)).mono ?_; rintro e w' ⟨rfl, rfl⟩)
      go_roundw
      case rel => exact ⟨k + 1, _, _, _, _, _, _, _, _, by omega, by go_num, rfl, rfl, rfl, rfl, rfl, rfl, rfl, rfl, HE2, B0, B1, B2, BW⟩
      case measure => simp [intOf]; omega
    · obtain rfl : k = 64 := by omega
      have HZ : Hid ([a, b, c, d, e, f, g, h] = R) := by
        unfold Hid
        rw [← HE.out, List.drop_of_length_le (by rw [Sha.K_length]; omega), Sha.run_nil]
      clear HE
      go_wp2_with fail
      obtain ⟨rc, hrc⟩ : ∃ rc : List Value, rc.toArray = #[Value.int IntKind.u32 a, Value.int IntKind.u32 b, Value.int IntKind.u32 c, Value.int IntKind.u32 d, Value.int IntKind.u32 e, Value.int IntKind.u32 f, Value.int IntKind.u32 g, Value.int IntKind.u32 h] := ⟨[Value.int IntKind.u32 a, Value.int IntKind.u32 b, Value.int IntKind.u32 c, Value.int IntKind.u32 d, Value.int IntKind.u32 e, Value.int IntKind.u32 f, Value.int IntKind.u32 g, Value.int IntKind.u32 h], rfl⟩
      rw [← hrc]
      have HRC : Hid (rc = R.map wd) := by
        unfold Hid
        rw [← HZ.out]
        simpa [wd] using congrArg Array.toList hrc
      have HRL : Hid (R.length = 8) := by unfold Hid; rw [← HZ.out]; rfl
      clear hrc HZ
      have e64 : ((64 : Nat) : Int) = 64 := rfl
      rw [e64]
      clear e64 hk hlt
      obtain ⟨T, hT⟩ : ∃ T, T = Sha.adds s R := ⟨_, rfl⟩
      have HT := Lib.hid hT
      clear hT
      go_loopw [107] (fun i wr => ∃ (k : Nat) (l : List Int), k ≤ 8 ∧ i = .int .i64 k ∧ Hid (l.length = k) ∧ Hid (l ++ Sha.adds (s.drop k) (R.drop k) = T) ∧ Hid (Blk wr w.heap.size 50 (l.map wd ++ (s.drop k).map wd)) ∧ Hid (Blk wr (w.heap.size + 1 + 1) 50 (List.replicate 8 (wd 0))) ∧ Hid (Below w.heap.size w wr)) (fun i _ => 8 - (intOf i).toNat)
      case atStart => exact ⟨0, [], by omega, rfl, rfl, HT.out.symm, by unfold Hid; have := B0.out; rw [HCS.out] at this; exact this, B2, BW⟩
      case round =>
        clear B0 B1 B2 BW
        obtain ⟨k, l, hk, rfl, HK, HE, B0, B2, BW⟩ := hrel
        by_cases hlt : k < 8
        · obtain ⟨sk, hsk⟩ : ∃ x, x = s.getD k 0 := ⟨_, rfl⟩
          obtain ⟨rk, hrk⟩ : ∃ x, x = R.getD k 0 := ⟨_, rfl⟩
          have hix := run_index_one (P := Tryd.prog) wr 50 49 8 _ Tryd.underlying50 Tryd.underlying49 rfl (by kernel_rfl) rc k hlt (.int .u32 rk) (by rw [HRC.out, hrk]; exact wd_at R k (by rw [HRL.out]; exact hlt))
          have c0 : wr.cell? ⟨w.heap.size, k, none⟩ = some (.int .u32 sk) := by rw [B0.out.cell, hsk]; exact half_at l s k HK.out (by rw [HS.out]; exact hlt)
          have f0 : wr.frozen? ⟨w.heap.size, k, none⟩ = false := B0.out.frozen k
          have HE2 : Hid (l ++ [Sha.add sk rk] ++ Sha.adds (s.drop (k + 1)) (R.drop (k + 1)) = T) := by
            unfold Hid
            rw [← HE.out, drop_cons s k (by rw [HS.out]; exact hlt), drop_cons R k (by rw [HRL.out]; exact hlt), Sha.adds_cons, ← hsk, ← hrk]
            simp
          have HB : Hid (Blk (wr.setCell ⟨w.heap.size, k, none⟩ (wd (Sha.add sk rk))) w.heap.size 50 ((l ++ [Sha.add sk rk]).map wd ++ (s.drop (k + 1)).map wd)) := by
            have := B0.out.set_ k (wd (Sha.add sk rk))
            rw [half_set l s k _ HK.out (by rw [HS.out]; exact hlt)] at this
            exact this
          clear hsk hrk HE
          go_wp2
          go_roundw
          case rel => exact ⟨k + 1, _, by omega, by go_num, by unfold Hid; simp [HK.out], HE2, HB, B2.out.far (by show w.heap.size + 1 + 1 ≠ w.heap.size; omega) _, BW.out.setCell (Nat.le_refl _) _⟩
          case measure => simp [intOf]; omega
        · obtain rfl : k = 8 := by omega
          have hl : l = T := by
            have := HE.out
            rw [List.drop_of_length_le (show s.length ≤ 8 by rw [HS.out]; omega)] at this
            simpa [Sha.adds] using this
          obtain ⟨C, hC⟩ : ∃ C, C = l.map wd := ⟨_, rfl⟩
          have B3 := B0.out
          rw [List.drop_of_length_le (show s.length ≤ 8 by rw [HS.out]; omega), List.map_nil, List.append_nil, ← hC] at B3
          have HV : Hid (C = T.map wd) := by unfold Hid; rw [hC, hl]
          have hCl : C.length = 8 := by rw [hC, List.length_map, HK.out]
          have HI : Hid ((Tryd.prog.info? 50).map (·.size) = some C.length) := by unfold Hid; rw [hCl]; kernel_rfl
          have HF0 : Hid ((List.replicate 8 (wd 0)).length = C.length) := by unfold Hid; rw [hCl]; rfl
          have H1 : Hid (∀ v ∈ C, v.oneCell' = true) := by unfold Hid; rw [hC]; exact cells_wd l
          have HD := Lib.hid B3
          have HN := Lib.hid (B2.out.row (cs' := C))
          have HB4 := Lib.hid (below_setRow BW.out (show w.heap.size ≤ w.heap.size + 1 + 1 by omega) C.toArray)
          clear hCl hC hl HE B3 HK
          go_wp2_with (first
            | (with_reducible refine load_law rfl 50 (.tmp 2) rfl w.heap.size 0 rfl C _ Tryd.underlying50 rfl HI.out HD.out.cells ?_)
            | (with_reducible refine storeAll_law rfl 50 (.tmp 4) (.tmp 118) rfl (w.heap.size + 1 + 1) rfl C rfl 50 (List.replicate 8 (wd 0)) B2.out HI.out HF0.out H1.out ?_))
          refine bodyPost_ret (results_cell_row rfl _ _ (w.heap.size + 1 + 1) 50 C.toArray (0, 0) _ rfl HN.out Tryd.underlying50 rfl (by rw [HI.out]; simp)) rfl ⟨?_, HB4.out⟩
          rw [HV.out, HT.out, HR2.out]
end Go.Proofs.YtbepofmkfloajaaDoor
