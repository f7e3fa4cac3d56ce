import Derived.Test.YtmidbpjdpakkoaaDoorSPq3
namespace Go.Proofs.YtmidbpjdpakkoaaDoor
set_option linter.unusedVariables false
set_option linter.unusedSimpArgs false
set_option maxRecDepth 100000
open Go.RowKit
set_option maxRecDepth 100000 in
set_option maxHeartbeats 1000000 in
theorem pcheck_any {w : World} (hg : Gl w) {x : Value} {p : Tm.Prf} (hp : PrfIn w x p) {r0 k : List UInt8} (hr0 : r0.length = 32) (hk : k.length = 32) : Calls Tryd.prog 29 #[hv r0, hv k, x] w (ChkR w (p.told r0 k) (p.holds r0 k && p.there k) (p.holds r0 k)) := by
  have EK := Lib.hid (hash_eq p.lab k hp.lab hk)
  have IR := Lib.hid (hash_info hr0)
  have IK := Lib.hid (hash_info hk)
  have OM := Lib.hid (cells_u8 p.sum)
  have LM0 : Hid ((List.replicate 32 (Value.int .u8 0)).length = (p.sum.map cellOf).length) := by unfold Hid; rw [List.length_map, hp.sum]; rfl
  have CH : Hid (∀ W, Below w.heap.size w W → Calls Tryd.prog 46 #[hv r0, hv k, x] W fun e w' => e = .returned (.bool (p.holds r0 k)) ∧ Below W.heap.size W w') := fun W h => pholds_any (hg.below h hg.size) (hp.below h) hr0 hk
  obtain ⟨A, n, c, hx, hr, hn1⟩ := hp.at_
  have hln : p.sides.length = n := by rw [← hr.len]; simp [hashes]
  have HLN := Lib.hid hln
  have HR := Lib.hid hr
  have HE := Lib.hid hp.each
  have IA := Lib.hid (hash_info hp.lab)
  have IM := Lib.hid (hash_info hp.sum)
  have IZ := Lib.hid zero_info
  have OZ := Lib.hid zero_one
  have BZ0 := Lib.hid zero_built
  have HP := Lib.hid hp
  obtain ⟨PP, hPP⟩ : ∃ L, L = proofL (.slice A n c) p.has (p.lab.map cellOf) (p.sum.map cellOf) := ⟨_, rfl⟩
  have IP : Hid ((Tryd.prog.info? 38).map (·.size) = some PP.length) := by unfold Hid; rw [hPP]; exact proofL_info (by simpa using hp.lab) (by simpa using hp.sum)
  have LA : Hid (∀ W g, Blk W g 38 PP → ∀ j y, (p.lab.map cellOf)[j]? = some y → W.cell? ⟨g, 2 + j, none⟩ = some y) := fun W g h => by rw [hPP] at h; exact proof_lab h (by simpa using hp.lab)
  have LM : Hid (∀ W g, Blk W g 38 PP → ∀ j y, (p.sum.map cellOf)[j]? = some y → W.cell? ⟨g, 34 + j, none⟩ = some y) := fun W g h => by rw [hPP] at h; exact proof_sum h (by simpa using hp.lab)
  have L0 : Hid (∀ W g, Blk W g 38 PP → W.cell? ⟨g, 0, none⟩ = some (.slice A n c)) := fun W g h => by rw [hPP] at h; exact h.cell 0
  have L1 : Hid (∀ W g, Blk W g 38 PP → W.cell? ⟨g, 1, none⟩ = some (.bool p.has)) := fun W g h => by rw [hPP] at h; exact h.cell 1
  rw [← hPP] at hx
  subst hx
  obtain ⟨w1, hw1⟩ : ∃ w1, w1 = (((w.alloc (.cells (r0.map cellOf).toArray 30)).alloc (.cells (k.map cellOf).toArray 30)).alloc (.cells PP.toArray 38)).alloc (.cells (List.replicate 32 (Value.int .u8 0)).toArray 30) := ⟨_, rfl⟩
  have X1 : Hid (Below w.heap.size w w1) := by unfold Hid; rw [hw1]; exact (((((Below.refl _ _).alloc (Nat.le_refl _) _).alloc (by simp; try omega) _).alloc (by simp; try omega) _).alloc (by simp; try omega) _)
  have BRT : Hid (Blk w1 w.heap.size 30 (r0.map cellOf)) := by unfold Hid; rw [hw1]; exact ((((Blk.new w 30 _).alloc _).alloc _).alloc _)
  have BLB : Hid (Blk w1 (w.heap.size + 1) 30 (k.map cellOf)) := by unfold Hid; rw [hw1]; exact (((Blk.at_new _ _ 30 _ _ rfl (by simp)).alloc _).alloc _)
  have BPR : Hid (Blk w1 (w.heap.size + 1 + 1) 38 PP) := by unfold Hid; rw [hw1]; exact ((Blk.at_new _ _ 38 _ _ rfl (by simp)).alloc _)
  have BRS : Hid (Blk w1 (w.heap.size + 1 + 1 + 1) 30 (List.replicate 32 (Value.int .u8 0))) := by unfold Hid; rw [hw1]; exact (Blk.at_new _ _ 30 _ _ rfl (by simp))
  obtain ⟨Z, hZ⟩ : ∃ Z, Z = List.replicate 32 (Value.int .u8 0) := ⟨_, rfl⟩
  have HZM : Hid (Tm.none32.map cellOf = Z) := by unfold Hid; rw [hZ]; rfl
  have HZL : Hid (Z.length = 32) := by unfold Hid; rw [hZ]; rfl
  rw [← hZ] at IZ OZ BZ0 BRS LM0
  have HTD : Hid (p.told r0 k = if p.holds r0 k && (p.has && decide (p.lab = k)) then p.sum else Tm.none32) := rfl
  have HTH : Hid (p.there k = (p.has && decide (p.lab = k))) := rfl
  unfold ChkR
  unfold hv at CH ⊢
  obtain ⟨RC, hRC⟩ : ∃ L, L = r0.map cellOf := ⟨_, rfl⟩
  obtain ⟨KC, hKC⟩ : ∃ L, L = k.map cellOf := ⟨_, rfl⟩
  obtain ⟨AC, hAC⟩ : ∃ L, L = p.lab.map cellOf := ⟨_, rfl⟩
  obtain ⟨MC, hMC⟩ : ∃ L, L = p.sum.map cellOf := ⟨_, rfl⟩
  rw [← hRC] at CH IR BRT hw1 ⊢
  rw [← hKC] at CH EK IK BLB hw1 ⊢
  rw [← hAC] at EK IA LA
  rw [← hMC] at IM LM OM LM0
  have EMC := Lib.hid hMC
  obtain ⟨hold, hhold⟩ : ∃ b, b = p.holds r0 k := ⟨_, rfl⟩
  rw [← hhold] at CH HTD ⊢
  obtain ⟨told, htold⟩ : ∃ b, b = p.told r0 k := ⟨_, rfl⟩
  rw [← htold] at HTD ⊢
  obtain ⟨there, hthere⟩ : ∃ b, b = p.there k := ⟨_, rfl⟩
  rw [← hthere] at HTH ⊢
  obtain ⟨has, hhas⟩ : ∃ b, b = p.has := ⟨_, rfl⟩
  rw [← hhas] at L1 HTD HTH
  clear hRC hKC hAC hMC hhold htold hthere hhas hp hr hPP hln HLN HR HE hk hr0 hg
  go_enter Tryd.func29, Tryd.ntmps29
  go_upto_region 1 with (fail)
  change Code.wp _ _ _ _ ((((w.alloc (.cells RC.toArray 30)).alloc (.cells KC.toArray 30)).alloc (.cells PP.toArray 38)).alloc (.cells (List.replicate 32 (Value.int .u8 0)).toArray 30))
  rw [← hw1]
  clear hZ hw1
  have hle : w.heap.size ≤ w.heap.size + 1 + 1 + 1 := by omega
  have hb1 := BRS.out.lt
  go_upto_if 13 with (first
    | (with_reducible refine load_law rfl 30 (.tmp 3) rfl w.heap.size 0 rfl RC _ Tryd.underlying30 rfl IR.out BRT.out.cells ?_)
    | (with_reducible refine load_law rfl 30 (.tmp 4) rfl (w.heap.size + 1) 0 rfl KC _ Tryd.underlying30 rfl IK.out BLB.out.cells ?_)
    | (with_reducible refine load_law rfl 38 (.tmp 5) rfl (w.heap.size + 1 + 1) 0 rfl PP _ Tryd.underlying38 rfl IP.out BPR.out.cells ?_)
    | (go_at_call 46; refine (CH.out w1 X1.out).mono ?_; rintro e w2 ⟨rfl, hX⟩; have X2 := Lib.hid hX; clear hX))
  have h1s := X1.out.size
  replace BLB := Lib.hid (BLB.out.below X2.out BLB.out.lt)
  replace BPR := Lib.hid (BPR.out.below X2.out BPR.out.lt)
  replace BRS := Lib.hid (BRS.out.below X2.out BRS.out.lt)
  replace X1 := Lib.hid (X1.out.trans (X2.out.mono h1s))
  clear BRT X2 CH
  have p1 := L1.out _ _ BPR.out
  have LA1 := Lib.hid (LA.out _ _ BPR.out)
  have LM1 := Lib.hid (LM.out _ _ BPR.out)
  cases hold with
  | false =>
    have ETD : Hid (told = Tm.none32) := by unfold Hid; rw [HTD.out]; rfl
    go_wp2_with (first
      | (with_reducible refine build_law rfl 30 #[] rfl Z (by simp only [List.map_toArray, List.map_nil]; exact BZ0.out) ?_)
      | ((with_reducible refine storeGen_law rfl 30 (.tmp 6) (.tmp 14) rfl (w.heap.size + 1 + 1 + 1) rfl Z rfl 30 Z IZ.out rfl OZ.out w.heap.size w BRS.out X1.out hle ?_); intro w9 B9 W9))
    exact bodyPost_ret (results_row_tmp2 rfl _ _ (w.heap.size + 1 + 1 + 1) 30 Z.toArray (0, 0) _ _ _ rfl rfl rfl B9.out Tryd.underlying30 rfl (by rw [IZ.out]; simp)) rfl ⟨by rw [ETD.out, ← HZM.out]; rfl, W9.out⟩
  | true =>
    cases has with
    | false =>
      have ETH : Hid (there = false) := HTH.out
      have ETD : Hid (told = Tm.none32) := by unfold Hid; rw [HTD.out]; rfl
      go_upto_region 4 with (fail)
      go_wp2_with (first
        | (with_reducible refine build_law rfl 30 #[] rfl Z (by simp only [List.map_toArray, List.map_nil]; exact BZ0.out) ?_)
        | ((with_reducible refine storeGen_law rfl 30 (.tmp 6) (.tmp 24) rfl (w.heap.size + 1 + 1 + 1) rfl Z rfl 30 Z IZ.out rfl OZ.out w.heap.size w BRS.out X1.out hle ?_); intro w9 B9 W9))
      exact bodyPost_ret (results_row_tmp2 rfl _ _ (w.heap.size + 1 + 1 + 1) 30 Z.toArray (0, 0) _ _ _ rfl rfl rfl B9.out Tryd.underlying30 rfl (by rw [IZ.out]; simp)) rfl ⟨by rw [ETD.out, ETH.out, ← HZM.out]; rfl, W9.out⟩
    | true =>
      by_cases hlk : p.lab = k
      · have ek := EK.out
        rw [decide_eq_true hlk] at ek
        have ETH : Hid (there = true) := by unfold Hid; rw [HTH.out, decide_eq_true hlk]; rfl
        have ETD : Hid (told = p.sum) := by unfold Hid; rw [HTD.out, decide_eq_true hlk]; rfl
        clear EK hlk HTH HTD
        go_wp2_with (first
          | (with_reducible refine load_when (by kernel_rfl) 30 (.tmp 19) rfl (w.heap.size + 1 + 1) 2 rfl AC _ Tryd.underlying30 rfl IA.out LA1.out ?_)
          | (with_reducible refine load_when (by kernel_rfl) 30 (.tmp 4) rfl (w.heap.size + 1) 0 rfl KC _ Tryd.underlying30 rfl IK.out BLB.out.cells ?_)
          | (with_reducible refine load_law rfl 30 (.tmp 25) rfl (w.heap.size + 1 + 1) 34 rfl MC _ Tryd.underlying30 rfl IM.out LM1.out ?_)
          | ((with_reducible refine storeGen_law rfl 30 (.tmp 6) (.tmp 26) rfl (w.heap.size + 1 + 1 + 1) rfl MC rfl 30 Z IM.out LM0.out OM.out w.heap.size w BRS.out X1.out hle ?_); intro w9 B9 W9))
        exact bodyPost_ret (results_row_tmp2 rfl _ _ (w.heap.size + 1 + 1 + 1) 30 MC.toArray (0, 0) _ _ _ rfl rfl rfl B9.out Tryd.underlying30 rfl (by rw [IM.out]; simp)) rfl ⟨by rw [ETD.out, ETH.out, EMC.out]; rfl, W9.out⟩
      · have ek := EK.out
        rw [decide_eq_false hlk] at ek
        have ETH : Hid (there = false) := by unfold Hid; rw [HTH.out, decide_eq_false hlk]; rfl
        have ETD : Hid (told = Tm.none32) := by unfold Hid; rw [HTD.out, decide_eq_false hlk]; rfl
        clear EK hlk HTH HTD
        go_upto_region 4 with (first
          | (with_reducible refine load_when (by kernel_rfl) 30 (.tmp 19) rfl (w.heap.size + 1 + 1) 2 rfl AC _ Tryd.underlying30 rfl IA.out LA1.out ?_)
          | (with_reducible refine load_when (by kernel_rfl) 30 (.tmp 4) rfl (w.heap.size + 1) 0 rfl KC _ Tryd.underlying30 rfl IK.out BLB.out.cells ?_))
        go_wp2_with (first
          | (with_reducible refine build_law rfl 30 #[] rfl Z (by simp only [List.map_toArray, List.map_nil]; exact BZ0.out) ?_)
          | ((with_reducible refine storeGen_law rfl 30 (.tmp 6) (.tmp 24) rfl (w.heap.size + 1 + 1 + 1) rfl Z rfl 30 Z IZ.out rfl OZ.out w.heap.size w BRS.out X1.out hle ?_); intro w9 B9 W9))
        exact bodyPost_ret (results_row_tmp2 rfl _ _ (w.heap.size + 1 + 1 + 1) 30 Z.toArray (0, 0) _ _ _ rfl rfl rfl B9.out Tryd.underlying30 rfl (by rw [IZ.out]; simp)) rfl ⟨by rw [ETD.out, ETH.out, ← HZM.out]; rfl, W9.out⟩
end Go.Proofs.YtmidbpjdpakkoaaDoor
