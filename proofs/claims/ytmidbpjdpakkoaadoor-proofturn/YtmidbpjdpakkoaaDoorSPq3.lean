import Derived.Test.YtmidbpjdpakkoaaDoorSPq2
import Derived.Test.YtmidbpjdpakkoaaDoorSTck
namespace Go.Proofs.YtmidbpjdpakkoaaDoor
set_option linter.unusedVariables false
set_option linter.unusedSimpArgs false
set_option maxRecDepth 100000
open Go.RowKit
set_option maxRecDepth 100000 in
set_option maxHeartbeats 1000000 in
theorem pend_any {w : World} (hg : Gl w) {x : Value} {p : Tm.Prf} (hp : PrfIn w x p) : Calls Tryd.prog 54 #[x] w fun e w' => e = .returned (hv p.tip) ∧ Below w.heap.size w w' := by
  have htl := Tm.leaf_length p.lab p.sum
  have IE := Lib.hid (hash_info htl)
  have OE := Lib.hid (cells_u8 (Tm.leaf p.lab p.sum))
  have LE : Hid ((List.replicate 32 (Value.int .u8 0)).length = ((Tm.leaf p.lab p.sum).map cellOf).length) := by unfold Hid; rw [List.length_map, htl]; rfl
  have CL : Hid (∀ W, Below w.heap.size w W → Calls Tryd.prog 34 #[hv p.lab, hv p.sum] W fun e w' => e = .returned (hv (Tm.leaf p.lab p.sum)) ∧ Below W.heap.size W w') := fun W h => tleaf_any (hg.below h hg.size) hp.lab hp.sum
  obtain ⟨A, n, c, hx, hr, hn1⟩ := hp.at_
  have hln : p.sides.length = n := by rw [← hr.len]; simp [hashes]
  have HLN := Lib.hid hln
  have HR := Lib.hid hr
  have HE := Lib.hid hp.each
  have IA := Lib.hid (hash_info hp.lab)
  have IM := Lib.hid (hash_info hp.sum)
  have IZ := Lib.hid zero_info
  have OZ := Lib.hid zero_one
  have BZ0 := Lib.hid zero_built
  have HP := Lib.hid hp
  obtain ⟨PP, hPP⟩ : ∃ L, L = proofL (.slice A n c) p.has (p.lab.map cellOf) (p.sum.map cellOf) := ⟨_, rfl⟩
  have IP : Hid ((Tryd.prog.info? 38).map (·.size) = some PP.length) := by unfold Hid; rw [hPP]; exact proofL_info (by simpa using hp.lab) (by simpa using hp.sum)
  have LA : Hid (∀ W g, Blk W g 38 PP → ∀ j y, (p.lab.map cellOf)[j]? = some y → W.cell? ⟨g, 2 + j, none⟩ = some y) := fun W g h => by rw [hPP] at h; exact proof_lab h (by simpa using hp.lab)
  have LM : Hid (∀ W g, Blk W g 38 PP → ∀ j y, (p.sum.map cellOf)[j]? = some y → W.cell? ⟨g, 34 + j, none⟩ = some y) := fun W g h => by rw [hPP] at h; exact proof_sum h (by simpa using hp.lab)
  have L0 : Hid (∀ W g, Blk W g 38 PP → W.cell? ⟨g, 0, none⟩ = some (.slice A n c)) := fun W g h => by rw [hPP] at h; exact h.cell 0
  have L1 : Hid (∀ W g, Blk W g 38 PP → W.cell? ⟨g, 1, none⟩ = some (.bool p.has)) := fun W g h => by rw [hPP] at h; exact h.cell 1
  rw [← hPP] at hx
  subst hx
  obtain ⟨w1, hw1⟩ : ∃ w1, w1 = (w.alloc (.cells PP.toArray 38)).alloc (.cells (List.replicate 32 (Value.int .u8 0)).toArray 30) := ⟨_, rfl⟩
  have X1 : Hid (Below w.heap.size w w1) := by unfold Hid; rw [hw1]; exact (((Below.refl _ _).alloc (Nat.le_refl _) _).alloc (by simp; try omega) _)
  have BPR : Hid (Blk w1 w.heap.size 38 PP) := by unfold Hid; rw [hw1]; exact ((Blk.new w 38 _).alloc _)
  have BRS : Hid (Blk w1 (w.heap.size + 1) 30 (List.replicate 32 (Value.int .u8 0))) := by unfold Hid; rw [hw1]; exact (Blk.at_new _ _ 30 _ _ rfl (by simp))
  obtain ⟨Z, hZ⟩ : ∃ Z, Z = List.replicate 32 (Value.int .u8 0) := ⟨_, rfl⟩
  have HZM : Hid (Tm.none32.map cellOf = Z) := by unfold Hid; rw [hZ]; rfl
  have HZL : Hid (Z.length = 32) := by unfold Hid; rw [hZ]; rfl
  rw [← hZ] at IZ OZ BZ0 BRS LE
  have HT : Hid (p.tip = if p.has then Tm.leaf p.lab p.sum else Tm.none32) := rfl
  unfold hv at CL ⊢
  obtain ⟨AC, hAC⟩ : ∃ L, L = p.lab.map cellOf := ⟨_, rfl⟩
  obtain ⟨MC, hMC⟩ : ∃ L, L = p.sum.map cellOf := ⟨_, rfl⟩
  obtain ⟨EC, hEC⟩ : ∃ L, L = (Tm.leaf p.lab p.sum).map cellOf := ⟨_, rfl⟩
  rw [← hAC] at CL IA LA
  rw [← hMC] at CL IM LM
  rw [← hEC] at CL IE OE LE
  have EEC := Lib.hid hEC
  have LA1 := Lib.hid (LA.out _ _ BPR.out)
  have LM1 := Lib.hid (LM.out _ _ BPR.out)
  have p1 := L1.out _ _ BPR.out
  have hle : w.heap.size ≤ w.heap.size + 1 := by omega
  obtain ⟨has, hhas⟩ : ∃ b, b = p.has := ⟨_, rfl⟩
  rw [← hhas] at p1 HT
  clear hAC hMC hEC hhas hp hr hg hPP htl LA LM L0 L1 hln HLN HR HE
  go_enter Tryd.func54, Tryd.ntmps54
  go_upto_region 1 with (fail)
  change Code.wp _ _ _ _ ((w.alloc (.cells PP.toArray 38)).alloc (.cells (List.replicate 32 (Value.int .u8 0)).toArray 30))
  rw [← hw1]
  clear hZ hw1
  cases has with
  | false =>
    go_wp2_with (first
      | (with_reducible refine build_law rfl 30 #[] rfl Z (by simp only [List.map_toArray, List.map_nil]; exact BZ0.out) ?_)
      | ((with_reducible refine storeGen_law rfl 30 (.tmp 2) (.tmp 6) rfl (w.heap.size + 1) rfl Z rfl 30 Z IZ.out rfl OZ.out w.heap.size w BRS.out X1.out hle ?_); intro w9 B9 W9))
    exact bodyPost_ret (results_cell_row rfl _ _ (w.heap.size + 1) 30 Z.toArray (0, 0) _ rfl B9.out Tryd.underlying30 rfl (by rw [IZ.out]; simp)) rfl ⟨by rw [HT.out, ← HZM.out]; rfl, W9.out⟩
  | true =>
    have hb1 := BRS.out.lt
    go_wp2_with (first
      | (with_reducible refine load_law rfl 30 (.tmp 7) rfl w.heap.size 2 rfl AC _ Tryd.underlying30 rfl IA.out LA1.out ?_)
      | (with_reducible refine load_law rfl 30 (.tmp 9) rfl w.heap.size 34 rfl MC _ Tryd.underlying30 rfl IM.out LM1.out ?_)
      | (go_at_call 34; refine (CL.out w1 X1.out).mono ?_; rintro e w3 ⟨rfl, hX⟩; have X3 := Lib.hid hX; clear hX; have BRS3 := Lib.hid (BRS.out.below X3.out hb1); have W3 := Lib.hid (X1.out.trans (X3.out.mono X1.out.size)))
      | ((with_reducible refine storeGen_law rfl 30 (.tmp 2) (.tmp 11) rfl (w.heap.size + 1) rfl EC rfl 30 Z IE.out LE.out OE.out w.heap.size w BRS3.out W3.out hle ?_); intro w9 B9 W9))
    exact bodyPost_ret (results_cell_row rfl _ _ (w.heap.size + 1) 30 EC.toArray (0, 0) _ rfl B9.out Tryd.underlying30 rfl (by rw [IE.out]; simp)) rfl ⟨by rw [HT.out, EEC.out]; rfl, W9.out⟩
def may (p : Tm.Prf) (k : List UInt8) : Bool := if p.has then decide (p.sides.length ≤ Tm.part p.lab k) else decide (p.lab = Tm.none32) && decide (p.sum = Tm.none32)
theorem good_may (p : Tm.Prf) (k : List UInt8) : p.good k = (decide (p.sides.length ≤ 256) && may p k) := by
  unfold Tm.Prf.good may
  by_cases h : p.sides.length ≤ 256
  · rw [decide_eq_true h, Tm.part_shares h]
  · rw [decide_eq_false h, Bool.false_and, Bool.false_and]
set_option maxRecDepth 100000 in
set_option maxHeartbeats 1000000 in
theorem pmay_any {w : World} {x : Value} {p : Tm.Prf} (hp : PrfIn w x p) {k : List UInt8} (hk : k.length = 32) : Calls Tryd.prog 53 #[hv k, x] w fun e w' => e = .returned (.bool (may p k)) ∧ Below w.heap.size w w' := by
  have hzl : Tm.none32.length = 32 := rfl
  have EA := Lib.hid (hash_eq p.lab Tm.none32 hp.lab hzl)
  have ES := Lib.hid (hash_eq p.sum Tm.none32 hp.sum hzl)
  have IK := Lib.hid (hash_info hk)
  have CS : Hid (∀ W, Calls Tryd.prog 56 #[hv p.lab, hv k] W fun e w' => e = .returned (.int .i64 (Tm.part p.lab k : Int)) ∧ Below W.heap.size W w') := fun W => shared_any hp.lab hk W
  obtain ⟨A, n, c, hx, hr, hn1⟩ := hp.at_
  have hln : p.sides.length = n := by rw [← hr.len]; simp [hashes]
  have HLN := Lib.hid hln
  have HR := Lib.hid hr
  have HE := Lib.hid hp.each
  have IA := Lib.hid (hash_info hp.lab)
  have IM := Lib.hid (hash_info hp.sum)
  have IZ := Lib.hid zero_info
  have OZ := Lib.hid zero_one
  have BZ0 := Lib.hid zero_built
  have HP := Lib.hid hp
  obtain ⟨PP, hPP⟩ : ∃ L, L = proofL (.slice A n c) p.has (p.lab.map cellOf) (p.sum.map cellOf) := ⟨_, rfl⟩
  have IP : Hid ((Tryd.prog.info? 38).map (·.size) = some PP.length) := by unfold Hid; rw [hPP]; exact proofL_info (by simpa using hp.lab) (by simpa using hp.sum)
  have LA : Hid (∀ W g, Blk W g 38 PP → ∀ j y, (p.lab.map cellOf)[j]? = some y → W.cell? ⟨g, 2 + j, none⟩ = some y) := fun W g h => by rw [hPP] at h; exact proof_lab h (by simpa using hp.lab)
  have LM : Hid (∀ W g, Blk W g 38 PP → ∀ j y, (p.sum.map cellOf)[j]? = some y → W.cell? ⟨g, 34 + j, none⟩ = some y) := fun W g h => by rw [hPP] at h; exact proof_sum h (by simpa using hp.lab)
  have L0 : Hid (∀ W g, Blk W g 38 PP → W.cell? ⟨g, 0, none⟩ = some (.slice A n c)) := fun W g h => by rw [hPP] at h; exact h.cell 0
  have L1 : Hid (∀ W g, Blk W g 38 PP → W.cell? ⟨g, 1, none⟩ = some (.bool p.has)) := fun W g h => by rw [hPP] at h; exact h.cell 1
  rw [← hPP] at hx
  subst hx
  obtain ⟨w1, hw1⟩ : ∃ w1, w1 = (w.alloc (.cells (k.map cellOf).toArray 30)).alloc (.cells PP.toArray 38) := ⟨_, rfl⟩
  have X1 : Hid (Below w.heap.size w w1) := by unfold Hid; rw [hw1]; exact (((Below.refl _ _).alloc (Nat.le_refl _) _).alloc (by simp; try omega) _)
  have BLB : Hid (Blk w1 w.heap.size 30 (k.map cellOf)) := by unfold Hid; rw [hw1]; exact ((Blk.new w 30 _).alloc _)
  have BPR : Hid (Blk w1 (w.heap.size + 1) 38 PP) := by unfold Hid; rw [hw1]; exact (Blk.at_new _ _ 38 _ _ rfl (by simp))
  obtain ⟨Z, hZ⟩ : ∃ Z, Z = List.replicate 32 (Value.int .u8 0) := ⟨_, rfl⟩
  have HZM : Hid (Tm.none32.map cellOf = Z) := by unfold Hid; rw [hZ]; rfl
  have HZL : Hid (Z.length = 32) := by unfold Hid; rw [hZ]; rfl
  rw [show Tm.none32.map cellOf = (List.replicate 32 (Value.int .u8 0)) from rfl] at EA ES
  rw [← hZ] at IZ OZ BZ0 EA ES
  have HT : Hid (may p k = if p.has then decide (n ≤ Tm.part p.lab k) else decide (p.lab = Tm.none32) && decide (p.sum = Tm.none32)) := by rw [← hln]; rfl
  have hpl := Tm.part_le p.lab k
  unfold hv at CS ⊢
  obtain ⟨KC, hKC⟩ : ∃ L, L = k.map cellOf := ⟨_, rfl⟩
  obtain ⟨AC, hAC⟩ : ∃ L, L = p.lab.map cellOf := ⟨_, rfl⟩
  obtain ⟨MC, hMC⟩ : ∃ L, L = p.sum.map cellOf := ⟨_, rfl⟩
  rw [← hKC] at CS IK BLB hw1 ⊢
  rw [← hAC] at CS IA LA EA
  rw [← hMC] at IM LM ES
  have LA1 := Lib.hid (LA.out _ _ BPR.out)
  have LM1 := Lib.hid (LM.out _ _ BPR.out)
  have p1 := L1.out _ _ BPR.out
  obtain ⟨has, hhas⟩ : ∃ b, b = p.has := ⟨_, rfl⟩
  rw [← hhas] at p1 HT
  obtain ⟨m, hm⟩ : ∃ m, m = Tm.part p.lab k := ⟨_, rfl⟩
  rw [← hm] at CS HT hpl
  obtain ⟨res, hres⟩ : ∃ b, b = may p k := ⟨_, rfl⟩
  rw [← hres] at HT ⊢
  clear hKC hAC hMC hhas hp hr hPP hln HLN HR HE hm hres hk
  go_enter Tryd.func53, Tryd.ntmps53
  go_upto_region 1 with (fail)
  change Code.wp _ _ _ _ ((w.alloc (.cells KC.toArray 30)).alloc (.cells PP.toArray 38))
  rw [← hw1]
  clear hZ hw1
  cases has with
  | false =>
    have HT' : Hid (res = (decide (p.lab = Tm.none32) && decide (p.sum = Tm.none32))) := HT.out
    by_cases h1 : p.lab = Tm.none32
    · have ea := EA.out
      rw [decide_eq_true h1] at ea
      have D1 : Hid (decide (p.lab = Tm.none32) = true) := decide_eq_true h1
      by_cases h2 : p.sum = Tm.none32
      · have es := ES.out
        rw [decide_eq_true h2] at es
        have D2 : Hid (decide (p.sum = Tm.none32) = true) := decide_eq_true h2
        clear h1 h2 EA ES
        go_wp2_with (first
          | (with_reducible refine load_law rfl 30 (.tmp 8) rfl (w.heap.size + 1) 2 rfl AC _ Tryd.underlying30 rfl IA.out LA1.out ?_)
          | (with_reducible refine load_when (by kernel_rfl) 30 (.tmp 13) rfl (w.heap.size + 1) 34 rfl MC _ Tryd.underlying30 rfl IM.out LM1.out ?_)
          | (with_reducible refine build_law rfl 30 #[] rfl Z (by simp only [List.map_toArray, List.map_nil]; exact BZ0.out) ?_)
          | (with_reducible refine build_when (by kernel_rfl) 30 #[] rfl Z (by simp only [List.map_toArray, List.map_nil]; exact BZ0.out) ?_))
        go_ret
        exact ⟨by rw [HT'.out, D1.out, D2.out]; rfl, X1.out⟩
      · have es := ES.out
        rw [decide_eq_false h2] at es
        have D2 : Hid (decide (p.sum = Tm.none32) = false) := decide_eq_false h2
        clear h1 h2 EA ES
        go_wp2_with (first
          | (with_reducible refine load_law rfl 30 (.tmp 8) rfl (w.heap.size + 1) 2 rfl AC _ Tryd.underlying30 rfl IA.out LA1.out ?_)
          | (with_reducible refine load_when (by kernel_rfl) 30 (.tmp 13) rfl (w.heap.size + 1) 34 rfl MC _ Tryd.underlying30 rfl IM.out LM1.out ?_)
          | (with_reducible refine build_law rfl 30 #[] rfl Z (by simp only [List.map_toArray, List.map_nil]; exact BZ0.out) ?_)
          | (with_reducible refine build_when (by kernel_rfl) 30 #[] rfl Z (by simp only [List.map_toArray, List.map_nil]; exact BZ0.out) ?_))
        go_ret
        exact ⟨by rw [HT'.out, D1.out, D2.out]; rfl, X1.out⟩
    · have ea := EA.out
      rw [decide_eq_false h1] at ea
      have D1 : Hid (decide (p.lab = Tm.none32) = false) := decide_eq_false h1
      clear h1 EA ES
      go_wp2_with (first
          | (with_reducible refine load_law rfl 30 (.tmp 8) rfl (w.heap.size + 1) 2 rfl AC _ Tryd.underlying30 rfl IA.out LA1.out ?_)
          | (with_reducible refine load_when (by kernel_rfl) 30 (.tmp 13) rfl (w.heap.size + 1) 34 rfl MC _ Tryd.underlying30 rfl IM.out LM1.out ?_)
          | (with_reducible refine build_law rfl 30 #[] rfl Z (by simp only [List.map_toArray, List.map_nil]; exact BZ0.out) ?_)
          | (with_reducible refine build_when (by kernel_rfl) 30 #[] rfl Z (by simp only [List.map_toArray, List.map_nil]; exact BZ0.out) ?_))
      go_ret
      exact ⟨by rw [HT'.out, D1.out]; rfl, X1.out⟩
  | true =>
    have HT' : Hid (res = decide (n ≤ m)) := HT.out
    clear HT
    go_upto_region 3 with (fail)
    clear p1
    replace BLB := Lib.hid BLB.out.drew
    replace BPR := Lib.hid BPR.out.drew
    replace X1 := Lib.hid X1.out.drew
    refine wp_region_any (by kernel_rfl) ?_
    change wpAny _ _ _ _ _ _ _ (World.drew _)
    generalize w1.drew = wd at *
    refine wpAny_take (i := 0) (oi := ?oi1) (v := .pointer (some ⟨w.heap.size + 1, 2, none⟩)) ?hi1 (by kernel_rfl) (by kernel_rfl) (by kernel_rfl) ?hQ1 ?hy1 ?rest1
    case hi1 => simp only [zge]; rfl
    case hQ1 => exact fun _ _ _ h => h
    case hy1 => exact Or.inl ⟨by rfl, by intro w; go_simp⟩
    try simp only [zpt]
    refine wpAny_take (i := 4) (oi := ?oi2) (v := .pointer (some ⟨w.heap.size + 1, 0, none⟩)) ?hi2 (by kernel_rfl) (by kernel_rfl) (by kernel_rfl) ?hQ2 ?hy2 ?rest2
    case hi2 => simp only [zge]; rfl
    case hQ2 => exact fun _ _ _ h => h
    case hy2 => exact Or.inl ⟨by rfl, by intro w; go_simp⟩
    try simp only [zpt]
    refine phaseL (fun i => if i = 3 then [1, 2] else if i = 6 then [5] else if i = 7 then [3, 6] else []) (fun d a w' => ∃ x19 x20 x21 x23 x24 x25 : Value, a = { tmps := #[.agg KC.toArray, .agg PP.toArray, .pointer (some ⟨w.heap.size, 0, none⟩), .pointer (some ⟨w.heap.size + 1, 0, none⟩), .bool false, .pointer (some ⟨w.heap.size + 1, 1, none⟩), .bool true, .bool false, undef, undef, undef, undef, undef, undef, undef, undef, undef, undef, .pointer (some ⟨w.heap.size + 1, 2, none⟩), x19, x20, x21, .pointer (some ⟨w.heap.size + 1, 0, none⟩), x23, x24, x25], defers := [] } ∧ Hid (Below wd.heap.size wd w') ∧ (d 1 = true → x19 = .agg AC.toArray) ∧ (d 2 = true → x20 = .agg KC.toArray) ∧ (d 3 = true → x21 = .int .i64 (m : Int)) ∧ (d 5 = true → x23 = .slice A n c) ∧ (d 6 = true → x24 = .int .i64 (n : Int)) ∧ (d 7 = true → x25 = .bool (decide (n ≤ m)))) [1, 2, 3, 5, 6, 7] ?step3 1 6 [1, 2, 3, 5, 6, 7] _ _ _ rfl (by decide) (fun _ h => h) (Fits.of (by kernel_rfl)) ?init3 ?fin3
    case init3 => refine ⟨_, _, _, _, _, _, rfl, Below.refl _ _, ?_, ?_, ?_, ?_, ?_, ?_⟩ <;> (intro h; exact absurd h (by decide))
    case step3 =>
      intro i hi d a v3 hI hdi hdeps
      obtain ⟨x19, x20, x21, x23, x24, x25, rfl, BW, h1, h2, h3, h5, h6, h7⟩ := hI
      have hsw := BW.out.size
      simp only [List.mem_cons, List.not_mem_nil, or_false] at hi
      rcases hi with rfl | rfl | rfl | rfl | rfl | rfl
      · refine wpOp_step (o := ?os4) ?hos4 (fun K hK => ?_)
        case hos4 => simp only [zge]; rfl
        refine step_loadW rfl 30 (.tmp 18) rfl (w.heap.size + 1) 2 rfl AC _ Tryd.underlying30 rfl IA.out (LA.out _ _ (BPR.out.below BW.out BPR.out.lt)) (hK _ _ ?_)
        clear hK K
        try simp only [zpt]
        exact ⟨_, _, _, _, _, _, rfl, BW, fun _ => rfl, fun a => by first | exact h2 (by simpa using a) | rfl, fun a => by first | exact h3 (by simpa using a) | rfl, fun a => by first | exact h5 (by simpa using a) | rfl, fun a => by first | exact h6 (by simpa using a) | rfl, fun a => by first | exact h7 (by simpa using a) | rfl⟩
      · refine wpOp_step (o := ?os5) ?hos5 (fun K hK => ?_)
        case hos5 => simp only [zge]; rfl
        refine step_loadW rfl 30 (.tmp 2) rfl w.heap.size 0 rfl KC _ Tryd.underlying30 rfl IK.out (BLB.out.below BW.out BLB.out.lt).cells (hK _ _ ?_)
        clear hK K
        try simp only [zpt]
        exact ⟨_, _, _, _, _, _, rfl, BW, fun a => by first | exact h1 (by simpa using a) | rfl, fun _ => rfl, fun a => by first | exact h3 (by simpa using a) | rfl, fun a => by first | exact h5 (by simpa using a) | rfl, fun a => by first | exact h6 (by simpa using a) | rfl, fun a => by first | exact h7 (by simpa using a) | rfl⟩
      · obtain rfl := h1 (hdeps 1 (by simp))
        obtain rfl := h2 (hdeps 2 (by simp))
        refine wpOp_step (o := ?os6) ?hos6 (fun K hK => ?_)
        case hos6 => simp only [zge]; rfl
        go_simp
        refine (CS.out v3).mono ?_
        rintro e u3 ⟨rfl, hX⟩
        refine hK _ _ ?_
        clear hK K
        try simp only [zpt]
        exact ⟨_, _, _, _, _, _, rfl, BW.out.trans (hX.mono hsw), fun a => by first | exact h1 (by simpa using a) | rfl, fun a => by first | exact h2 (by simpa using a) | rfl, fun _ => rfl, fun a => by first | exact h5 (by simpa using a) | rfl, fun a => by first | exact h6 (by simpa using a) | rfl, fun a => by first | exact h7 (by simpa using a) | rfl⟩
      · have c0 := L0.out _ _ (BPR.out.below BW.out BPR.out.lt)
        refine wpOp_step (o := ?os7) ?hos7 (fun K hK => ?_)
        case hos7 => simp only [zge]; rfl
        go_simp
        refine hK _ _ ?_
        clear hK K
        try simp only [zpt]
        exact ⟨_, _, _, _, _, _, rfl, BW, fun a => by first | exact h1 (by simpa using a) | rfl, fun a => by first | exact h2 (by simpa using a) | rfl, fun a => by first | exact h3 (by simpa using a) | rfl, fun _ => rfl, fun a => by first | exact h6 (by simpa using a) | rfl, fun a => by first | exact h7 (by simpa using a) | rfl⟩
      · obtain rfl := h5 (hdeps 5 (by simp))
        refine wpOp_step (o := ?os8) ?hos8 (fun K hK => ?_)
        case hos8 => simp only [zge]; rfl
        go_simp
        refine hK _ _ ?_
        clear hK K
        try simp only [zpt]
        exact ⟨_, _, _, _, _, _, rfl, BW, fun a => by first | exact h1 (by simpa using a) | rfl, fun a => by first | exact h2 (by simpa using a) | rfl, fun a => by first | exact h3 (by simpa using a) | rfl, fun a => by first | exact h5 (by simpa using a) | rfl, fun _ => rfl, fun a => by first | exact h7 (by simpa using a) | rfl⟩
      · obtain rfl := h3 (hdeps 3 (by simp))
        obtain rfl := h6 (hdeps 6 (by simp))
        refine wpOp_step (o := ?os9) ?hos9 (fun K hK => ?_)
        case hos9 => simp only [zge]; rfl
        go_simp
        refine hK _ _ ?_
        clear hK K
        try simp only [zpt]
        exact ⟨_, _, _, _, _, _, rfl, BW, fun a => by first | exact h1 (by simpa using a) | rfl, fun a => by first | exact h2 (by simpa using a) | rfl, fun a => by first | exact h3 (by simpa using a) | rfl, fun a => by first | exact h5 (by simpa using a) | rfl, fun a => by first | exact h6 (by simpa using a) | rfl, fun _ => rfl⟩
    case fin3 =>
      intro a v3 hI
      obtain ⟨x19, x20, x21, x23, x24, x25, rfl, BW, h1, h2, h3, h5, h6, h7⟩ := hI
      obtain rfl := h1 (by decide)
      obtain rfl := h2 (by decide)
      obtain rfl := h3 (by decide)
      obtain rfl := h5 (by decide)
      obtain rfl := h6 (by decide)
      obtain rfl := h7 (by decide)
      have W4 := Lib.hid (X1.out.trans (BW.out.mono X1.out.size))
      clear BLB BPR X1 BW
      try dsimp only
      refine wpAny_take (i := 8) (oi := ?oi10) (v := .bool (decide (n ≤ m))) ?hi10 (by kernel_rfl) (by kernel_rfl) (by kernel_rfl) ?hQ10 ?hy10 ?rest10
      case hi10 => simp only [zge]; rfl
      case hQ10 => exact fun _ _ _ h => h
      case hy10 => exact Or.inl ⟨by rfl, by intro w; go_simp⟩
      try simp only [zpt]
      refine wpAny_done (by kernel_rfl) ?_ _
      go_wp2_with fail
      go_ret
      exact ⟨by rw [HT'.out]; rfl, W4.out⟩
set_option maxRecDepth 100000 in
set_option maxHeartbeats 1000000 in
theorem pholds_any {w : World} (hg : Gl w) {x : Value} {p : Tm.Prf} (hp : PrfIn w x p) {r0 k : List UInt8} (hr0 : r0.length = 32) (hk : k.length = 32) : Calls Tryd.prog 46 #[hv r0, hv k, x] w fun e w' => e = .returned (.bool (p.holds r0 k)) ∧ Below w.heap.size w w' := by
  have htl : p.tip.length = 32 := by unfold Tm.Prf.tip; split; exact Tm.leaf_length _ _; rfl
  have hul : (Tm.up p.tip k 0 p.sides).length = 32 := Tm.up_length htl _ _
  have EU := Lib.hid (hash_eq (Tm.up p.tip k 0 p.sides) r0 hul hr0)
  have IR := Lib.hid (hash_info hr0)
  have IK := Lib.hid (hash_info hk)
  have IT := Lib.hid (hash_info htl)
  have CM : Hid (∀ W, Below w.heap.size w W → Calls Tryd.prog 53 #[hv k, x] W fun e w' => e = .returned (.bool (may p k)) ∧ Below W.heap.size W w') := fun W h => pmay_any (hp.below h) hk
  have CE : Hid (∀ W, Below w.heap.size w W → Calls Tryd.prog 54 #[x] W fun e w' => e = .returned (hv p.tip) ∧ Below W.heap.size W w') := fun W h => pend_any (hg.below h hg.size) (hp.below h)
  obtain ⟨A, n, c, hx, hr, hn1⟩ := hp.at_
  have hln : p.sides.length = n := by rw [← hr.len]; simp [hashes]
  have HLN := Lib.hid hln
  have HR := Lib.hid hr
  have HE := Lib.hid hp.each
  have IA := Lib.hid (hash_info hp.lab)
  have IM := Lib.hid (hash_info hp.sum)
  have IZ := Lib.hid zero_info
  have OZ := Lib.hid zero_one
  have BZ0 := Lib.hid zero_built
  have HP := Lib.hid hp
  obtain ⟨PP, hPP⟩ : ∃ L, L = proofL (.slice A n c) p.has (p.lab.map cellOf) (p.sum.map cellOf) := ⟨_, rfl⟩
  have IP : Hid ((Tryd.prog.info? 38).map (·.size) = some PP.length) := by unfold Hid; rw [hPP]; exact proofL_info (by simpa using hp.lab) (by simpa using hp.sum)
  have LA : Hid (∀ W g, Blk W g 38 PP → ∀ j y, (p.lab.map cellOf)[j]? = some y → W.cell? ⟨g, 2 + j, none⟩ = some y) := fun W g h => by rw [hPP] at h; exact proof_lab h (by simpa using hp.lab)
  have LM : Hid (∀ W g, Blk W g 38 PP → ∀ j y, (p.sum.map cellOf)[j]? = some y → W.cell? ⟨g, 34 + j, none⟩ = some y) := fun W g h => by rw [hPP] at h; exact proof_sum h (by simpa using hp.lab)
  have L0 : Hid (∀ W g, Blk W g 38 PP → W.cell? ⟨g, 0, none⟩ = some (.slice A n c)) := fun W g h => by rw [hPP] at h; exact h.cell 0
  have L1 : Hid (∀ W g, Blk W g 38 PP → W.cell? ⟨g, 1, none⟩ = some (.bool p.has)) := fun W g h => by rw [hPP] at h; exact h.cell 1
  rw [← hPP] at hx
  subst hx
  have CC : Hid (n ≤ 256 → ∀ W, Below w.heap.size w W → Calls Tryd.prog 47 #[hv p.tip, hv k, .slice A n c] W fun e w' => e = .returned (hv (Tm.up p.tip k 0 p.sides)) ∧ Below W.heap.size W w') := fun h2 W h => pclimb_any (hg.below h hg.size) (hr.below h) hp.each h2 htl hk
  have HRS : Hid (p.holds r0 k = ((decide (n ≤ 256) && may p k) && decide (Tm.up p.tip k 0 p.sides = r0))) := by unfold Hid; rw [Tm.Prf.holds, good_may, hln]
  obtain ⟨w1, hw1⟩ : ∃ w1, w1 = ((w.alloc (.cells (r0.map cellOf).toArray 30)).alloc (.cells (k.map cellOf).toArray 30)).alloc (.cells PP.toArray 38) := ⟨_, rfl⟩
  have X1 : Hid (Below w.heap.size w w1) := by unfold Hid; rw [hw1]; exact ((((Below.refl _ _).alloc (Nat.le_refl _) _).alloc (by simp; try omega) _).alloc (by simp; try omega) _)
  have BRT : Hid (Blk w1 w.heap.size 30 (r0.map cellOf)) := by unfold Hid; rw [hw1]; exact (((Blk.new w 30 _).alloc _).alloc _)
  have BLB : Hid (Blk w1 (w.heap.size + 1) 30 (k.map cellOf)) := by unfold Hid; rw [hw1]; exact ((Blk.at_new _ _ 30 _ _ rfl (by simp)).alloc _)
  have BPR : Hid (Blk w1 (w.heap.size + 1 + 1) 38 PP) := by unfold Hid; rw [hw1]; exact (Blk.at_new _ _ 38 _ _ rfl (by simp))
  unfold hv at CM CE CC ⊢
  obtain ⟨RC, hRC⟩ : ∃ L, L = r0.map cellOf := ⟨_, rfl⟩
  obtain ⟨KC, hKC⟩ : ∃ L, L = k.map cellOf := ⟨_, rfl⟩
  obtain ⟨TC, hTC⟩ : ∃ L, L = p.tip.map cellOf := ⟨_, rfl⟩
  obtain ⟨UC, hUC⟩ : ∃ L, L = (Tm.up p.tip k 0 p.sides).map cellOf := ⟨_, rfl⟩
  rw [← hRC] at IR BRT hw1 EU ⊢
  rw [← hKC] at CM CC IK BLB hw1 ⊢
  rw [← hTC] at CE CC IT
  rw [← hUC] at CC EU
  have p0 := L0.out _ _ BPR.out
  obtain ⟨mb, hmb⟩ : ∃ b, b = may p k := ⟨_, rfl⟩
  rw [← hmb] at CM HRS
  obtain ⟨ub, hub⟩ : ∃ b, b = decide (Tm.up p.tip k 0 p.sides = r0) := ⟨_, rfl⟩
  rw [← hub] at EU HRS
  obtain ⟨res, hres⟩ : ∃ b, b = p.holds r0 k := ⟨_, rfl⟩
  rw [← hres] at HRS ⊢
  clear hRC hKC hTC hUC hmb hub hres hp hr hPP hln HLN HR HE hk hr0 htl hul hg
  go_enter Tryd.func46, Tryd.ntmps46
  go_upto_region 1 with (fail)
  change Code.wp _ _ _ _ (((w.alloc (.cells RC.toArray 30)).alloc (.cells KC.toArray 30)).alloc (.cells PP.toArray 38))
  rw [← hw1]
  clear hw1
  by_cases h256 : n ≤ 256
  case neg =>
    have D1 : Hid (decide (n ≤ 256) = false) := decide_eq_false h256
    have d1 : decide ((256 : Int) < (n : Int)) = true := decide_eq_true (by omega)
    go_wp2_with fail
    go_ret
    exact ⟨by rw [HRS.out, D1.out]; rfl, X1.out⟩
  have D1 : Hid (decide (n ≤ 256) = true) := decide_eq_true h256
  have d1 : decide ((256 : Int) < (n : Int)) = false := decide_eq_false (by omega)
  have CC := Lib.hid (CC.out h256)
  have hb2 := BPR.out.lt
  cases mb with
  | false =>
    go_wp2_with (first
      | (with_reducible refine load_when (by kernel_rfl) 30 (.tmp 4) rfl (w.heap.size + 1) 0 rfl KC _ Tryd.underlying30 rfl IK.out BLB.out.cells ?_)
      | (with_reducible refine load_when (by kernel_rfl) 38 (.tmp 5) rfl (w.heap.size + 1 + 1) 0 rfl PP _ Tryd.underlying38 rfl IP.out BPR.out.cells ?_)
      | (go_at_call 53; refine (CM.out w1 X1.out).mono ?_; rintro e w3 ⟨rfl, hX⟩; have X3 := Lib.hid hX; clear hX))
    go_ret
    exact ⟨by rw [HRS.out, D1.out]; rfl, X1.out.trans (X3.out.mono X1.out.size)⟩
  | true =>
    go_upto_region 3 with (first
      | (with_reducible refine load_when (by kernel_rfl) 30 (.tmp 4) rfl (w.heap.size + 1) 0 rfl KC _ Tryd.underlying30 rfl IK.out BLB.out.cells ?_)
      | (with_reducible refine load_when (by kernel_rfl) 38 (.tmp 5) rfl (w.heap.size + 1 + 1) 0 rfl PP _ Tryd.underlying38 rfl IP.out BPR.out.cells ?_)
      | (go_at_call 53; refine (CM.out w1 X1.out).mono ?_; rintro e w3 ⟨rfl, hX⟩; have X3 := Lib.hid hX; clear hX))
    clear p0 d1
    have h3s := X3.out.size
    replace BRT := Lib.hid (BRT.out.below X3.out BRT.out.lt).drew
    replace BLB := Lib.hid (BLB.out.below X3.out BLB.out.lt).drew
    replace BPR := Lib.hid (BPR.out.below X3.out BPR.out.lt).drew
    replace X1 : Hid (Below w.heap.size w w3.drew) := (X1.out.trans (X3.out.mono X1.out.size)).drew
    refine wp_region_any (by kernel_rfl) ?_
    change wpAny _ _ _ _ _ _ _ (World.drew _)
    generalize w3.drew = wd at *
    refine wpAny_take (i := 3) (oi := ?oi11) (v := .pointer (some ⟨w.heap.size + 1 + 1, 0, none⟩)) ?hi11 (by kernel_rfl) (by kernel_rfl) (by kernel_rfl) ?hQ11 ?hy11 ?rest11
    case hi11 => simp only [zge]; rfl
    case hQ11 => exact fun _ _ _ h => h
    case hy11 => exact Or.inl ⟨by rfl, by intro w; go_simp⟩
    try simp only [zpt]
    refine phaseL (fun i => if i = 1 then [0] else if i = 5 then [1, 2, 4] else if i = 7 then [5, 6] else []) (fun d a w' => ∃ x17 x18 x19 x21 x22 x23 x24 : Value, a = { tmps := #[.agg RC.toArray, .agg KC.toArray, .agg PP.toArray, .pointer (some ⟨w.heap.size, 0, none⟩), .pointer (some ⟨w.heap.size + 1, 0, none⟩), .pointer (some ⟨w.heap.size + 1 + 1, 0, none⟩), .bool false, .pointer (some ⟨w.heap.size + 1 + 1, 0, none⟩), .slice A n c, .int .i64 (n : Int), .bool false, .bool false, .agg KC.toArray, .agg PP.toArray, .bool true, .bool false, .bool false, x17, x18, x19, .pointer (some ⟨w.heap.size + 1 + 1, 0, none⟩), x21, x22, x23, x24], defers := [] } ∧ Hid (Below wd.heap.size wd w') ∧ (d 0 = true → x17 = .agg PP.toArray) ∧ (d 1 = true → x18 = .agg TC.toArray) ∧ (d 2 = true → x19 = .agg KC.toArray) ∧ (d 4 = true → x21 = .slice A n c) ∧ (d 5 = true → x22 = .agg UC.toArray) ∧ (d 6 = true → x23 = .agg RC.toArray) ∧ (d 7 = true → x24 = .bool ub)) [0, 1, 2, 4, 5, 6, 7] ?step12 1 7 [0, 1, 2, 4, 5, 6, 7] _ _ _ rfl (by decide) (fun _ h => h) (Fits.of (by kernel_rfl)) ?init12 ?fin12
    case init12 => refine ⟨_, _, _, _, _, _, _, rfl, Below.refl _ _, ?_, ?_, ?_, ?_, ?_, ?_, ?_⟩ <;> (intro h; exact absurd h (by decide))
    case step12 =>
      intro i hi d a v12 hI hdi hdeps
      obtain ⟨x17, x18, x19, x21, x22, x23, x24, rfl, BW, h0, h1, h2, h4, h5, h6, h7⟩ := hI
      have hsw := BW.out.size
      simp only [List.mem_cons, List.not_mem_nil, or_false] at hi
      rcases hi with rfl | rfl | rfl | rfl | rfl | rfl | rfl
      · refine wpOp_step (o := ?os13) ?hos13 (fun K hK => ?_)
        case hos13 => simp only [zge]; rfl
        refine step_loadW rfl 38 (.tmp 5) rfl (w.heap.size + 1 + 1) 0 rfl PP _ Tryd.underlying38 rfl IP.out (BPR.out.below BW.out BPR.out.lt).cells (hK _ _ ?_)
        clear hK K
        try simp only [zpt]
        exact ⟨_, _, _, _, _, _, _, rfl, BW, fun _ => rfl, fun a => by first | exact h1 (by simpa using a) | rfl, fun a => by first | exact h2 (by simpa using a) | rfl, fun a => by first | exact h4 (by simpa using a) | rfl, fun a => by first | exact h5 (by simpa using a) | rfl, fun a => by first | exact h6 (by simpa using a) | rfl, fun a => by first | exact h7 (by simpa using a) | rfl⟩
      · obtain rfl := h0 (hdeps 0 (by simp))
        refine wpOp_step (o := ?os14) ?hos14 (fun K hK => ?_)
        case hos14 => simp only [zge]; rfl
        go_simp
        refine (CE.out v12 (X1.out.trans (BW.out.mono X1.out.size))).mono ?_
        rintro e u12 ⟨rfl, hX⟩
        refine hK _ _ ?_
        clear hK K
        try simp only [zpt]
        exact ⟨_, _, _, _, _, _, _, rfl, BW.out.trans (hX.mono hsw), fun a => by first | exact h0 (by simpa using a) | rfl, fun _ => rfl, fun a => by first | exact h2 (by simpa using a) | rfl, fun a => by first | exact h4 (by simpa using a) | rfl, fun a => by first | exact h5 (by simpa using a) | rfl, fun a => by first | exact h6 (by simpa using a) | rfl, fun a => by first | exact h7 (by simpa using a) | rfl⟩
      · refine wpOp_step (o := ?os15) ?hos15 (fun K hK => ?_)
        case hos15 => simp only [zge]; rfl
        refine step_loadW rfl 30 (.tmp 4) rfl (w.heap.size + 1) 0 rfl KC _ Tryd.underlying30 rfl IK.out (BLB.out.below BW.out BLB.out.lt).cells (hK _ _ ?_)
        clear hK K
        try simp only [zpt]
        exact ⟨_, _, _, _, _, _, _, rfl, BW, fun a => by first | exact h0 (by simpa using a) | rfl, fun a => by first | exact h1 (by simpa using a) | rfl, fun _ => rfl, fun a => by first | exact h4 (by simpa using a) | rfl, fun a => by first | exact h5 (by simpa using a) | rfl, fun a => by first | exact h6 (by simpa using a) | rfl, fun a => by first | exact h7 (by simpa using a) | rfl⟩
      · have c0 := L0.out _ _ (BPR.out.below BW.out BPR.out.lt)
        refine wpOp_step (o := ?os16) ?hos16 (fun K hK => ?_)
        case hos16 => simp only [zge]; rfl
        go_simp
        refine hK _ _ ?_
        clear hK K
        try simp only [zpt]
        exact ⟨_, _, _, _, _, _, _, rfl, BW, fun a => by first | exact h0 (by simpa using a) | rfl, fun a => by first | exact h1 (by simpa using a) | rfl, fun a => by first | exact h2 (by simpa using a) | rfl, fun _ => rfl, fun a => by first | exact h5 (by simpa using a) | rfl, fun a => by first | exact h6 (by simpa using a) | rfl, fun a => by first | exact h7 (by simpa using a) | rfl⟩
      · obtain rfl := h1 (hdeps 1 (by simp))
        obtain rfl := h2 (hdeps 2 (by simp))
        obtain rfl := h4 (hdeps 4 (by simp))
        refine wpOp_step (o := ?os17) ?hos17 (fun K hK => ?_)
        case hos17 => simp only [zge]; rfl
        go_simp
        refine (CC.out v12 (X1.out.trans (BW.out.mono X1.out.size))).mono ?_
        rintro e u12 ⟨rfl, hX⟩
        refine hK _ _ ?_
        clear hK K
        try simp only [zpt]
        exact ⟨_, _, _, _, _, _, _, rfl, BW.out.trans (hX.mono hsw), fun a => by first | exact h0 (by simpa using a) | rfl, fun a => by first | exact h1 (by simpa using a) | rfl, fun a => by first | exact h2 (by simpa using a) | rfl, fun a => by first | exact h4 (by simpa using a) | rfl, fun _ => rfl, fun a => by first | exact h6 (by simpa using a) | rfl, fun a => by first | exact h7 (by simpa using a) | rfl⟩
      · refine wpOp_step (o := ?os18) ?hos18 (fun K hK => ?_)
        case hos18 => simp only [zge]; rfl
        refine step_loadW rfl 30 (.tmp 3) rfl w.heap.size 0 rfl RC _ Tryd.underlying30 rfl IR.out (BRT.out.below BW.out BRT.out.lt).cells (hK _ _ ?_)
        clear hK K
        try simp only [zpt]
        exact ⟨_, _, _, _, _, _, _, rfl, BW, fun a => by first | exact h0 (by simpa using a) | rfl, fun a => by first | exact h1 (by simpa using a) | rfl, fun a => by first | exact h2 (by simpa using a) | rfl, fun a => by first | exact h4 (by simpa using a) | rfl, fun a => by first | exact h5 (by simpa using a) | rfl, fun _ => rfl, fun a => by first | exact h7 (by simpa using a) | rfl⟩
      · obtain rfl := h5 (hdeps 5 (by simp))
        obtain rfl := h6 (hdeps 6 (by simp))
        have eu := EU.out
        refine wpOp_step (o := ?os19) ?hos19 (fun K hK => ?_)
        case hos19 => simp only [zge]; rfl
        go_simp
        refine hK _ _ ?_
        clear hK K
        try simp only [zpt]
        exact ⟨_, _, _, _, _, _, _, rfl, BW, fun a => by first | exact h0 (by simpa using a) | rfl, fun a => by first | exact h1 (by simpa using a) | rfl, fun a => by first | exact h2 (by simpa using a) | rfl, fun a => by first | exact h4 (by simpa using a) | rfl, fun a => by first | exact h5 (by simpa using a) | rfl, fun a => by first | exact h6 (by simpa using a) | rfl, fun _ => rfl⟩
    case fin12 =>
      intro a v12 hI
      obtain ⟨x17, x18, x19, x21, x22, x23, x24, rfl, BW, h0, h1, h2, h4, h5, h6, h7⟩ := hI
      obtain rfl := h0 (by decide)
      obtain rfl := h1 (by decide)
      obtain rfl := h2 (by decide)
      obtain rfl := h4 (by decide)
      obtain rfl := h5 (by decide)
      obtain rfl := h6 (by decide)
      obtain rfl := h7 (by decide)
      have W4 := Lib.hid (X1.out.trans (BW.out.mono X1.out.size))
      clear BRT BLB BPR X1 BW
      try dsimp only
      refine wpAny_take (i := 8) (oi := ?oi20) (v := .bool ub) ?hi20 (by kernel_rfl) (by kernel_rfl) (by kernel_rfl) ?hQ20 ?hy20 ?rest20
      case hi20 => simp only [zge]; rfl
      case hQ20 => exact fun _ _ _ h => h
      case hy20 => exact Or.inl ⟨by rfl, by intro w; go_simp⟩
      try simp only [zpt]
      refine wpAny_done (by kernel_rfl) ?_ _
      go_wp2_with fail
      go_ret
      exact ⟨by rw [HRS.out, D1.out]; rfl, W4.out⟩
end Go.Proofs.YtmidbpjdpakkoaaDoor
