import Derived.Test.YtmidbpjdpakkoaaDoorSPq5
namespace Go.Proofs.YtmidbpjdpakkoaaDoor
set_option linter.unusedVariables false
set_option linter.unusedSimpArgs false
set_option maxRecDepth 100000
open Go.RowKit
set_option maxRecDepth 100000 in
set_option maxHeartbeats 1000000 in
theorem pafter_any {w : World} (hg : Gl w) {x : Value} {p : Tm.Prf} (hp : PrfIn w x p) {r0 k s : List UInt8} (hr0 : r0.length = 32) (hk : k.length = 32) (hs : s.length = 32) : Calls Tryd.prog 30 #[hv r0, hv k, hv s, x] w fun e w' => e = .returned (.tuple #[hv (p.after r0 k s), .bool (p.holds r0 k)]) ∧ Below w.heap.size w w' := by
  have IR := Lib.hid (hash_info hr0)
  have IK := Lib.hid (hash_info hk)
  have IS := Lib.hid (hash_info hs)
  have hll := Tm.leaf_length k s
  have hul : (Tm.up (Tm.leaf k s) k 0 (p.beside k)).length = 32 := Tm.up_length hll _ _
  have IU := Lib.hid (hash_info hul)
  have OU := Lib.hid (cells_u8 (Tm.up (Tm.leaf k s) k 0 (p.beside k)))
  have LU : Hid ((List.replicate 32 (Value.int .u8 0)).length = ((Tm.up (Tm.leaf k s) k 0 (p.beside k)).map cellOf).length) := by unfold Hid; rw [List.length_map, hul]; rfl
  have HGD : Hid (p.holds r0 k = true → p.good k = true) := fun h => by unfold Tm.Prf.holds at h; rw [Bool.and_eq_true] at h; exact h.1
  have HAF : Hid (p.after r0 k s = if p.holds r0 k then Tm.up (Tm.leaf k s) k 0 (p.beside k) else Tm.none32) := by
    unfold Hid Tm.Prf.after
    cases h : p.holds r0 k with
    | false => rfl
    | true => rw [if_pos rfl, if_pos rfl, Tm.beside_up hk hp.lab (HGD.out h)]
  have CH : Hid (∀ W, Below w.heap.size w W → Calls Tryd.prog 46 #[hv r0, hv k, x] W fun e w' => e = .returned (.bool (p.holds r0 k)) ∧ Below W.heap.size W w') := fun W h => pholds_any (hg.below h hg.size) (hp.below h) hr0 hk
  have CL : Hid (∀ W, Below w.heap.size w W → Calls Tryd.prog 34 #[hv k, hv s] W fun e w' => e = .returned (hv (Tm.leaf k s)) ∧ Below W.heap.size W w') := fun W h => tleaf_any (hg.below h hg.size) hk hs
  have CD : Hid (p.holds r0 k = true → ∀ W, Below w.heap.size w W → Calls Tryd.prog 48 #[hv k, x] W fun e w' => ∃ v, e = .returned v ∧ SidesAt w' v (p.beside k) ∧ Below W.heap.size W w') := fun h0 W h => psides_any (hg.below h hg.size) (hp.below h) hk (HGD.out h0)
  have CC : Hid (p.holds r0 k = true → ∀ W A c, Below w.heap.size w W → Rd2 W 32 A (p.beside k).length c (hashes (p.beside k)) → Calls Tryd.prog 47 #[hv (Tm.leaf k s), hv k, .slice A (p.beside k).length c] W fun e w' => e = .returned (hv (Tm.up (Tm.leaf k s) k 0 (p.beside k))) ∧ Below W.heap.size W w') := fun h0 W A c h hR => pclimb_any (hg.below h hg.size) hR (Tm.beside_each hp.each) (Tm.beside_length hk hp.lab (HGD.out h0)) hll hk
  obtain ⟨A, n, c, hx, hr, hn1⟩ := hp.at_
  have hln : p.sides.length = n := by rw [← hr.len]; simp [hashes]
  have HLN := Lib.hid hln
  have HR := Lib.hid hr
  have HE := Lib.hid hp.each
  have IA := Lib.hid (hash_info hp.lab)
  have IM := Lib.hid (hash_info hp.sum)
  have IZ := Lib.hid zero_info
  have OZ := Lib.hid zero_one
  have BZ0 := Lib.hid zero_built
  have HP := Lib.hid hp
  obtain ⟨PP, hPP⟩ : ∃ L, L = proofL (.slice A n c) p.has (p.lab.map cellOf) (p.sum.map cellOf) := ⟨_, rfl⟩
  have IP : Hid ((Tryd.prog.info? 38).map (·.size) = some PP.length) := by unfold Hid; rw [hPP]; exact proofL_info (by simpa using hp.lab) (by simpa using hp.sum)
  have LA : Hid (∀ W g, Blk W g 38 PP → ∀ j y, (p.lab.map cellOf)[j]? = some y → W.cell? ⟨g, 2 + j, none⟩ = some y) := fun W g h => by rw [hPP] at h; exact proof_lab h (by simpa using hp.lab)
  have LM : Hid (∀ W g, Blk W g 38 PP → ∀ j y, (p.sum.map cellOf)[j]? = some y → W.cell? ⟨g, 34 + j, none⟩ = some y) := fun W g h => by rw [hPP] at h; exact proof_sum h (by simpa using hp.lab)
  have L0 : Hid (∀ W g, Blk W g 38 PP → W.cell? ⟨g, 0, none⟩ = some (.slice A n c)) := fun W g h => by rw [hPP] at h; exact h.cell 0
  have L1 : Hid (∀ W g, Blk W g 38 PP → W.cell? ⟨g, 1, none⟩ = some (.bool p.has)) := fun W g h => by rw [hPP] at h; exact h.cell 1
  rw [← hPP] at hx
  subst hx
  obtain ⟨w1, hw1⟩ : ∃ w1, w1 = ((((w.alloc (.cells (r0.map cellOf).toArray 30)).alloc (.cells (k.map cellOf).toArray 30)).alloc (.cells (s.map cellOf).toArray 30)).alloc (.cells PP.toArray 38)).alloc (.cells (List.replicate 32 (Value.int .u8 0)).toArray 30) := ⟨_, rfl⟩
  have X1 : Hid (Below w.heap.size w w1) := by unfold Hid; rw [hw1]; exact ((((((Below.refl _ _).alloc (Nat.le_refl _) _).alloc (by simp; try omega) _).alloc (by simp; try omega) _).alloc (by simp; try omega) _).alloc (by simp; try omega) _)
  have BRT : Hid (Blk w1 w.heap.size 30 (r0.map cellOf)) := by unfold Hid; rw [hw1]; exact (((((Blk.new w 30 _).alloc _).alloc _).alloc _).alloc _)
  have BLB : Hid (Blk w1 (w.heap.size + 1) 30 (k.map cellOf)) := by unfold Hid; rw [hw1]; exact ((((Blk.at_new _ _ 30 _ _ rfl (by simp)).alloc _).alloc _).alloc _)
  have BSU : Hid (Blk w1 (w.heap.size + 1 + 1) 30 (s.map cellOf)) := by unfold Hid; rw [hw1]; exact (((Blk.at_new _ _ 30 _ _ rfl (by simp)).alloc _).alloc _)
  have BPR : Hid (Blk w1 (w.heap.size + 1 + 1 + 1) 38 PP) := by unfold Hid; rw [hw1]; exact ((Blk.at_new _ _ 38 _ _ rfl (by simp)).alloc _)
  have BRS : Hid (Blk w1 (w.heap.size + 1 + 1 + 1 + 1) 30 (List.replicate 32 (Value.int .u8 0))) := by unfold Hid; rw [hw1]; exact (Blk.at_new _ _ 30 _ _ rfl (by simp))
  obtain ⟨Z, hZ⟩ : ∃ Z, Z = List.replicate 32 (Value.int .u8 0) := ⟨_, rfl⟩
  have HZM : Hid (Tm.none32.map cellOf = Z) := by unfold Hid; rw [hZ]; rfl
  have HZL : Hid (Z.length = 32) := by unfold Hid; rw [hZ]; rfl
  rw [← hZ] at IZ OZ BZ0 BRS LU
  unfold hv at CH CL CD CC ⊢
  obtain ⟨RC, hRC⟩ : ∃ L, L = r0.map cellOf := ⟨_, rfl⟩
  obtain ⟨KC, hKC⟩ : ∃ L, L = k.map cellOf := ⟨_, rfl⟩
  obtain ⟨SC, hSC⟩ : ∃ L, L = s.map cellOf := ⟨_, rfl⟩
  obtain ⟨LC, hLC⟩ : ∃ L, L = (Tm.leaf k s).map cellOf := ⟨_, rfl⟩
  obtain ⟨bs, hbs⟩ : ∃ L, L = p.beside k := ⟨_, rfl⟩
  rw [← hbs] at HAF CD CC IU OU LU
  obtain ⟨UC, hUC⟩ : ∃ L, L = (Tm.up (Tm.leaf k s) k 0 bs).map cellOf := ⟨_, rfl⟩
  rw [← hRC] at CH IR BRT hw1 ⊢
  rw [← hKC] at CH CL CD CC IK BLB hw1 ⊢
  rw [← hSC] at CL IS BSU hw1 ⊢
  rw [← hLC] at CL CC
  rw [← hUC] at CC IU OU LU
  have EUC := Lib.hid hUC
  obtain ⟨aft, haft⟩ : ∃ b, b = p.after r0 k s := ⟨_, rfl⟩
  rw [← haft] at HAF ⊢
  obtain ⟨hold, hhold⟩ : ∃ b, b = p.holds r0 k := ⟨_, rfl⟩
  rw [← hhold] at CH CD CC HAF ⊢
  clear hRC hKC hSC hLC hUC hbs haft hhold hp hr hPP hln HLN HR HE hk hr0 hs hg hll hul HGD LA LM L0 L1 IA IM
  go_enter Tryd.func30, Tryd.ntmps30
  go_upto_region 1 with (fail)
  change Code.wp _ _ _ _ (((((w.alloc (.cells RC.toArray 30)).alloc (.cells KC.toArray 30)).alloc (.cells SC.toArray 30)).alloc (.cells PP.toArray 38)).alloc (.cells (List.replicate 32 (Value.int .u8 0)).toArray 30))
  rw [← hw1]
  clear hZ hw1
  have hle : w.heap.size ≤ w.heap.size + 1 + 1 + 1 + 1 := by omega
  go_upto_if 14 with (first
    | (with_reducible refine load_law rfl 30 (.tmp 4) rfl w.heap.size 0 rfl RC _ Tryd.underlying30 rfl IR.out BRT.out.cells ?_)
    | (with_reducible refine load_law rfl 30 (.tmp 5) rfl (w.heap.size + 1) 0 rfl KC _ Tryd.underlying30 rfl IK.out BLB.out.cells ?_)
    | (with_reducible refine load_law rfl 38 (.tmp 7) rfl (w.heap.size + 1 + 1 + 1) 0 rfl PP _ Tryd.underlying38 rfl IP.out BPR.out.cells ?_)
    | (go_at_call 46; refine (CH.out w1 X1.out).mono ?_; rintro e w2 ⟨rfl, hX⟩; have X2 := Lib.hid hX; clear hX))
  have h1s := X1.out.size
  replace BLB := Lib.hid (BLB.out.below X2.out BLB.out.lt)
  replace BSU := Lib.hid (BSU.out.below X2.out BSU.out.lt)
  replace BPR := Lib.hid (BPR.out.below X2.out BPR.out.lt)
  replace BRS := Lib.hid (BRS.out.below X2.out BRS.out.lt)
  replace X1 := Lib.hid (X1.out.trans (X2.out.mono h1s))
  clear BRT X2 CH
  cases hold with
  | false =>
    have EAF : Hid (aft = Tm.none32) := by unfold Hid; rw [HAF.out]; rfl
    go_wp2_with (first
      | (with_reducible refine build_law rfl 30 #[] rfl Z (by simp only [List.map_toArray, List.map_nil]; exact BZ0.out) ?_)
      | ((with_reducible refine storeGen_law rfl 30 (.tmp 8) (.tmp 15) rfl (w.heap.size + 1 + 1 + 1 + 1) rfl Z rfl 30 Z IZ.out rfl OZ.out w.heap.size w BRS.out X1.out hle ?_); intro w9 B9 W9))
    exact bodyPost_ret (results_row_tmp rfl _ _ (w.heap.size + 1 + 1 + 1 + 1) 30 Z.toArray (0, 0) _ _ rfl rfl B9.out Tryd.underlying30 rfl (by rw [IZ.out]; simp)) rfl ⟨by rw [EAF.out, ← HZM.out]; rfl, W9.out⟩
  | true =>
    have EAF : Hid (aft = Tm.up (Tm.leaf k s) k 0 bs) := by unfold Hid; rw [HAF.out]; rfl
    have CC := Lib.hid (CC.out rfl)
    have CD := Lib.hid (CD.out rfl)
    clear HAF
    go_upto_region 3 with (fail)
    replace BLB := Lib.hid BLB.out.drew
    replace BSU := Lib.hid BSU.out.drew
    replace BPR := Lib.hid BPR.out.drew
    replace BRS := Lib.hid BRS.out.drew
    replace X1 := Lib.hid X1.out.drew
    refine wp_region_any (by kernel_rfl) ?_
    change wpAny _ _ _ _ _ _ _ (World.drew _)
    generalize w2.drew = wd at *
    refine phaseL (fun i => if i = 2 then [0, 1] else if i = 6 then [4, 5, 2] else []) (fun d a w' => ∃ x16 x17 x18 x19 x20 x21 x22 : Value, a = { tmps := #[.agg RC.toArray, .agg KC.toArray, .agg SC.toArray, .agg PP.toArray, .pointer (some ⟨w.heap.size, 0, none⟩), .pointer (some ⟨w.heap.size + 1, 0, none⟩), .pointer (some ⟨w.heap.size + 1 + 1, 0, none⟩), .pointer (some ⟨w.heap.size + 1 + 1 + 1, 0, none⟩), .pointer (some ⟨w.heap.size + 1 + 1 + 1 + 1, 0, none⟩), .bool false, .agg RC.toArray, .agg KC.toArray, .agg PP.toArray, .bool true, .bool false, undef, x16, x17, x18, x19, x20, x21, x22, undef], defers := [] } ∧ Hid (Below wd.heap.size wd w') ∧ (d 0 = true → x16 = .agg KC.toArray) ∧ (d 1 = true → x17 = .agg SC.toArray) ∧ (d 2 = true → x18 = .agg LC.toArray) ∧ (d 3 = true → x19 = .agg KC.toArray) ∧ (d 4 = true → x20 = .agg KC.toArray) ∧ (d 5 = true → x21 = .agg PP.toArray) ∧ (d 6 = true → Hid (SidesAt w' x22 bs))) [0, 1, 2, 3, 4, 5, 6] ?step1 3 7 [0, 1, 2, 3, 4, 5, 6] _ _ _ rfl (by decide) (fun _ h => h) (Fits.of (by kernel_rfl)) ?init1 ?fin1
    case init1 => refine ⟨_, _, _, _, _, _, _, rfl, Below.refl _ _, ?_, ?_, ?_, ?_, ?_, ?_, ?_⟩ <;> (intro h; exact absurd h (by decide))
    case step1 =>
      intro i hi d a v1 hI hdi hdeps
      obtain ⟨x16, x17, x18, x19, x20, x21, x22, rfl, BW, h0, h1, h2, h3, h4, h5, h6⟩ := hI
      have hsw := BW.out.size
      simp only [List.mem_cons, List.not_mem_nil, or_false] at hi
      rcases hi with rfl | rfl | rfl | rfl | rfl | rfl | rfl
      · refine wpOp_step (o := ?os2) ?hos2 (fun K hK => ?_)
        case hos2 => simp only [zge]; rfl
        refine step_loadW rfl 30 (.tmp 5) rfl (w.heap.size + 1) 0 rfl KC _ Tryd.underlying30 rfl IK.out (BLB.out.below BW.out BLB.out.lt).cells (hK _ _ ?_)
        clear hK K
        try simp only [zpt]
        exact ⟨_, _, _, _, _, _, _, rfl, BW, fun _ => rfl, fun a => by first | exact h1 (by simpa using a) | rfl, fun a => by first | exact h2 (by simpa using a) | rfl, fun a => by first | exact h3 (by simpa using a) | rfl, fun a => by first | exact h4 (by simpa using a) | rfl, fun a => by first | exact h5 (by simpa using a) | rfl, fun a => h6 (by simpa using a)⟩
      · refine wpOp_step (o := ?os3) ?hos3 (fun K hK => ?_)
        case hos3 => simp only [zge]; rfl
        refine step_loadW rfl 30 (.tmp 6) rfl (w.heap.size + 1 + 1) 0 rfl SC _ Tryd.underlying30 rfl IS.out (BSU.out.below BW.out BSU.out.lt).cells (hK _ _ ?_)
        clear hK K
        try simp only [zpt]
        exact ⟨_, _, _, _, _, _, _, rfl, BW, fun a => by first | exact h0 (by simpa using a) | rfl, fun _ => rfl, fun a => by first | exact h2 (by simpa using a) | rfl, fun a => by first | exact h3 (by simpa using a) | rfl, fun a => by first | exact h4 (by simpa using a) | rfl, fun a => by first | exact h5 (by simpa using a) | rfl, fun a => h6 (by simpa using a)⟩
      · obtain rfl := h0 (hdeps 0 (by simp))
        obtain rfl := h1 (hdeps 1 (by simp))
        refine wpOp_step (o := ?os4) ?hos4 (fun K hK => ?_)
        case hos4 => simp only [zge]; rfl
        go_simp
        refine (CL.out v1 (X1.out.trans (BW.out.mono X1.out.size))).mono ?_
        rintro e u1 ⟨rfl, hX⟩
        refine hK _ _ ?_
        clear hK K
        try simp only [zpt]
        exact ⟨_, _, _, _, _, _, _, rfl, BW.out.trans (hX.mono hsw), fun a => by first | exact h0 (by simpa using a) | rfl, fun a => by first | exact h1 (by simpa using a) | rfl, fun _ => rfl, fun a => by first | exact h3 (by simpa using a) | rfl, fun a => by first | exact h4 (by simpa using a) | rfl, fun a => by first | exact h5 (by simpa using a) | rfl, fun a => (h6 (by simpa using a)).out.below hX⟩
      · refine wpOp_step (o := ?os5) ?hos5 (fun K hK => ?_)
        case hos5 => simp only [zge]; rfl
        refine step_loadW rfl 30 (.tmp 5) rfl (w.heap.size + 1) 0 rfl KC _ Tryd.underlying30 rfl IK.out (BLB.out.below BW.out BLB.out.lt).cells (hK _ _ ?_)
        clear hK K
        try simp only [zpt]
        exact ⟨_, _, _, _, _, _, _, rfl, BW, fun a => by first | exact h0 (by simpa using a) | rfl, fun a => by first | exact h1 (by simpa using a) | rfl, fun a => by first | exact h2 (by simpa using a) | rfl, fun _ => rfl, fun a => by first | exact h4 (by simpa using a) | rfl, fun a => by first | exact h5 (by simpa using a) | rfl, fun a => h6 (by simpa using a)⟩
      · refine wpOp_step (o := ?os6) ?hos6 (fun K hK => ?_)
        case hos6 => simp only [zge]; rfl
        refine step_loadW rfl 30 (.tmp 5) rfl (w.heap.size + 1) 0 rfl KC _ Tryd.underlying30 rfl IK.out (BLB.out.below BW.out BLB.out.lt).cells (hK _ _ ?_)
        clear hK K
        try simp only [zpt]
        exact ⟨_, _, _, _, _, _, _, rfl, BW, fun a => by first | exact h0 (by simpa using a) | rfl, fun a => by first | exact h1 (by simpa using a) | rfl, fun a => by first | exact h2 (by simpa using a) | rfl, fun a => by first | exact h3 (by simpa using a) | rfl, fun _ => rfl, fun a => by first | exact h5 (by simpa using a) | rfl, fun a => h6 (by simpa using a)⟩
      · refine wpOp_step (o := ?os7) ?hos7 (fun K hK => ?_)
        case hos7 => simp only [zge]; rfl
        refine step_loadW rfl 38 (.tmp 7) rfl (w.heap.size + 1 + 1 + 1) 0 rfl PP _ Tryd.underlying38 rfl IP.out (BPR.out.below BW.out BPR.out.lt).cells (hK _ _ ?_)
        clear hK K
        try simp only [zpt]
        exact ⟨_, _, _, _, _, _, _, rfl, BW, fun a => by first | exact h0 (by simpa using a) | rfl, fun a => by first | exact h1 (by simpa using a) | rfl, fun a => by first | exact h2 (by simpa using a) | rfl, fun a => by first | exact h3 (by simpa using a) | rfl, fun a => by first | exact h4 (by simpa using a) | rfl, fun _ => rfl, fun a => h6 (by simpa using a)⟩
      · obtain rfl := h4 (hdeps 4 (by simp))
        obtain rfl := h5 (hdeps 5 (by simp))
        refine wpOp_step (o := ?os8) ?hos8 (fun K hK => ?_)
        case hos8 => simp only [zge]; rfl
        go_simp
        refine (CD.out v1 (X1.out.trans (BW.out.mono X1.out.size))).mono ?_
        rintro e u1 ⟨vs, rfl, hS, hX⟩
        refine hK _ _ ?_
        clear hK K
        try simp only [zpt]
        exact ⟨_, _, _, _, _, _, _, rfl, BW.out.trans (hX.mono hsw), fun a => by first | exact h0 (by simpa using a) | rfl, fun a => by first | exact h1 (by simpa using a) | rfl, fun a => by first | exact h2 (by simpa using a) | rfl, fun a => by first | exact h3 (by simpa using a) | rfl, fun a => by first | exact h4 (by simpa using a) | rfl, fun a => by first | exact h5 (by simpa using a) | rfl, fun _ => hS⟩
    case fin1 =>
      intro a v1 hI
      obtain ⟨x16, x17, x18, x19, x20, x21, x22, rfl, BW, h0, h1, h2, h3, h4, h5, h6⟩ := hI
      obtain rfl := h0 (by decide)
      obtain rfl := h1 (by decide)
      obtain rfl := h2 (by decide)
      obtain rfl := h3 (by decide)
      obtain rfl := h4 (by decide)
      obtain rfl := h5 (by decide)
      obtain ⟨A2, c2, rfl, hR2⟩ := (h6 (by decide)).out
      have R2 := Lib.hid hR2
      have BRS7 := Lib.hid (BRS.out.below BW.out BRS.out.lt)
      have W7 := Lib.hid (X1.out.trans (BW.out.mono X1.out.size))
      clear BLB BSU BPR BRS X1 BW h6 hR2
      try dsimp only
      refine wpAny_ready (rs := [7]) (by kernel_rfl) (by simp) ?_
      refine AllReady.cons (o := ?p9) ?q9 (fun K hK => ?_) AllReady.nil
      case q9 => simp only [zge]; rfl
      go_simp
      refine (CC.out v1 A2 c2 W7.out R2.out).mono ?_
      rintro e w8 ⟨rfl, hX⟩
      have BRS8 := Lib.hid (BRS7.out.below hX BRS7.out.lt)
      have W8 := Lib.hid (W7.out.trans (hX.mono W7.out.size))
      clear hX BRS7 W7 R2
      refine hK _ _ ?_
      clear hK K
      try simp only [zpt]
      refine wpAny_ready (rs := [8]) (by kernel_rfl) (by simp) ?_
      refine AllReady.cons (o := ?p10) ?q10 (fun K hK => ?_) AllReady.nil
      case q10 => simp only [zge]; rfl
      refine step_storeAll rfl 30 (.tmp 8) (.tmp 23) rfl (w.heap.size + 1 + 1 + 1 + 1) rfl UC rfl 30 Z BRS8.out IU.out LU.out OU.out (hK _ _ ?_)
      clear hK K
      try simp only [zpt]
      have B9 : Hid (Blk (w8.setRow (w.heap.size + 1 + 1 + 1 + 1) UC.toArray) (w.heap.size + 1 + 1 + 1 + 1) 30 UC) := BRS8.out.row
      have W9 : Hid (Below w.heap.size w (w8.setRow (w.heap.size + 1 + 1 + 1 + 1) UC.toArray)) := below_setRow W8.out hle _
      generalize w8.setRow (w.heap.size + 1 + 1 + 1 + 1) UC.toArray = w9 at *
      clear BRS8 W8
      refine wpAny_take (i := 9) (oi := ?oi11) (v := .bool true) ?hi11 (by kernel_rfl) (by kernel_rfl) (by kernel_rfl) ?hQ11 ?hy11 ?rest11
      case hi11 => simp only [zge]; rfl
      case hQ11 => exact fun _ _ _ h => h
      case hy11 => exact Or.inl ⟨by rfl, by intro w; go_simp⟩
      try simp only [zpt]
      refine wpAny_done (by kernel_rfl) ?_ _
      go_wp2_with fail
      exact bodyPost_ret (results_row_tmp rfl _ _ (w.heap.size + 1 + 1 + 1 + 1) 30 UC.toArray (0, 0) _ _ rfl rfl B9.out Tryd.underlying30 rfl (by rw [IU.out]; simp)) rfl ⟨by rw [EAF.out, EUC.out]; rfl, W9.out⟩
end Go.Proofs.YtmidbpjdpakkoaaDoor
