import Derived.Test.YtmidbpjdpakkoaaDoorSTbg
namespace Go.Proofs.YtmidbpjdpakkoaaDoor.proofAny
set_option linter.unusedVariables false
set_option linter.unusedSimpArgs false
set_option maxRecDepth 100000
open Go.RowKit
theorem root_built (a : Int) : Tryd.prog.built 30 [(0, .int .u8 a)] = some (.int .u8 a :: List.replicate 31 (.int .u8 0)).toArray := by kernel_rfl
set_option maxRecDepth 100000 in
set_option maxHeartbeats 4000000 in
theorem walk (hB : BegunOk) (x0 : UInt8) (k v : Int) {A : Option Addr} {n c : Nat} {p : Tm.Prf} (w : World) (hg : Gl w) (hk1 : -9223372036854775808 ≤ k) (hk2 : k ≤ 9223372036854775807) (hr : Rd2 w 32 A n c (hashes p.sides)) (hlab : p.lab.length = 32) (hsum : p.sum.length = 32) (he : ∀ y ∈ p.sides, y.length = 32) :
    Calls Tryd.prog 7 #[.int .u8 (x0.toNat : Int), .int .i64 k, .int .i64 v, .agg (proofL (.slice A n c) p.has (p.lab.map cellOf) (p.sum.map cellOf)).toArray] w fun e w' => e = .returned (.bool true) ∧ Below w.heap.size w w' := by
  have HG := Lib.hid hg
  have hsz := hg.size
  obtain ⟨r0, hr0⟩ : ∃ r : List UInt8, r = x0 :: List.replicate 31 0 := ⟨_, rfl⟩
  have hrl : r0.length = 32 := by rw [hr0]; rfl
  have hrc : r0.map cellOf = .int .u8 (x0.toNat : Int) :: List.replicate 31 (.int .u8 0) := by rw [hr0]; rfl
  have hkl := nm_length k
  have hvl := sm_length v
  have hel := Tm.leaf_length p.lab p.sum
  have hzl : Tm.none32.length = 32 := rfl
  have CN : Hid (∀ W, Calls Tryd.prog 20 #[.int .i64 k] W fun e w' => e = .returned (hv (nm k)) ∧ Below W.heap.size W w') := fun W => nm_any k hk1 hk2 W
  have CS : Hid (∀ W, Calls Tryd.prog 27 #[.int .i64 v] W fun e w' => e = .returned (hv (sm v)) ∧ Below W.heap.size W w') := fun W => sm_any v W
  have CL : Hid (∀ W, Calls Tryd.prog 33 #[hv p.lab, hv p.sum] W fun e w' => e = .returned (hv (Tm.leaf p.lab p.sum)) ∧ Below W.heap.size W w') := fun W => rleaf_any hlab hsum
  have IA := Lib.hid (hash_info hlab)
  have IM := Lib.hid (hash_info hsum)
  have IR := Lib.hid (hash_info hrl)
  have OR := Lib.hid (cells_u8 r0)
  have LR : Hid ((List.replicate 32 (Value.int .u8 0)).length = (r0.map cellOf).length) := by unfold Hid; rw [List.length_map, hrl]; rfl
  have HBR : Hid (Tryd.prog.built 30 [(0, .int .u8 (x0.toNat : Int))] = some (r0.map cellOf).toArray) := by unfold Hid; rw [hrc]; exact root_built _
  have BZ0 := Lib.hid zero_built
  have hpi : n ≤ 300 → PrfIn w (.agg (proofL (.slice A n c) p.has (p.lab.map cellOf) (p.sum.map cellOf)).toArray) p := fun h => ⟨⟨A, n, c, rfl, hr, by omega⟩, hlab, hsum, he⟩
  have CA : Hid (n ≤ 300 → ∀ W, Below w.heap.size w W → Calls Tryd.prog 32 #[hv r0, hv (nm k), hv (sm v), .agg (proofL (.slice A n c) p.has (p.lab.map cellOf) (p.sum.map cellOf)).toArray] W fun e w' => e = .returned (.bool true) ∧ Below W.heap.size W w') := fun h W hW => alike_any (hg.below hW hsz) ((hpi h).below hW) hrl hkl hvl
  have CB : Hid (n ≤ 300 → ∀ W, Below w.heap.size w W → Calls Tryd.prog 32 #[hv (Tm.leaf p.lab p.sum), hv (nm k), hv (sm v), .agg (proofL (.slice A n c) p.has (p.lab.map cellOf) (p.sum.map cellOf)).toArray] W fun e w' => e = .returned (.bool true) ∧ Below W.heap.size W w') := fun h W hW => alike_any (hg.below hW hsz) ((hpi h).below hW) hel hkl hvl
  have CC : Hid (n ≤ 300 → ∀ W, Below w.heap.size w W → Calls Tryd.prog 32 #[hv Tm.none32, hv (nm k), hv (sm v), .agg (proofL (.slice A n c) p.has (p.lab.map cellOf) (p.sum.map cellOf)).toArray] W fun e w' => e = .returned (.bool true) ∧ Below W.heap.size W w') := fun h W hW => alike_any (hg.below hW hsz) ((hpi h).below hW) hzl hkl hvl
  have CG : Hid (∀ W, Below w.heap.size w W → Calls Tryd.prog 14 #[] W fun e w' => e = .returned (.bool true) ∧ Below W.heap.size W w') := fun W hW => hB (hg.below hW hsz)
  obtain ⟨PP, hPP⟩ : ∃ L, L = proofL (.slice A n c) p.has (p.lab.map cellOf) (p.sum.map cellOf) := ⟨_, rfl⟩
  have IPP : Hid ((Tryd.prog.info? 38).map (·.size) = some PP.length) := by unfold Hid; rw [hPP]; exact proofL_info (by simpa using hlab) (by simpa using hsum)
  have LA : Hid (∀ W g, Blk W g 38 PP → ∀ j y, (p.lab.map cellOf)[j]? = some y → W.cell? ⟨g, 2 + j, none⟩ = some y) := fun W g h => by rw [hPP] at h; exact proof_lab h (by simpa using hlab)
  have LM : Hid (∀ W g, Blk W g 38 PP → ∀ j y, (p.sum.map cellOf)[j]? = some y → W.cell? ⟨g, 34 + j, none⟩ = some y) := fun W g h => by rw [hPP] at h; exact proof_sum h (by simpa using hlab)
  have L0 : Hid (∀ W g, Blk W g 38 PP → W.cell? ⟨g, 0, none⟩ = some (.slice A n c)) := fun W g h => by rw [hPP] at h; exact h.cell 0
  rw [← hPP] at CA CB CC ⊢
  have ZB : Hid (∀ W : World, Blk (W.alloc (.cells (List.replicate 32 (Value.int .u8 0)).toArray 30)) W.heap.size 30 (List.replicate 32 (Value.int .u8 0))) := fun W => Blk.new W 30 _
  rw [hv_none] at CC
  obtain ⟨Z, hZ⟩ : ∃ Z, Z = List.replicate 32 (Value.int .u8 0) := ⟨_, rfl⟩
  rw [← hZ] at LR BZ0 CC
  have ZB' : Hid (∀ W : World, Blk (W.alloc (.cells (List.replicate 32 (Value.int .u8 0)).toArray 30)) W.heap.size 30 Z) := fun W => by rw [hZ]; exact ZB.out W
  unfold hv at CN CS CL CA CB CC
  obtain ⟨RC, hRC⟩ : ∃ L, L = r0.map cellOf := ⟨_, rfl⟩
  obtain ⟨NC, hNC⟩ : ∃ L, L = (nm k).map cellOf := ⟨_, rfl⟩
  obtain ⟨SC, hSC⟩ : ∃ L, L = (sm v).map cellOf := ⟨_, rfl⟩
  obtain ⟨AC, hAC⟩ : ∃ L, L = p.lab.map cellOf := ⟨_, rfl⟩
  obtain ⟨MC, hMC⟩ : ∃ L, L = p.sum.map cellOf := ⟨_, rfl⟩
  obtain ⟨EC, hEC⟩ : ∃ L, L = (Tm.leaf p.lab p.sum).map cellOf := ⟨_, rfl⟩
  rw [← hRC] at CA IR OR LR HBR
  rw [← hNC] at CN CA CB CC
  rw [← hSC] at CS CA CB CC
  rw [← hAC] at CL IA LA
  rw [← hMC] at CL IM LM
  rw [← hEC] at CL CB
  obtain ⟨rb, hrb⟩ : ∃ r : Int, r = (x0.toNat : Int) := ⟨_, rfl⟩
  rw [← hrb] at HBR ⊢
  obtain ⟨w1, hw1⟩ : ∃ w1, w1 = w.alloc (.cells PP.toArray 38) := ⟨_, rfl⟩
  have W : Hid (Below w.heap.size w w1) := by unfold Hid; rw [hw1]; exact alloc_below w _
  have BP : Hid (Blk w1 w.heap.size 38 PP) := by unfold Hid; rw [hw1]; exact Blk.new w 38 _
  clear hr hlab hsum he hpi hPP hRC hNC hSC hAC hMC hEC hrb hr0 hrl hrc hkl hvl hel hzl hg hZ ZB hk1 hk2
  go_enter Tryd.func7, Tryd.ntmps7
  go_upto_region 1 with (fail)
  change Code.wp _ _ _ _ (w.alloc (.cells PP.toArray 38))
  rw [← hw1]
  clear hw1
  go_upto_region 4 with (first
    | (go_at_call 14; refine (CG.out w1 W.out).mono ?_; rintro e w2 ⟨rfl, hX⟩; replace BP := Lib.hid (BP.out.below hX BP.out.lt); replace W := Lib.hid (W.out.trans (hX.mono W.out.size)); clear hX))
  have c0 := L0.out _ _ BP.out
  by_cases h300 : n ≤ 300
  case neg =>
    have d1 : decide ((300 : Int) < (n : Int)) = true := decide_eq_true (by omega)
    go_wp2_with fail
    go_ret
    exact ⟨rfl, W.out⟩
  have d1 : decide ((300 : Int) < (n : Int)) = false := decide_eq_false (by omega)
  have CA := Lib.hid (CA.out h300)
  have CB := Lib.hid (CB.out h300)
  have CC := Lib.hid (CC.out h300)
  go_upto_region 6 with (fail)
  clear c0 d1
  go_upto_region 7 with (first
    | ((with_reducible refine build_law rfl 30 #[(0, .tmp 18)] rfl RC ?hb ?_); (case hb => simp only [List.map_toArray, List.map_cons, List.map_nil]; exact HBR.out))
    | ((with_reducible refine storeGen_law rfl 30 (.tmp 10) (.tmp 19) rfl w2.heap.size rfl RC rfl 30 Z IR.out LR.out OR.out w2.heap.size w2 ?_ ?_ (Nat.le_refl _) ?_)
       · exact ZB'.out w2
       · exact alloc_below w2 _
       intro w3 BR hX'; have hX := hX'.out; clear hX'; replace BP := Lib.hid (BP.out.below hX BP.out.lt); replace W := Lib.hid (W.out.trans (hX.mono W.out.size)); clear hX))
  obtain ⟨q1, hq1⟩ : ∃ q, q = w2.heap.size := ⟨_, rfl⟩
  rw [← hq1] at BR ⊢
  clear hq1
  have hX := (Below.refl w3.heap.size w3).drew
  replace BP := Lib.hid (BP.out.below hX BP.out.lt)
  replace BR := Lib.hid (BR.out.below hX BR.out.lt)
  replace W := Lib.hid (W.out.trans (hX.mono W.out.size))
  clear hX
  refine wp_region_any (by kernel_rfl) ?_
  change wpAny _ _ _ _ _ _ _ (World.drew _)
  generalize w3.drew = wd at *
  refine wpAny_take (i := 1) (oi := ?oi1) (v := .int .i64 k) ?hi1 (by kernel_rfl) (by kernel_rfl) (by kernel_rfl) ?hQ1 ?hy1 ?rest1
  case hi1 => simp only [zge]; rfl
  case hQ1 => exact fun _ _ _ h => h
  case hy1 => exact Or.inl ⟨by rfl, by intro w; go_simp⟩
  try simp only [zpt]
  refine wpAny_take (i := 3) (oi := ?oi2) (v := .int .i64 v) ?hi2 (by kernel_rfl) (by kernel_rfl) (by kernel_rfl) ?hQ2 ?hy2 ?rest2
  case hi2 => simp only [zge]; rfl
  case hQ2 => exact fun _ _ _ h => h
  case hy2 => exact Or.inl ⟨by rfl, by intro w; go_simp⟩
  try simp only [zpt]
  refine phaseL (fun i => if i = 4 then [2] else if i = 6 then [0, 2, 4, 5] else []) (fun d a w' => ∃ x20 x22 x24 x25 x26 : Value, a = { tmps := #[.int .u8 rb, .int .i64 k, .int .i64 v, .agg PP.toArray, undef, undef, undef, .pointer (some ⟨w.heap.size, 0, none⟩), .bool false, .bool true, .pointer (some ⟨q1, 0, none⟩), .bool true, .bool true, .bool false, .pointer (some ⟨w.heap.size, 0, none⟩), .slice A n c, .int .i64 (n : Int), .bool false, .int .u8 rb, .agg RC.toArray, x20, .int .i64 k, x22, .int .i64 v, x24, x25, x26, undef, undef, undef, undef, undef, undef, undef, undef, undef, undef, undef, undef, undef, undef, undef, undef, undef, undef, undef, undef, undef, undef], defers := [] } ∧ Hid (Below wd.heap.size wd w') ∧ (d 0 = true → x20 = .agg RC.toArray) ∧ (d 2 = true → x22 = .agg NC.toArray) ∧ (d 4 = true → x24 = .agg SC.toArray) ∧ (d 5 = true → x25 = .agg PP.toArray) ∧ (d 6 = true → x26 = .bool true)) [0, 2, 4, 5, 6] ?step3 23 5 [0, 2, 4, 5, 6] _ _ _ rfl (by decide) (fun _ h => h) (Fits.of (by kernel_rfl)) ?init3 ?fin3
  case init3 => refine ⟨_, _, _, _, _, rfl, Below.refl _ _, ?_, ?_, ?_, ?_, ?_⟩ <;> (intro h; exact absurd h (by decide))
  case step3 =>
    intro i hi d a v3 hI hdi hdeps
    obtain ⟨x20, x22, x24, x25, x26, rfl, BW, h0, h2, h4, h5, h6⟩ := hI
    have hsw := BW.out.size
    simp only [List.mem_cons, List.not_mem_nil, or_false] at hi
    rcases hi with rfl | rfl | rfl | rfl | rfl
    · refine wpOp_step (o := ?os4) ?hos4 (fun K hK => ?_)
      case hos4 => simp only [zge]; rfl
      refine step_loadW rfl 30 (.tmp 10) rfl q1 0 rfl RC _ Tryd.underlying30 rfl IR.out (BR.out.below BW.out BR.out.lt).cells (hK _ _ ?_)
      clear hK K
      try simp only [zpt]
      exact ⟨_, _, _, _, _, rfl, BW, fun _ => rfl, fun a => by first | exact h2 (by simpa using a) | rfl, fun a => by first | exact h4 (by simpa using a) | rfl, fun a => by first | exact h5 (by simpa using a) | rfl, fun a => by first | exact h6 (by simpa using a) | rfl⟩
    · refine wpOp_step (o := ?os5) ?hos5 (fun K hK => ?_)
      case hos5 => simp only [zge]; rfl
      go_simp
      refine (CN.out v3).mono ?_
      rintro e u3 ⟨rfl, hX⟩
      refine hK _ _ ?_
      clear hK K
      try simp only [zpt]
      exact ⟨_, _, _, _, _, rfl, BW.out.trans (hX.mono hsw), fun a => by first | exact h0 (by simpa using a) | rfl, fun _ => rfl, fun a => by first | exact h4 (by simpa using a) | rfl, fun a => by first | exact h5 (by simpa using a) | rfl, fun a => by first | exact h6 (by simpa using a) | rfl⟩
    · refine wpOp_step (o := ?os6) ?hos6 (fun K hK => ?_)
      case hos6 => simp only [zge]; rfl
      go_simp
      refine (CS.out v3).mono ?_
      rintro e u3 ⟨rfl, hX⟩
      refine hK _ _ ?_
      clear hK K
      try simp only [zpt]
      exact ⟨_, _, _, _, _, rfl, BW.out.trans (hX.mono hsw), fun a => by first | exact h0 (by simpa using a) | rfl, fun a => by first | exact h2 (by simpa using a) | rfl, fun _ => rfl, fun a => by first | exact h5 (by simpa using a) | rfl, fun a => by first | exact h6 (by simpa using a) | rfl⟩
    · refine wpOp_step (o := ?os7) ?hos7 (fun K hK => ?_)
      case hos7 => simp only [zge]; rfl
      refine step_loadW rfl 38 (.tmp 7) rfl w.heap.size 0 rfl PP _ Tryd.underlying38 rfl IPP.out (BP.out.below BW.out BP.out.lt).cells (hK _ _ ?_)
      clear hK K
      try simp only [zpt]
      exact ⟨_, _, _, _, _, rfl, BW, fun a => by first | exact h0 (by simpa using a) | rfl, fun a => by first | exact h2 (by simpa using a) | rfl, fun a => by first | exact h4 (by simpa using a) | rfl, fun _ => rfl, fun a => by first | exact h6 (by simpa using a) | rfl⟩
    · obtain rfl := h0 (hdeps 0 (by simp))
      obtain rfl := h2 (hdeps 2 (by simp))
      obtain rfl := h4 (hdeps 4 (by simp))
      obtain rfl := h5 (hdeps 5 (by simp))
      refine wpOp_step (o := ?os8) ?hos8 (fun K hK => ?_)
      case hos8 => simp only [zge]; rfl
      go_simp
      refine (CA.out v3 (W.out.trans (BW.out.mono W.out.size))).mono ?_
      rintro e u3 ⟨rfl, hX⟩
      refine hK _ _ ?_
      clear hK K
      try simp only [zpt]
      exact ⟨_, _, _, _, _, rfl, BW.out.trans (hX.mono hsw), fun a => by first | exact h0 (by simpa using a) | rfl, fun a => by first | exact h2 (by simpa using a) | rfl, fun a => by first | exact h4 (by simpa using a) | rfl, fun a => by first | exact h5 (by simpa using a) | rfl, fun _ => rfl⟩
  case fin3 =>
    intro a v3 hI
    obtain ⟨x20, x22, x24, x25, x26, rfl, BW, h0, h2, h4, h5, h6⟩ := hI
    obtain rfl := h0 (by decide)
    obtain rfl := h2 (by decide)
    obtain rfl := h4 (by decide)
    obtain rfl := h5 (by decide)
    obtain rfl := h6 (by decide)
    clear h0 h2 h4 h5 h6
    have hX := BW.out
    replace BP := Lib.hid (BP.out.below hX BP.out.lt)
    replace BR := Lib.hid (BR.out.below hX BR.out.lt)
    replace W := Lib.hid (W.out.trans (hX.mono W.out.size))
    clear hX BW
    try dsimp only
    refine wpAny_take (i := 7) (oi := ?oi9) (v := .bool true) ?hi9 (by kernel_rfl) (by kernel_rfl) (by kernel_rfl) ?hQ9 ?hy9 ?rest9
    case hi9 => simp only [zge]; rfl
    case hQ9 => exact fun _ _ _ h => h
    case hy9 => exact Or.inl ⟨by rfl, by intro w; go_simp⟩
    try simp only [zpt]
    refine wpAny_take (i := 8) (oi := ?oi10) (v := .pointer (some ⟨w.heap.size, 2, none⟩)) ?hi10 (by kernel_rfl) (by kernel_rfl) (by kernel_rfl) ?hQ10 ?hy10 ?rest10
    case hi10 => simp only [zge]; rfl
    case hQ10 => exact fun _ _ _ h => h
    case hy10 => exact Or.inl ⟨by rfl, by intro w; go_simp⟩
    try simp only [zpt]
    refine wpAny_take (i := 10) (oi := ?oi11) (v := .pointer (some ⟨w.heap.size, 34, none⟩)) ?hi11 (by kernel_rfl) (by kernel_rfl) (by kernel_rfl) ?hQ11 ?hy11 ?rest11
    case hi11 => simp only [zge]; rfl
    case hQ11 => exact fun _ _ _ h => h
    case hy11 => exact Or.inl ⟨by rfl, by intro w; go_simp⟩
    try simp only [zpt]
    refine wpAny_take (i := 13) (oi := ?oi12) (v := .int .i64 k) ?hi12 (by kernel_rfl) (by kernel_rfl) (by kernel_rfl) ?hQ12 ?hy12 ?rest12
    case hi12 => simp only [zge]; rfl
    case hQ12 => exact fun _ _ _ h => h
    case hy12 => exact Or.inl ⟨by rfl, by intro w; go_simp⟩
    try simp only [zpt]
    refine wpAny_take (i := 15) (oi := ?oi13) (v := .int .i64 v) ?hi13 (by kernel_rfl) (by kernel_rfl) (by kernel_rfl) ?hQ13 ?hy13 ?rest13
    case hi13 => simp only [zge]; rfl
    case hQ13 => exact fun _ _ _ h => h
    case hy13 => exact Or.inl ⟨by rfl, by intro w; go_simp⟩
    try simp only [zpt]
    refine phaseL (fun i => if i = 12 then [9, 11] else if i = 14 then [12] else if i = 16 then [14] else if i = 18 then [12, 14, 16, 17] else []) (fun d a w' => ∃ x29 x31 x32 x34 x36 x37 x38 : Value, a = { tmps := #[.int .u8 rb, .int .i64 k, .int .i64 v, .agg PP.toArray, undef, undef, undef, .pointer (some ⟨w.heap.size, 0, none⟩), .bool false, .bool true, .pointer (some ⟨q1, 0, none⟩), .bool true, .bool true, .bool false, .pointer (some ⟨w.heap.size, 0, none⟩), .slice A n c, .int .i64 (n : Int), .bool false, .int .u8 rb, .agg RC.toArray, .agg RC.toArray, .int .i64 k, .agg NC.toArray, .int .i64 v, .agg SC.toArray, .agg PP.toArray, .bool true, .bool true, .pointer (some ⟨w.heap.size, 2, none⟩), x29, .pointer (some ⟨w.heap.size, 34, none⟩), x31, x32, .int .i64 k, x34, .int .i64 v, x36, x37, x38, undef, undef, undef, undef, undef, undef, undef, undef, undef, undef], defers := [] } ∧ Hid (Below v3.heap.size v3 w') ∧ (d 9 = true → x29 = .agg AC.toArray) ∧ (d 11 = true → x31 = .agg MC.toArray) ∧ (d 12 = true → x32 = .agg EC.toArray) ∧ (d 14 = true → x34 = .agg NC.toArray) ∧ (d 16 = true → x36 = .agg SC.toArray) ∧ (d 17 = true → x37 = .agg PP.toArray) ∧ (d 18 = true → x38 = .bool true)) [9, 11, 12, 14, 16, 17, 18] ?step14 11 7 [9, 11, 12, 14, 16, 17, 18] _ _ _ rfl (by decide) (fun _ h => h) (Fits.of (by kernel_rfl)) ?init14 ?fin14
    case init14 => refine ⟨_, _, _, _, _, _, _, rfl, Below.refl _ _, ?_, ?_, ?_, ?_, ?_, ?_, ?_⟩ <;> (intro h; exact absurd h (by decide))
    case step14 =>
      intro i hi d a v14 hI hdi hdeps
      obtain ⟨x29, x31, x32, x34, x36, x37, x38, rfl, BW, h9, h11, h12, h14, h16, h17, h18⟩ := hI
      have hsw := BW.out.size
      simp only [List.mem_cons, List.not_mem_nil, or_false] at hi
      rcases hi with rfl | rfl | rfl | rfl | rfl | rfl | rfl
      · refine wpOp_step (o := ?os15) ?hos15 (fun K hK => ?_)
        case hos15 => simp only [zge]; rfl
        refine step_loadW (by kernel_rfl) 30 (.tmp 28) rfl w.heap.size 2 rfl AC _ Tryd.underlying30 rfl IA.out (LA.out _ _ (BP.out.below BW.out BP.out.lt)) (hK _ _ ?_)
        clear hK K
        try simp only [zpt]
        exact ⟨_, _, _, _, _, _, _, rfl, BW, fun _ => rfl, fun a => by first | exact h11 (by simpa using a) | rfl, fun a => by first | exact h12 (by simpa using a) | rfl, fun a => by first | exact h14 (by simpa using a) | rfl, fun a => by first | exact h16 (by simpa using a) | rfl, fun a => by first | exact h17 (by simpa using a) | rfl, fun a => by first | exact h18 (by simpa using a) | rfl⟩
      · refine wpOp_step (o := ?os16) ?hos16 (fun K hK => ?_)
        case hos16 => simp only [zge]; rfl
        refine step_loadW (by kernel_rfl) 30 (.tmp 30) rfl w.heap.size 34 rfl MC _ Tryd.underlying30 rfl IM.out (LM.out _ _ (BP.out.below BW.out BP.out.lt)) (hK _ _ ?_)
        clear hK K
        try simp only [zpt]
        exact ⟨_, _, _, _, _, _, _, rfl, BW, fun a => by first | exact h9 (by simpa using a) | rfl, fun _ => rfl, fun a => by first | exact h12 (by simpa using a) | rfl, fun a => by first | exact h14 (by simpa using a) | rfl, fun a => by first | exact h16 (by simpa using a) | rfl, fun a => by first | exact h17 (by simpa using a) | rfl, fun a => by first | exact h18 (by simpa using a) | rfl⟩
      · obtain rfl := h9 (hdeps 9 (by simp))
        obtain rfl := h11 (hdeps 11 (by simp))
        refine wpOp_step (o := ?os17) ?hos17 (fun K hK => ?_)
        case hos17 => simp only [zge]; rfl
        go_simp
        refine (CL.out v14).mono ?_
        rintro e u14 ⟨rfl, hX⟩
        refine hK _ _ ?_
        clear hK K
        try simp only [zpt]
        exact ⟨_, _, _, _, _, _, _, rfl, BW.out.trans (hX.mono hsw), fun a => by first | exact h9 (by simpa using a) | rfl, fun a => by first | exact h11 (by simpa using a) | rfl, fun _ => rfl, fun a => by first | exact h14 (by simpa using a) | rfl, fun a => by first | exact h16 (by simpa using a) | rfl, fun a => by first | exact h17 (by simpa using a) | rfl, fun a => by first | exact h18 (by simpa using a) | rfl⟩
      · refine wpOp_step (o := ?os18) ?hos18 (fun K hK => ?_)
        case hos18 => simp only [zge]; rfl
        go_simp
        refine (CN.out v14).mono ?_
        rintro e u14 ⟨rfl, hX⟩
        refine hK _ _ ?_
        clear hK K
        try simp only [zpt]
        exact ⟨_, _, _, _, _, _, _, rfl, BW.out.trans (hX.mono hsw), fun a => by first | exact h9 (by simpa using a) | rfl, fun a => by first | exact h11 (by simpa using a) | rfl, fun a => by first | exact h12 (by simpa using a) | rfl, fun _ => rfl, fun a => by first | exact h16 (by simpa using a) | rfl, fun a => by first | exact h17 (by simpa using a) | rfl, fun a => by first | exact h18 (by simpa using a) | rfl⟩
      · refine wpOp_step (o := ?os19) ?hos19 (fun K hK => ?_)
        case hos19 => simp only [zge]; rfl
        go_simp
        refine (CS.out v14).mono ?_
        rintro e u14 ⟨rfl, hX⟩
        refine hK _ _ ?_
        clear hK K
        try simp only [zpt]
        exact ⟨_, _, _, _, _, _, _, rfl, BW.out.trans (hX.mono hsw), fun a => by first | exact h9 (by simpa using a) | rfl, fun a => by first | exact h11 (by simpa using a) | rfl, fun a => by first | exact h12 (by simpa using a) | rfl, fun a => by first | exact h14 (by simpa using a) | rfl, fun _ => rfl, fun a => by first | exact h17 (by simpa using a) | rfl, fun a => by first | exact h18 (by simpa using a) | rfl⟩
      · refine wpOp_step (o := ?os20) ?hos20 (fun K hK => ?_)
        case hos20 => simp only [zge]; rfl
        refine step_loadW (by kernel_rfl) 38 (.tmp 7) rfl w.heap.size 0 rfl PP _ Tryd.underlying38 rfl IPP.out ((BP.out.below BW.out BP.out.lt).cells) (hK _ _ ?_)
        clear hK K
        try simp only [zpt]
        exact ⟨_, _, _, _, _, _, _, rfl, BW, fun a => by first | exact h9 (by simpa using a) | rfl, fun a => by first | exact h11 (by simpa using a) | rfl, fun a => by first | exact h12 (by simpa using a) | rfl, fun a => by first | exact h14 (by simpa using a) | rfl, fun a => by first | exact h16 (by simpa using a) | rfl, fun _ => rfl, fun a => by first | exact h18 (by simpa using a) | rfl⟩
      · obtain rfl := h12 (hdeps 12 (by simp))
        obtain rfl := h14 (hdeps 14 (by simp))
        obtain rfl := h16 (hdeps 16 (by simp))
        obtain rfl := h17 (hdeps 17 (by simp))
        refine wpOp_step (o := ?os21) ?hos21 (fun K hK => ?_)
        case hos21 => simp only [zge]; rfl
        go_simp
        refine (CB.out v14 (W.out.trans (BW.out.mono W.out.size))).mono ?_
        rintro e u14 ⟨rfl, hX⟩
        refine hK _ _ ?_
        clear hK K
        try simp only [zpt]
        exact ⟨_, _, _, _, _, _, _, rfl, BW.out.trans (hX.mono hsw), fun a => by first | exact h9 (by simpa using a) | rfl, fun a => by first | exact h11 (by simpa using a) | rfl, fun a => by first | exact h12 (by simpa using a) | rfl, fun a => by first | exact h14 (by simpa using a) | rfl, fun a => by first | exact h16 (by simpa using a) | rfl, fun a => by first | exact h17 (by simpa using a) | rfl, fun _ => rfl⟩
    case fin14 =>
      intro a v14 hI
      obtain ⟨x29, x31, x32, x34, x36, x37, x38, rfl, BW, h9, h11, h12, h14, h16, h17, h18⟩ := hI
      obtain rfl := h9 (by decide)
      obtain rfl := h11 (by decide)
      obtain rfl := h12 (by decide)
      obtain rfl := h14 (by decide)
      obtain rfl := h16 (by decide)
      obtain rfl := h17 (by decide)
      obtain rfl := h18 (by decide)
      clear h9 h11 h12 h14 h16 h17 h18
      have hX := BW.out
      replace BP := Lib.hid (BP.out.below hX BP.out.lt)
      replace BR := Lib.hid (BR.out.below hX BR.out.lt)
      replace W := Lib.hid (W.out.trans (hX.mono W.out.size))
      clear hX BW
      try dsimp only
      refine wpAny_take (i := 19) (oi := ?oi22) (v := .bool true) ?hi22 (by kernel_rfl) (by kernel_rfl) (by kernel_rfl) ?hQ22 ?hy22 ?rest22
      case hi22 => simp only [zge]; rfl
      case hQ22 => exact fun _ _ _ h => h
      case hy22 => exact Or.inl ⟨by rfl, by intro w; go_simp⟩
      try simp only [zpt]
      refine wpAny_take (i := 20) (oi := ?oi23) (v := .bool true) ?hi23 (by kernel_rfl) (by kernel_rfl) (by kernel_rfl) ?hQ23 ?hy23 ?rest23
      case hi23 => simp only [zge]; rfl
      case hQ23 => exact fun _ _ _ h => h
      case hy23 => exact Or.inl ⟨by rfl, by intro w; go_simp⟩
      try simp only [zpt]
      refine wpAny_take (i := 22) (oi := ?oi24) (v := .int .i64 k) ?hi24 (by kernel_rfl) (by kernel_rfl) (by kernel_rfl) ?hQ24 ?hy24 ?rest24
      case hi24 => simp only [zge]; rfl
      case hQ24 => exact fun _ _ _ h => h
      case hy24 => exact Or.inl ⟨by rfl, by intro w; go_simp⟩
      try simp only [zpt]
      refine wpAny_take (i := 24) (oi := ?oi25) (v := .int .i64 v) ?hi25 (by kernel_rfl) (by kernel_rfl) (by kernel_rfl) ?hQ25 ?hy25 ?rest25
      case hi25 => simp only [zge]; rfl
      case hQ25 => exact fun _ _ _ h => h
      case hy25 => exact Or.inl ⟨by rfl, by intro w; go_simp⟩
      try simp only [zpt]
      refine phaseL (fun i => if i = 25 then [23] else if i = 27 then [21, 23, 25, 26] else []) (fun d a w' => ∃ x41 x43 x45 x46 x47 : Value, a = { tmps := #[.int .u8 rb, .int .i64 k, .int .i64 v, .agg PP.toArray, undef, undef, undef, .pointer (some ⟨w.heap.size, 0, none⟩), .bool false, .bool true, .pointer (some ⟨q1, 0, none⟩), .bool true, .bool true, .bool false, .pointer (some ⟨w.heap.size, 0, none⟩), .slice A n c, .int .i64 (n : Int), .bool false, .int .u8 rb, .agg RC.toArray, .agg RC.toArray, .int .i64 k, .agg NC.toArray, .int .i64 v, .agg SC.toArray, .agg PP.toArray, .bool true, .bool true, .pointer (some ⟨w.heap.size, 2, none⟩), .agg AC.toArray, .pointer (some ⟨w.heap.size, 34, none⟩), .agg MC.toArray, .agg EC.toArray, .int .i64 k, .agg NC.toArray, .int .i64 v, .agg SC.toArray, .agg PP.toArray, .bool true, .bool true, .bool true, x41, .int .i64 k, x43, .int .i64 v, x45, x46, x47, undef], defers := [] } ∧ Hid (Below v14.heap.size v14 w') ∧ (d 21 = true → x41 = .agg Z.toArray) ∧ (d 23 = true → x43 = .agg NC.toArray) ∧ (d 25 = true → x45 = .agg SC.toArray) ∧ (d 26 = true → x46 = .agg PP.toArray) ∧ (d 27 = true → x47 = .bool true)) [21, 23, 25, 26, 27] ?step26 2 5 [21, 23, 25, 26, 27] _ _ _ rfl (by decide) (fun _ h => h) (Fits.of (by kernel_rfl)) ?init26 ?fin26
      case init26 => refine ⟨_, _, _, _, _, rfl, Below.refl _ _, ?_, ?_, ?_, ?_, ?_⟩ <;> (intro h; exact absurd h (by decide))
      case step26 =>
        intro i hi d a v26 hI hdi hdeps
        obtain ⟨x41, x43, x45, x46, x47, rfl, BW, h21, h23, h25, h26, h27⟩ := hI
        have hsw := BW.out.size
        simp only [List.mem_cons, List.not_mem_nil, or_false] at hi
        rcases hi with rfl | rfl | rfl | rfl | rfl
        · refine wpOp_step (o := ?os27) ?hos27 (fun K hK => ?_)
          case hos27 => simp only [zge]; rfl
          refine step_build (by kernel_rfl) 30 #[] rfl Z (by simp only [List.map_toArray, List.map_nil]; exact BZ0.out) (hK _ _ ?_)
          clear hK K
          try simp only [zpt]
          exact ⟨_, _, _, _, _, rfl, BW, fun _ => rfl, fun a => by first | exact h23 (by simpa using a) | rfl, fun a => by first | exact h25 (by simpa using a) | rfl, fun a => by first | exact h26 (by simpa using a) | rfl, fun a => by first | exact h27 (by simpa using a) | rfl⟩
        · refine wpOp_step (o := ?os28) ?hos28 (fun K hK => ?_)
          case hos28 => simp only [zge]; rfl
          go_simp
          refine (CN.out v26).mono ?_
          rintro e u26 ⟨rfl, hX⟩
          refine hK _ _ ?_
          clear hK K
          try simp only [zpt]
          exact ⟨_, _, _, _, _, rfl, BW.out.trans (hX.mono hsw), fun a => by first | exact h21 (by simpa using a) | rfl, fun _ => rfl, fun a => by first | exact h25 (by simpa using a) | rfl, fun a => by first | exact h26 (by simpa using a) | rfl, fun a => by first | exact h27 (by simpa using a) | rfl⟩
        · refine wpOp_step (o := ?os29) ?hos29 (fun K hK => ?_)
          case hos29 => simp only [zge]; rfl
          go_simp
          refine (CS.out v26).mono ?_
          rintro e u26 ⟨rfl, hX⟩
          refine hK _ _ ?_
          clear hK K
          try simp only [zpt]
          exact ⟨_, _, _, _, _, rfl, BW.out.trans (hX.mono hsw), fun a => by first | exact h21 (by simpa using a) | rfl, fun a => by first | exact h23 (by simpa using a) | rfl, fun _ => rfl, fun a => by first | exact h26 (by simpa using a) | rfl, fun a => by first | exact h27 (by simpa using a) | rfl⟩
        · refine wpOp_step (o := ?os30) ?hos30 (fun K hK => ?_)
          case hos30 => simp only [zge]; rfl
          refine step_loadW (by kernel_rfl) 38 (.tmp 7) rfl w.heap.size 0 rfl PP _ Tryd.underlying38 rfl IPP.out ((BP.out.below BW.out BP.out.lt).cells) (hK _ _ ?_)
          clear hK K
          try simp only [zpt]
          exact ⟨_, _, _, _, _, rfl, BW, fun a => by first | exact h21 (by simpa using a) | rfl, fun a => by first | exact h23 (by simpa using a) | rfl, fun a => by first | exact h25 (by simpa using a) | rfl, fun _ => rfl, fun a => by first | exact h27 (by simpa using a) | rfl⟩
        · obtain rfl := h21 (hdeps 21 (by simp))
          obtain rfl := h23 (hdeps 23 (by simp))
          obtain rfl := h25 (hdeps 25 (by simp))
          obtain rfl := h26 (hdeps 26 (by simp))
          refine wpOp_step (o := ?os31) ?hos31 (fun K hK => ?_)
          case hos31 => simp only [zge]; rfl
          go_simp
          refine (CC.out v26 (W.out.trans (BW.out.mono W.out.size))).mono ?_
          rintro e u26 ⟨rfl, hX⟩
          refine hK _ _ ?_
          clear hK K
          try simp only [zpt]
          exact ⟨_, _, _, _, _, rfl, BW.out.trans (hX.mono hsw), fun a => by first | exact h21 (by simpa using a) | rfl, fun a => by first | exact h23 (by simpa using a) | rfl, fun a => by first | exact h25 (by simpa using a) | rfl, fun a => by first | exact h26 (by simpa using a) | rfl, fun _ => rfl⟩
      case fin26 =>
        intro a v26 hI
        obtain ⟨x41, x43, x45, x46, x47, rfl, BW, h21, h23, h25, h26, h27⟩ := hI
        obtain rfl := h21 (by decide)
        obtain rfl := h23 (by decide)
        obtain rfl := h25 (by decide)
        obtain rfl := h26 (by decide)
        obtain rfl := h27 (by decide)
        clear h21 h23 h25 h26 h27
        have hX := BW.out
        replace BP := Lib.hid (BP.out.below hX BP.out.lt)
        replace BR := Lib.hid (BR.out.below hX BR.out.lt)
        replace W := Lib.hid (W.out.trans (hX.mono W.out.size))
        clear hX BW
        try dsimp only
        refine wpAny_take (i := 28) (oi := ?oi32) (v := .bool true) ?hi32 (by kernel_rfl) (by kernel_rfl) (by kernel_rfl) ?hQ32 ?hy32 ?rest32
        case hi32 => simp only [zge]; rfl
        case hQ32 => exact fun _ _ _ h => h
        case hy32 => exact Or.inl ⟨by rfl, by intro w; go_simp⟩
        try simp only [zpt]
        refine wpAny_take (i := 29) (oi := ?oi33) (v := .bool true) ?hi33 (by kernel_rfl) (by kernel_rfl) (by kernel_rfl) ?hQ33 ?hy33 ?rest33
        case hi33 => simp only [zge]; rfl
        case hQ33 => exact fun _ _ _ h => h
        case hy33 => exact Or.inl ⟨by rfl, by intro w; go_simp⟩
        try simp only [zpt]
        refine wpAny_done (by kernel_rfl) ?_ _
        go_wp2_with fail
        go_ret
        exact ⟨rfl, W.out⟩
end Go.Proofs.YtmidbpjdpakkoaaDoor.proofAny
