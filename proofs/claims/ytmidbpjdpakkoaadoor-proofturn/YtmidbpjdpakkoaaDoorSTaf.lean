import Derived.Test.YtmidbpjdpakkoaaDoorSTck
import Derived.Test.YtmidbpjdpakkoaaDoorSTrt
namespace Go.Proofs.YtmidbpjdpakkoaaDoor
set_option linter.unusedVariables false
set_option linter.unusedSimpArgs false
set_option maxRecDepth 100000
open Go.RowKit
theorem builtPair {a b : List Value} (ha : a.length = 32) (hb : b.length = 32) : Tryd.prog.built 47 [(0, .agg a.toArray), (1, .agg b.toArray)] = some (a ++ b).toArray := by
  obtain ⟨a0, a1, a2, a3, a4, a5, a6, a7, a8, a9, a10, a11, a12, a13, a14, a15, a16, a17, a18, a19, a20, a21, a22, a23, a24, a25, a26, a27, a28, a29, a30, a31, rfl⟩ := list32 ha
  obtain ⟨b0, b1, b2, b3, b4, b5, b6, b7, b8, b9, b10, b11, b12, b13, b14, b15, b16, b17, b18, b19, b20, b21, b22, b23, b24, b25, b26, b27, b28, b29, b30, b31, rfl⟩ := list32 hb
  kernel_rfl
theorem one_pair (w : World) {p : Tm.P} (h1 : p.1.length = 32) (h2 : p.2.length = 32) : Ow2 (w.alloc (.cells (leafL p).toArray 47)) w.heap.size 47 64 (.slice (some ⟨w.heap.size, 0, none⟩) 1 1) (pairs [p]) :=
  ⟨by
    have := World.ownsRow_lit (e := 47) (size := 64) w (leafL p).toArray 1 (Nat.le_refl w.heap.size) (by unfold maxLen; omega) (by simp [leafL_length h1 h2])
    simpa [pairs] using this, fun x hx => by simp [pairs] at hx; rw [hx]; exact leafL_length h1 h2⟩
set_option maxRecDepth 100000 in
set_option maxHeartbeats 2000000 in
theorem rafter_any {w : World} {x : Value} {p : Tm.Prf} (hp : PrfIn w x p) {r0 k s : List UInt8} (hr0 : r0.length = 32) (hk : k.length = 32) (hs : s.length = 32) : Calls Tryd.prog 49 #[hv r0, hv k, hv s, x] w fun e w' => e = .returned (.tuple #[hv (p.after r0 k s), .bool (p.holds r0 k)]) ∧ Below w.heap.size w w' := by
  obtain ⟨A, n, c, hx, hr, _⟩ := hp.at_
  have HLAB := Lib.hid hp.lab
  have HSUM := Lib.hid hp.sum
  have HEACH := Lib.hid hp.each
  have CK : Hid (∀ W, Below w.heap.size w W → Calls Tryd.prog 23 #[hv r0, hv k, x] W (ChkR W (p.told r0 k) (p.holds r0 k && p.there k) (p.holds r0 k))) := fun W hW => rcheck_any (hp.below hW) hr0 hk
  have HTF := Lib.hid fun (h : p.good k = true) => Tm.tips_fit hk hs hp.lab hp.sum h
  have HGD : Hid (p.holds r0 k = true → p.good k = true) := fun h => by unfold Tm.Prf.holds at h; rw [Bool.and_eq_true] at h; exact h.1
  have hln : p.sides.length = n := by rw [← hr.len]; simp [hashes]
  have HLN := Lib.hid hln
  have HRS := Lib.hid hr
  have HAF : Hid (p.after r0 k s = if p.holds r0 k then Tm.up (Tm.root n (p.tips k s)) k 0 p.sides else Tm.none32) := by unfold Hid; rw [Tm.Prf.after, hln]
  have HTIPS : Hid (p.tips k s = if p.has && !p.there k then [(k, s), (p.lab, p.sum)] else [(k, s)]) := rfl
  have hvl : (p.told r0 k).length = 32 := by unfold Tm.Prf.told; split; exact hp.sum; rfl
  obtain ⟨told, htold⟩ : ∃ z, z = p.told r0 k := ⟨_, rfl⟩
  obtain ⟨hold, hhold⟩ : ∃ z, z = p.holds r0 k := ⟨_, rfl⟩
  obtain ⟨there, hthere⟩ : ∃ z, z = p.there k := ⟨_, rfl⟩
  obtain ⟨aft, haft⟩ : ∃ z, z = p.after r0 k s := ⟨_, rfl⟩
  obtain ⟨tips, htips⟩ : ∃ z, z = p.tips k s := ⟨_, rfl⟩
  rw [← htold, ← hhold, ← hthere] at CK
  rw [← htold] at hvl
  rw [← hhold] at HGD HAF ⊢
  rw [← haft] at HAF ⊢
  rw [← htips] at HAF HTF HTIPS
  rw [← hthere] at HTIPS
  have IR := Lib.hid (hash_info hr0)
  have IK := Lib.hid (hash_info hk)
  have IS := Lib.hid (hash_info hs)
  have IA := Lib.hid (hash_info hp.lab)
  have IM := Lib.hid (hash_info hp.sum)
  have IV := Lib.hid (hash_info hvl)
  have OV := Lib.hid (cells_u8 told)
  have LV : Hid ((List.replicate 32 (Value.int .u8 0)).length = (told.map cellOf).length) := by unfold Hid; rw [List.length_map, hvl]; rfl
  have IZ := Lib.hid zero_info
  have OZ := Lib.hid zero_one
  have BZ0 := Lib.hid zero_built
  have HP1 : Hid (Tryd.prog.built 47 [(0, .agg (k.map cellOf).toArray), (1, .agg (s.map cellOf).toArray)] = some (leafL (k, s)).toArray) := builtPair (by simpa using hk) (by simpa using hs)
  have HP2 : Hid (Tryd.prog.built 47 [(0, .agg (p.lab.map cellOf).toArray), (1, .agg (p.sum.map cellOf).toArray)] = some (leafL (p.lab, p.sum)).toArray) := builtPair (by simpa using hp.lab) (by simpa using hp.sum)
  have ROW1 := Lib.hid (pairRow (p := (k, s)) hk hs)
  have ROW2 := Lib.hid (pairRow (p := (p.lab, p.sum)) hp.lab hp.sum)
  have OP1 := Lib.hid fun W => one_pair W (p := (k, s)) hk hs
  have BP2 : Hid (∀ W : World, Blk (W.alloc (.cells (leafL (p.lab, p.sum)).toArray 47)) W.heap.size 47 (leafL (p.lab, p.sum))) := fun W => Blk.new W 47 _
  obtain ⟨PP, hPP⟩ : ∃ L, L = proofL (.slice A n c) p.has (p.lab.map cellOf) (p.sum.map cellOf) := ⟨_, rfl⟩
  have IP : Hid ((Tryd.prog.info? 38).map (·.size) = some PP.length) := by unfold Hid; rw [hPP]; exact proofL_info (by simpa using hp.lab) (by simpa using hp.sum)
  have LA : Hid (∀ W g, Blk W g 38 PP → ∀ j y, (p.lab.map cellOf)[j]? = some y → W.cell? ⟨g, 2 + j, none⟩ = some y) := fun W g h => by rw [hPP] at h; exact proof_lab h (by simpa using hp.lab)
  have LM : Hid (∀ W g, Blk W g 38 PP → ∀ j y, (p.sum.map cellOf)[j]? = some y → W.cell? ⟨g, 34 + j, none⟩ = some y) := fun W g h => by rw [hPP] at h; exact proof_sum h (by simpa using hp.lab)
  have L0 : Hid (∀ W g, Blk W g 38 PP → W.cell? ⟨g, 0, none⟩ = some (.slice A n c)) := fun W g h => by rw [hPP] at h; exact h.cell 0
  have L1 : Hid (∀ W g, Blk W g 38 PP → W.cell? ⟨g, 1, none⟩ = some (.bool p.has)) := fun W g h => by rw [hPP] at h; exact h.cell 1
  rw [← hPP] at hx
  subst hx
  obtain ⟨w1, hw1⟩ : ∃ w1, w1 = ((((w.alloc (.cells (r0.map cellOf).toArray 30)).alloc (.cells (k.map cellOf).toArray 30)).alloc (.cells (s.map cellOf).toArray 30)).alloc (.cells PP.toArray 38)).alloc (.cells (List.replicate 32 (Value.int .u8 0)).toArray 30) := ⟨_, rfl⟩
  have X1 : Hid (Below w.heap.size w w1) := by unfold Hid; rw [hw1]; exact (((((Below.refl _ _).alloc (Nat.le_refl _) _).alloc (by simp) _).alloc (by simp; omega) _).alloc (by simp; omega) _).alloc (by simp; omega) _
  have BRT : Hid (Blk w1 w.heap.size 30 (r0.map cellOf)) := by unfold Hid; rw [hw1]; exact ((((Blk.new w 30 _).alloc _).alloc _).alloc _).alloc _
  have BLB : Hid (Blk w1 (w.heap.size + 1) 30 (k.map cellOf)) := by unfold Hid; rw [hw1]; exact (((Blk.at_new _ _ 30 _ _ rfl (by simp)).alloc _).alloc _).alloc _
  have BSU : Hid (Blk w1 (w.heap.size + 1 + 1) 30 (s.map cellOf)) := by unfold Hid; rw [hw1]; exact ((Blk.at_new _ _ 30 _ _ rfl (by simp)).alloc _).alloc _
  have BPR : Hid (Blk w1 (w.heap.size + 1 + 1 + 1) 38 PP) := by unfold Hid; rw [hw1]; exact (Blk.at_new _ _ 38 _ _ rfl (by simp)).alloc _
  have BRS : Hid (Blk w1 (w.heap.size + 1 + 1 + 1 + 1) 30 (List.replicate 32 (Value.int .u8 0))) := by unfold Hid; rw [hw1]; exact Blk.at_new _ _ 30 _ _ rfl (by simp)
  have hle : w.heap.size ≤ w.heap.size + 1 + 1 + 1 + 1 := by omega
  have ZB : Hid (∀ W : World, Blk (W.alloc (.cells (List.replicate 32 (Value.int .u8 0)).toArray 30)) W.heap.size 30 (List.replicate 32 (Value.int .u8 0))) := fun W => Blk.new W 30 _
  obtain ⟨Z, hZ⟩ : ∃ Z, Z = List.replicate 32 (Value.int .u8 0) := ⟨_, rfl⟩
  have HZM : Hid (Tm.none32.map cellOf = Z) := by unfold Hid; rw [hZ]; rfl
  have HZL : Hid (Z.length = 32) := by unfold Hid; rw [hZ]; rfl
  rw [← hZ] at IZ OZ BZ0 BRS LV
  have ZB' : Hid (∀ W : World, Blk (W.alloc (.cells (List.replicate 32 (Value.int .u8 0)).toArray 30)) W.heap.size 30 Z) := fun W => by rw [hZ]; exact ZB.out W
  unfold ChkR hv at CK
  unfold hv
  obtain ⟨RC, hRC⟩ : ∃ L, L = r0.map cellOf := ⟨_, rfl⟩
  obtain ⟨KC, hKC⟩ : ∃ L, L = k.map cellOf := ⟨_, rfl⟩
  obtain ⟨SC, hSC⟩ : ∃ L, L = s.map cellOf := ⟨_, rfl⟩
  obtain ⟨AC, hAC⟩ : ∃ L, L = p.lab.map cellOf := ⟨_, rfl⟩
  obtain ⟨MC, hMC⟩ : ∃ L, L = p.sum.map cellOf := ⟨_, rfl⟩
  obtain ⟨VC, hVC⟩ : ∃ L, L = told.map cellOf := ⟨_, rfl⟩
  obtain ⟨PL, hPL⟩ : ∃ L, L = leafL (k, s) := ⟨_, rfl⟩
  obtain ⟨PM, hPM⟩ : ∃ L, L = leafL (p.lab, p.sum) := ⟨_, rfl⟩
  rw [← hRC] at CK IR BRT hw1 ⊢
  rw [← hKC] at CK IK BLB hw1 HP1 ⊢
  rw [← hSC] at IS BSU hw1 HP1 ⊢
  rw [← hAC] at IA LA HP2
  rw [← hMC] at IM LM HP2
  rw [← hVC] at CK IV OV LV
  rw [← hPL] at HP1 OP1 ROW1
  rw [← hPM] at HP2 BP2 ROW2
  have HKL : Hid (KC.length = 32) := by unfold Hid; rw [hKC, List.length_map, hk]
  have HSL : Hid (SC.length = 32) := by unfold Hid; rw [hSC, List.length_map, hs]
  have HAL : Hid (AC.length = 32) := by unfold Hid; rw [hAC, List.length_map]; exact hp.lab
  have HML : Hid (MC.length = 32) := by unfold Hid; rw [hMC, List.length_map]; exact hp.sum
  have EKC := Lib.hid hKC
  have EPM := Lib.hid hPM
  obtain ⟨has, hhas⟩ : ∃ z, z = p.has := ⟨_, rfl⟩
  rw [← hhas] at L1 HTIPS
  have HK := Lib.hid hk
  clear hp hr hln hvl htold hhold hthere haft htips hPP hRC hKC hSC hAC hMC hVC hPL hPM hhas hr0 hs hk ZB
  go_enter Tryd.func49, Tryd.ntmps49
  go_upto_region 1 with (fail)
  change Code.wp _ _ _ _ (((((w.alloc (.cells RC.toArray 30)).alloc (.cells KC.toArray 30)).alloc (.cells SC.toArray 30)).alloc (.cells PP.toArray 38)).alloc (.cells (List.replicate 32 (Value.int .u8 0)).toArray 30))
  rw [← hw1]
  clear hZ hw1
  have hb1 := BRS.out.lt
  go_upto_region 2 with (first
    | (with_reducible refine load_law rfl 30 (.tmp 4) rfl w.heap.size 0 rfl RC _ Tryd.underlying30 rfl IR.out BRT.out.cells ?_)
    | (with_reducible refine load_law rfl 30 (.tmp 5) rfl (w.heap.size + 1) 0 rfl KC _ Tryd.underlying30 rfl IK.out BLB.out.cells ?_)
    | (with_reducible refine load_law rfl 38 (.tmp 7) rfl (w.heap.size + 1 + 1 + 1) 0 rfl PP _ Tryd.underlying38 rfl IP.out BPR.out.cells ?_)
    | (go_at_call 23; refine (CK.out w1 X1.out).mono ?_; rintro e w2 ⟨rfl, hX⟩; have X2 := Lib.hid hX; have hn2 := Nat.le_refl w2.heap.size; clear hX)
    | ((with_reducible refine storeGen_law rfl 30 (.tmp 10) (.tmp 19) rfl w2.heap.size rfl VC rfl 30 Z IV.out LV.out OV.out w2.heap.size w2 ?_ ?_ hn2 ?_)
       · exact ZB'.out w2
       · exact alloc_below w2 _
       intro w3 B3 X3))
  have h12 := X2.out.size
  have X4 := Lib.hid (X2.out.trans (X3.out.mono h12))
  have h14 := X4.out.size
  have BLB3 := Lib.hid (BLB.out.below X4.out BLB.out.lt)
  have BSU3 := Lib.hid (BSU.out.below X4.out BSU.out.lt)
  have BPR3 := Lib.hid (BPR.out.below X4.out BPR.out.lt)
  have BRS3 := Lib.hid (BRS.out.below X4.out hb1)
  have W3 := Lib.hid (X1.out.trans (X4.out.mono X1.out.size))
  clear BRT BLB BSU BPR BRS X1 X2 X3 X4 CK B3 hn2
  cases hold with
  | false =>
    have EAF : Hid (aft = Tm.none32) := by unfold Hid; rw [HAF.out]; rfl
    clear HAF
    go_wp2_with (first
      | (with_reducible refine build_law rfl 30 #[] rfl Z (by simp only [List.map_toArray, List.map_nil]; exact BZ0.out) ?_)
      | ((with_reducible refine storeGen_law rfl 30 (.tmp 8) (.tmp 24) rfl (w.heap.size + 1 + 1 + 1 + 1) rfl Z rfl 30 Z IZ.out rfl OZ.out w.heap.size w BRS3.out W3.out hle ?_); intro w9 B9 W9))
    exact bodyPost_ret (results_row_tmp rfl _ _ (w.heap.size + 1 + 1 + 1 + 1) 30 Z.toArray (0, 0) _ _ rfl rfl B9.out Tryd.underlying30 rfl (by rw [IZ.out]; simp)) rfl ⟨by rw [EAF.out, ← HZM.out]; rfl, W9.out⟩
  | true =>
    have EAF : Hid (aft = Tm.up (Tm.root n tips) k 0 p.sides) := by unfold Hid; rw [HAF.out]; rfl
    have FT := Lib.hid (HTF.out (HGD.out rfl))
    have H256 : Hid (n ≤ 256) := by
      have := HGD.out rfl
      unfold Tm.Prf.good at this
      rw [Bool.and_eq_true, decide_eq_true_iff, HLN.out] at this
      exact this.1
    clear HAF HTF HGD
    go_upto_region 4 with (fail)
    refine wp_region_lit ?_
    refine load_law rfl 30 (.tmp 5) rfl (w.heap.size + 1) 0 rfl KC _ Tryd.underlying30 rfl IK.out BLB3.out.cells ?_
    try simp only [zpt]
    refine load_law rfl 30 (.tmp 6) rfl (w.heap.size + 1 + 1) 0 rfl SC _ Tryd.underlying30 rfl IS.out BSU3.out.cells ?_
    try simp only [zpt]
    refine build_law rfl 47 #[(0, .tmp 25), (1, .tmp 26)] rfl PL (by simp only [List.map_toArray, List.map_cons, List.map_nil]; exact HP1.out) ?_
    try simp only [zpt]
    refine bslice_law rfl 25 1 #[(0, .tmp 27)] rfl (by simp only [List.map_toArray, List.map_cons, List.map_nil]; exact ROW1.out w3) ?_
    try simp only [zpt]
    have O4 := Lib.hid (OP1.out w3)
    have X4 := Lib.hid (alloc_below w3 (.cells PL.toArray 47))
    have hb3 := BRS3.out.lt
    have BLB4 := Lib.hid (BLB3.out.below X4.out BLB3.out.lt)
    have BPR4 := Lib.hid (BPR3.out.below X4.out BPR3.out.lt)
    have BRS4 := Lib.hid (BRS3.out.below X4.out BRS3.out.lt)
    have W4 := Lib.hid (W3.out.trans (X4.out.mono W3.out.size))
    have hw4 := X4.out.size
    generalize w3.alloc (.cells PL.toArray 47) = w4 at *
    have c1 : w4.cell? ⟨w.heap.size + 1 + 1 + 1, 1, none⟩ = some (.bool has) := L1.out _ _ BPR4.out
    clear BLB3 BSU3 BPR3 BRS3 X4 HP1 OP1 ROW1
    go_upto_region 5 with (fail)
    cases has with
    | false =>
      have ET : Hid (tips = [(k, s)]) := by unfold Hid; rw [HTIPS.out]; rfl
      go_upto_region 7 with (fail)
      clear c1
      have hrt := Tm.root_length n tips
      have hul : (Tm.up (Tm.root n tips) k 0 p.sides).length = 32 := Tm.up_length hrt _ _
      have IU := Lib.hid (hash_info hul)
      have OU := Lib.hid (cells_u8 (Tm.up (Tm.root n tips) k 0 p.sides))
      have LU : Hid (Z.length = ((Tm.up (Tm.root n tips) k 0 p.sides).map cellOf).length) := by unfold Hid; rw [List.length_map, hul, HZL.out]
      have htl : tips.length ≤ 2 := by rw [ET.out]; simp
      have CR : Hid (∀ W, Below w4.heap.size w4 W → Calls Tryd.prog 18 #[.slice (some ⟨w3.heap.size, 0, none⟩) 1 1, .int .i64 (n : Int)] W fun e w' => e = .returned (hv (Tm.root n tips)) ∧ Below W.heap.size W w') := fun W hW => by
        have ho := O4.out.below hW
        rw [← ET.out] at ho
        obtain ⟨A', c', he, hR, _⟩ := ho.rd
        rw [he]
        have ft := FT.out
        rw [HLN.out] at ft
        exact rroot_any (257 - n) tips n (by have := H256.out; omega) hR ft (by simp [pairs]; omega)
      have CU : Hid (∀ W, Below w.heap.size w W → Calls Tryd.prog 43 #[hv (Tm.root n tips), hv k, .slice A n c] W fun e w' => e = .returned (hv (Tm.up (Tm.root n tips) k 0 p.sides)) ∧ Below W.heap.size W w') := fun W hW => rup_any (HRS.out.below hW) HEACH.out H256.out hrt HK.out
      unfold hv at CR CU
      rw [← EKC.out] at CU
      obtain ⟨TC, hTC⟩ : ∃ L, L = (Tm.root n tips).map cellOf := ⟨_, rfl⟩
      obtain ⟨UC, hUC⟩ : ∃ L, L = (Tm.up (Tm.root n tips) k 0 p.sides).map cellOf := ⟨_, rfl⟩
      rw [← hTC] at CR CU
      rw [← hUC] at CU IU OU LU
      have EUC := Lib.hid hUC
      have BLB7 := Lib.hid BLB4.out.drew
      have BPR7 := Lib.hid BPR4.out.drew
      have BRS7 := Lib.hid BRS4.out.drew
      have W7 := Lib.hid W4.out.drew
      have CR7 : Hid (∀ W, Below w4.drew.heap.size w4.drew W → Calls Tryd.prog 18 #[.slice (some ⟨w3.heap.size, 0, none⟩) 1 1, .int .i64 (n : Int)] W fun e w' => e = .returned (.agg TC.toArray) ∧ Below W.heap.size W w') := fun W hW => CR.out W ⟨hW.os, hW.tape, hW.output, hW.size, hW.block⟩
      refine wp_region_any (by kernel_rfl) ?_
      change wpAny _ _ _ _ _ _ _ (World.drew _)
      generalize w4.drew = wd at *
      clear hTC hUC hrt hul htl CR
      refine wpAny_take (i := 0) (oi := ?oi1) (v := .slice (some ⟨w3.heap.size, 0, none⟩) 1 1) ?hi1 (by kernel_rfl) (by kernel_rfl) (by kernel_rfl) ?hQ1 ?hy1 ?rest1
      case hi1 => simp only [zge]; rfl
      case hQ1 => exact fun _ _ _ h => h
      case hy1 => exact Or.inl ⟨by rfl, by intro w; go_simp⟩
      try simp only [zpt]
      refine wpAny_take (i := 1) (oi := ?oi2) (v := .pointer (some ⟨w.heap.size + 1 + 1 + 1, 0, none⟩)) ?hi2 (by kernel_rfl) (by kernel_rfl) (by kernel_rfl) ?hQ2 ?hy2 ?rest2
      case hi2 => simp only [zge]; rfl
      case hQ2 => exact fun _ _ _ h => h
      case hy2 => exact Or.inl ⟨by rfl, by intro w; go_simp⟩
      try simp only [zpt]
      refine wpAny_take (i := 6) (oi := ?oi3) (v := .pointer (some ⟨w.heap.size + 1 + 1 + 1, 0, none⟩)) ?hi3 (by kernel_rfl) (by kernel_rfl) (by kernel_rfl) ?hQ3 ?hy3 ?rest3
      case hi3 => simp only [zge]; rfl
      case hQ3 => exact fun _ _ _ h => h
      case hy3 => exact Or.inl ⟨by rfl, by intro w; go_simp⟩
      try simp only [zpt]
      refine phaseL (fun i => if i = 3 then [2] else if i = 4 then [3] else if i = 8 then [4, 5, 7] else []) (fun d a w' => ∃ x45 x46 x47 x48 x50 x51 : Value, a = { tmps := #[.agg RC.toArray, .agg KC.toArray, .agg SC.toArray, .agg PP.toArray, .pointer (some ⟨w.heap.size, 0, none⟩), .pointer (some ⟨w.heap.size + 1, 0, none⟩), .pointer (some ⟨w.heap.size + 1 + 1, 0, none⟩), .pointer (some ⟨w.heap.size + 1 + 1 + 1, 0, none⟩), .pointer (some ⟨w.heap.size + 1 + 1 + 1 + 1, 0, none⟩), .bool false, .pointer (some ⟨w2.heap.size, 0, none⟩), .bool there, .bool true, .slice (some ⟨w3.heap.size, 0, none⟩) 1 1, .tuple #[.agg VC.toArray, .bool there, .bool true], .agg RC.toArray, .agg KC.toArray, .agg PP.toArray, .tuple #[.agg VC.toArray, .bool there, .bool true], .agg VC.toArray, .bool there, .bool true, .bool true, .bool false, undef, .agg KC.toArray, .agg SC.toArray, .agg PL.toArray, .slice (some ⟨w3.heap.size, 0, none⟩) 1 1, .pointer (some ⟨w.heap.size + 1 + 1 + 1, 1, none⟩), .bool false, .bool false, undef, undef, .bool false, undef, undef, undef, undef, undef, undef, undef, undef, .slice (some ⟨w3.heap.size, 0, none⟩) 1 1, .pointer (some ⟨w.heap.size + 1 + 1 + 1, 0, none⟩), x45, x46, x47, x48, .pointer (some ⟨w.heap.size + 1 + 1 + 1, 0, none⟩), x50, x51], defers := [] } ∧ Hid (Below wd.heap.size wd w') ∧ (d 2 = true → x45 = .slice A n c) ∧ (d 3 = true → x46 = .int .i64 (n : Int)) ∧ (d 4 = true → x47 = .agg TC.toArray) ∧ (d 5 = true → x48 = .agg KC.toArray) ∧ (d 7 = true → x50 = .slice A n c) ∧ (d 8 = true → x51 = .agg UC.toArray)) [2, 3, 4, 5, 7, 8] ?step4 2 6 [2, 3, 4, 5, 7, 8] _ _ _ rfl (by decide) (fun _ h => h) (Fits.of (by kernel_rfl)) ?init4 ?fin4
      case init4 => refine ⟨_, _, _, _, _, _, rfl, Below.refl _ _, ?_, ?_, ?_, ?_, ?_, ?_⟩ <;> (intro h; exact absurd h (by decide))
      case step4 =>
        intro i hi d a v4 hI hdi hdeps
        obtain ⟨x45, x46, x47, x48, x50, x51, rfl, BW, h2, h3, h4, h5, h7, h8⟩ := hI
        have hsw := BW.out.size
        simp only [List.mem_cons, List.not_mem_nil, or_false] at hi
        rcases hi with rfl | rfl | rfl | rfl | rfl | rfl
        · have c0 : v4.cell? ⟨w.heap.size + 1 + 1 + 1, 0, none⟩ = some (.slice A n c) := L0.out _ _ (BPR7.out.below BW.out BPR7.out.lt)
          refine wpOp_step (o := ?os5) ?hos5 (fun K hK => ?_)
          case hos5 => simp only [zge]; rfl
          go_simp
          refine hK _ _ ?_
          clear hK K
          try simp only [zpt]
          exact ⟨_, _, _, _, _, _, rfl, BW, fun _ => rfl, fun a => by first | exact h3 (by simpa using a) | rfl, fun a => by first | exact h4 (by simpa using a) | rfl, fun a => by first | exact h5 (by simpa using a) | rfl, fun a => by first | exact h7 (by simpa using a) | rfl, fun a => by first | exact h8 (by simpa using a) | rfl⟩
        · obtain rfl := h2 (hdeps 2 (by simp))
          refine wpOp_step (o := ?os6) ?hos6 (fun K hK => ?_)
          case hos6 => simp only [zge]; rfl
          go_simp
          refine hK _ _ ?_
          clear hK K
          try simp only [zpt]
          exact ⟨_, _, _, _, _, _, rfl, BW, fun a => by first | exact h2 (by simpa using a) | rfl, fun _ => rfl, fun a => by first | exact h4 (by simpa using a) | rfl, fun a => by first | exact h5 (by simpa using a) | rfl, fun a => by first | exact h7 (by simpa using a) | rfl, fun a => by first | exact h8 (by simpa using a) | rfl⟩
        · obtain rfl := h3 (hdeps 3 (by simp))
          refine wpOp_step (o := ?os7) ?hos7 (fun K hK => ?_)
          case hos7 => simp only [zge]; rfl
          go_simp
          refine (CR7.out v4 BW.out).mono ?_
          rintro e u4 ⟨rfl, hX⟩
          refine hK _ _ ?_
          clear hK K
          try simp only [zpt]
          exact ⟨_, _, _, _, _, _, rfl, BW.out.trans (hX.mono hsw), fun a => by first | exact h2 (by simpa using a) | rfl, fun a => by first | exact h3 (by simpa using a) | rfl, fun _ => rfl, fun a => by first | exact h5 (by simpa using a) | rfl, fun a => by first | exact h7 (by simpa using a) | rfl, fun a => by first | exact h8 (by simpa using a) | rfl⟩
        · refine wpOp_step (o := ?os8) ?hos8 (fun K hK => ?_)
          case hos8 => simp only [zge]; rfl
          refine step_loadW rfl 30 (.tmp 5) rfl (w.heap.size + 1) 0 rfl KC _ Tryd.underlying30 rfl IK.out (BLB7.out.below BW.out BLB7.out.lt).cells (hK _ _ ?_)
          clear hK K
          try simp only [zpt]
          exact ⟨_, _, _, _, _, _, rfl, BW, fun a => by first | exact h2 (by simpa using a) | rfl, fun a => by first | exact h3 (by simpa using a) | rfl, fun a => by first | exact h4 (by simpa using a) | rfl, fun _ => rfl, fun a => by first | exact h7 (by simpa using a) | rfl, fun a => by first | exact h8 (by simpa using a) | rfl⟩
        · have c0 : v4.cell? ⟨w.heap.size + 1 + 1 + 1, 0, none⟩ = some (.slice A n c) := L0.out _ _ (BPR7.out.below BW.out BPR7.out.lt)
          refine wpOp_step (o := ?os9) ?hos9 (fun K hK => ?_)
          case hos9 => simp only [zge]; rfl
          go_simp
          refine hK _ _ ?_
          clear hK K
          try simp only [zpt]
          exact ⟨_, _, _, _, _, _, rfl, BW, fun a => by first | exact h2 (by simpa using a) | rfl, fun a => by first | exact h3 (by simpa using a) | rfl, fun a => by first | exact h4 (by simpa using a) | rfl, fun a => by first | exact h5 (by simpa using a) | rfl, fun _ => rfl, fun a => by first | exact h8 (by simpa using a) | rfl⟩
        · obtain rfl := h4 (hdeps 4 (by simp))
          obtain rfl := h5 (hdeps 5 (by simp))
          obtain rfl := h7 (hdeps 7 (by simp))
          refine wpOp_step (o := ?os10) ?hos10 (fun K hK => ?_)
          case hos10 => simp only [zge]; rfl
          go_simp
          refine (CU.out v4 (W7.out.trans (BW.out.mono W7.out.size))).mono ?_
          rintro e u4 ⟨rfl, hX⟩
          refine hK _ _ ?_
          clear hK K
          try simp only [zpt]
          exact ⟨_, _, _, _, _, _, rfl, BW.out.trans (hX.mono hsw), fun a => by first | exact h2 (by simpa using a) | rfl, fun a => by first | exact h3 (by simpa using a) | rfl, fun a => by first | exact h4 (by simpa using a) | rfl, fun a => by first | exact h5 (by simpa using a) | rfl, fun a => by first | exact h7 (by simpa using a) | rfl, fun _ => rfl⟩
      case fin4 =>
        intro a v4 hI
        obtain ⟨x45, x46, x47, x48, x50, x51, rfl, BW, h2, h3, h4, h5, h7, h8⟩ := hI
        obtain rfl := h2 (by decide)
        obtain rfl := h3 (by decide)
        obtain rfl := h4 (by decide)
        obtain rfl := h5 (by decide)
        obtain rfl := h7 (by decide)
        obtain rfl := h8 (by decide)
        have BRS8 := Lib.hid (BRS7.out.below BW.out BRS7.out.lt)
        have W8 := Lib.hid (W7.out.trans (BW.out.mono W7.out.size))
        clear BLB7 BPR7 BRS7 W7 BW CR7 CU
        try dsimp only
        refine wpAny_ready (rs := [9]) (by kernel_rfl) (by simp) ?_
        refine AllReady.cons (o := ?p11) ?q11 (fun K hK => ?_) AllReady.nil
        case q11 => simp only [zge]; rfl
        refine step_storeAll rfl 30 (.tmp 8) (.tmp 51) rfl (w.heap.size + 1 + 1 + 1 + 1) rfl UC rfl 30 Z BRS8.out IU.out LU.out OU.out (hK _ _ ?_)
        clear hK K
        try simp only [zpt]
        have B9 : Hid (Blk (v4.setRow (w.heap.size + 1 + 1 + 1 + 1) UC.toArray) (w.heap.size + 1 + 1 + 1 + 1) 30 UC) := BRS8.out.row
        have W9 : Hid (Below w.heap.size w (v4.setRow (w.heap.size + 1 + 1 + 1 + 1) UC.toArray)) := below_setRow W8.out (by omega) _
        generalize v4.setRow (w.heap.size + 1 + 1 + 1 + 1) UC.toArray = w9 at *
        refine wpAny_take (i := 10) (oi := ?oi12) (v := .bool true) ?hi12 (by kernel_rfl) (by kernel_rfl) (by kernel_rfl) ?hQ12 ?hy12 ?rest12
        case hi12 => simp only [zge]; rfl
        case hQ12 => exact fun _ _ _ h => h
        case hy12 => exact Or.inl ⟨by rfl, by intro w; go_simp⟩
        try simp only [zpt]
        refine wpAny_done (by kernel_rfl) ?_ _
        go_wp2_with fail
        exact bodyPost_ret (results_row_tmp rfl _ _ (w.heap.size + 1 + 1 + 1 + 1) 30 UC.toArray (0, 0) _ _ rfl rfl B9.out Tryd.underlying30 rfl (by rw [IU.out]; simp)) rfl ⟨by rw [EAF.out, ← EUC.out]; rfl, W9.out⟩
    | true =>
      cases there with
      | true =>
        have ET : Hid (tips = [(k, s)]) := by unfold Hid; rw [HTIPS.out]; rfl
        go_upto_region 7 with (fail)
        clear c1
        have hrt := Tm.root_length n tips
        have hul : (Tm.up (Tm.root n tips) k 0 p.sides).length = 32 := Tm.up_length hrt _ _
        have IU := Lib.hid (hash_info hul)
        have OU := Lib.hid (cells_u8 (Tm.up (Tm.root n tips) k 0 p.sides))
        have LU : Hid (Z.length = ((Tm.up (Tm.root n tips) k 0 p.sides).map cellOf).length) := by unfold Hid; rw [List.length_map, hul, HZL.out]
        have htl : tips.length ≤ 2 := by rw [ET.out]; simp
        have CR : Hid (∀ W, Below w4.heap.size w4 W → Calls Tryd.prog 18 #[.slice (some ⟨w3.heap.size, 0, none⟩) 1 1, .int .i64 (n : Int)] W fun e w' => e = .returned (hv (Tm.root n tips)) ∧ Below W.heap.size W w') := fun W hW => by
          have ho := O4.out.below hW
          rw [← ET.out] at ho
          obtain ⟨A', c', he, hR, _⟩ := ho.rd
          rw [he]
          have ft := FT.out
          rw [HLN.out] at ft
          exact rroot_any (257 - n) tips n (by have := H256.out; omega) hR ft (by simp [pairs]; omega)
        have CU : Hid (∀ W, Below w.heap.size w W → Calls Tryd.prog 43 #[hv (Tm.root n tips), hv k, .slice A n c] W fun e w' => e = .returned (hv (Tm.up (Tm.root n tips) k 0 p.sides)) ∧ Below W.heap.size W w') := fun W hW => rup_any (HRS.out.below hW) HEACH.out H256.out hrt HK.out
        unfold hv at CR CU
        rw [← EKC.out] at CU
        obtain ⟨TC, hTC⟩ : ∃ L, L = (Tm.root n tips).map cellOf := ⟨_, rfl⟩
        obtain ⟨UC, hUC⟩ : ∃ L, L = (Tm.up (Tm.root n tips) k 0 p.sides).map cellOf := ⟨_, rfl⟩
        rw [← hTC] at CR CU
        rw [← hUC] at CU IU OU LU
        have EUC := Lib.hid hUC
        have BLB7 := Lib.hid BLB4.out.drew
        have BPR7 := Lib.hid BPR4.out.drew
        have BRS7 := Lib.hid BRS4.out.drew
        have W7 := Lib.hid W4.out.drew
        have CR7 : Hid (∀ W, Below w4.drew.heap.size w4.drew W → Calls Tryd.prog 18 #[.slice (some ⟨w3.heap.size, 0, none⟩) 1 1, .int .i64 (n : Int)] W fun e w' => e = .returned (.agg TC.toArray) ∧ Below W.heap.size W w') := fun W hW => CR.out W ⟨hW.os, hW.tape, hW.output, hW.size, hW.block⟩
        refine wp_region_any (by kernel_rfl) ?_
        change wpAny _ _ _ _ _ _ _ (World.drew _)
        generalize w4.drew = wd at *
        clear hTC hUC hrt hul htl CR
        refine wpAny_take (i := 0) (oi := ?oi13) (v := .slice (some ⟨w3.heap.size, 0, none⟩) 1 1) ?hi13 (by kernel_rfl) (by kernel_rfl) (by kernel_rfl) ?hQ13 ?hy13 ?rest13
        case hi13 => simp only [zge]; rfl
        case hQ13 => exact fun _ _ _ h => h
        case hy13 => exact Or.inl ⟨by rfl, by intro w; go_simp⟩
        try simp only [zpt]
        refine wpAny_take (i := 1) (oi := ?oi14) (v := .pointer (some ⟨w.heap.size + 1 + 1 + 1, 0, none⟩)) ?hi14 (by kernel_rfl) (by kernel_rfl) (by kernel_rfl) ?hQ14 ?hy14 ?rest14
        case hi14 => simp only [zge]; rfl
        case hQ14 => exact fun _ _ _ h => h
        case hy14 => exact Or.inl ⟨by rfl, by intro w; go_simp⟩
        try simp only [zpt]
        refine wpAny_take (i := 6) (oi := ?oi15) (v := .pointer (some ⟨w.heap.size + 1 + 1 + 1, 0, none⟩)) ?hi15 (by kernel_rfl) (by kernel_rfl) (by kernel_rfl) ?hQ15 ?hy15 ?rest15
        case hi15 => simp only [zge]; rfl
        case hQ15 => exact fun _ _ _ h => h
        case hy15 => exact Or.inl ⟨by rfl, by intro w; go_simp⟩
        try simp only [zpt]
        refine phaseL (fun i => if i = 3 then [2] else if i = 4 then [3] else if i = 8 then [4, 5, 7] else []) (fun d a w' => ∃ x45 x46 x47 x48 x50 x51 : Value, a = { tmps := #[.agg RC.toArray, .agg KC.toArray, .agg SC.toArray, .agg PP.toArray, .pointer (some ⟨w.heap.size, 0, none⟩), .pointer (some ⟨w.heap.size + 1, 0, none⟩), .pointer (some ⟨w.heap.size + 1 + 1, 0, none⟩), .pointer (some ⟨w.heap.size + 1 + 1 + 1, 0, none⟩), .pointer (some ⟨w.heap.size + 1 + 1 + 1 + 1, 0, none⟩), .bool false, .pointer (some ⟨w2.heap.size, 0, none⟩), .bool true, .bool true, .slice (some ⟨w3.heap.size, 0, none⟩) 1 1, .tuple #[.agg VC.toArray, .bool true, .bool true], .agg RC.toArray, .agg KC.toArray, .agg PP.toArray, .tuple #[.agg VC.toArray, .bool true, .bool true], .agg VC.toArray, .bool true, .bool true, .bool true, .bool false, undef, .agg KC.toArray, .agg SC.toArray, .agg PL.toArray, .slice (some ⟨w3.heap.size, 0, none⟩) 1 1, .pointer (some ⟨w.heap.size + 1 + 1 + 1, 1, none⟩), .bool true, .bool true, .bool true, .bool false, .bool false, undef, undef, undef, undef, undef, undef, undef, undef, .slice (some ⟨w3.heap.size, 0, none⟩) 1 1, .pointer (some ⟨w.heap.size + 1 + 1 + 1, 0, none⟩), x45, x46, x47, x48, .pointer (some ⟨w.heap.size + 1 + 1 + 1, 0, none⟩), x50, x51], defers := [] } ∧ Hid (Below wd.heap.size wd w') ∧ (d 2 = true → x45 = .slice A n c) ∧ (d 3 = true → x46 = .int .i64 (n : Int)) ∧ (d 4 = true → x47 = .agg TC.toArray) ∧ (d 5 = true → x48 = .agg KC.toArray) ∧ (d 7 = true → x50 = .slice A n c) ∧ (d 8 = true → x51 = .agg UC.toArray)) [2, 3, 4, 5, 7, 8] ?step16 2 6 [2, 3, 4, 5, 7, 8] _ _ _ rfl (by decide) (fun _ h => h) (Fits.of (by kernel_rfl)) ?init16 ?fin16
        case init16 => refine ⟨_, _, _, _, _, _, rfl, Below.refl _ _, ?_, ?_, ?_, ?_, ?_, ?_⟩ <;> (intro h; exact absurd h (by decide))
        case step16 =>
          intro i hi d a v16 hI hdi hdeps
          obtain ⟨x45, x46, x47, x48, x50, x51, rfl, BW, h2, h3, h4, h5, h7, h8⟩ := hI
          have hsw := BW.out.size
          simp only [List.mem_cons, List.not_mem_nil, or_false] at hi
          rcases hi with rfl | rfl | rfl | rfl | rfl | rfl
          · have c0 : v16.cell? ⟨w.heap.size + 1 + 1 + 1, 0, none⟩ = some (.slice A n c) := L0.out _ _ (BPR7.out.below BW.out BPR7.out.lt)
            refine wpOp_step (o := ?os17) ?hos17 (fun K hK => ?_)
            case hos17 => simp only [zge]; rfl
            go_simp
            refine hK _ _ ?_
            clear hK K
            try simp only [zpt]
            exact ⟨_, _, _, _, _, _, rfl, BW, fun _ => rfl, fun a => by first | exact h3 (by simpa using a) | rfl, fun a => by first | exact h4 (by simpa using a) | rfl, fun a => by first | exact h5 (by simpa using a) | rfl, fun a => by first | exact h7 (by simpa using a) | rfl, fun a => by first | exact h8 (by simpa using a) | rfl⟩
          · obtain rfl := h2 (hdeps 2 (by simp))
            refine wpOp_step (o := ?os18) ?hos18 (fun K hK => ?_)
            case hos18 => simp only [zge]; rfl
            go_simp
            refine hK _ _ ?_
            clear hK K
            try simp only [zpt]
            exact ⟨_, _, _, _, _, _, rfl, BW, fun a => by first | exact h2 (by simpa using a) | rfl, fun _ => rfl, fun a => by first | exact h4 (by simpa using a) | rfl, fun a => by first | exact h5 (by simpa using a) | rfl, fun a => by first | exact h7 (by simpa using a) | rfl, fun a => by first | exact h8 (by simpa using a) | rfl⟩
          · obtain rfl := h3 (hdeps 3 (by simp))
            refine wpOp_step (o := ?os19) ?hos19 (fun K hK => ?_)
            case hos19 => simp only [zge]; rfl
            go_simp
            refine (CR7.out v16 BW.out).mono ?_
            rintro e u16 ⟨rfl, hX⟩
            refine hK _ _ ?_
            clear hK K
            try simp only [zpt]
            exact ⟨_, _, _, _, _, _, rfl, BW.out.trans (hX.mono hsw), fun a => by first | exact h2 (by simpa using a) | rfl, fun a => by first | exact h3 (by simpa using a) | rfl, fun _ => rfl, fun a => by first | exact h5 (by simpa using a) | rfl, fun a => by first | exact h7 (by simpa using a) | rfl, fun a => by first | exact h8 (by simpa using a) | rfl⟩
          · refine wpOp_step (o := ?os20) ?hos20 (fun K hK => ?_)
            case hos20 => simp only [zge]; rfl
            refine step_loadW rfl 30 (.tmp 5) rfl (w.heap.size + 1) 0 rfl KC _ Tryd.underlying30 rfl IK.out (BLB7.out.below BW.out BLB7.out.lt).cells (hK _ _ ?_)
            clear hK K
            try simp only [zpt]
            exact ⟨_, _, _, _, _, _, rfl, BW, fun a => by first | exact h2 (by simpa using a) | rfl, fun a => by first | exact h3 (by simpa using a) | rfl, fun a => by first | exact h4 (by simpa using a) | rfl, fun _ => rfl, fun a => by first | exact h7 (by simpa using a) | rfl, fun a => by first | exact h8 (by simpa using a) | rfl⟩
          · have c0 : v16.cell? ⟨w.heap.size + 1 + 1 + 1, 0, none⟩ = some (.slice A n c) := L0.out _ _ (BPR7.out.below BW.out BPR7.out.lt)
            refine wpOp_step (o := ?os21) ?hos21 (fun K hK => ?_)
            case hos21 => simp only [zge]; rfl
            go_simp
            refine hK _ _ ?_
            clear hK K
            try simp only [zpt]
            exact ⟨_, _, _, _, _, _, rfl, BW, fun a => by first | exact h2 (by simpa using a) | rfl, fun a => by first | exact h3 (by simpa using a) | rfl, fun a => by first | exact h4 (by simpa using a) | rfl, fun a => by first | exact h5 (by simpa using a) | rfl, fun _ => rfl, fun a => by first | exact h8 (by simpa using a) | rfl⟩
          · obtain rfl := h4 (hdeps 4 (by simp))
            obtain rfl := h5 (hdeps 5 (by simp))
            obtain rfl := h7 (hdeps 7 (by simp))
            refine wpOp_step (o := ?os22) ?hos22 (fun K hK => ?_)
            case hos22 => simp only [zge]; rfl
            go_simp
            refine (CU.out v16 (W7.out.trans (BW.out.mono W7.out.size))).mono ?_
            rintro e u16 ⟨rfl, hX⟩
            refine hK _ _ ?_
            clear hK K
            try simp only [zpt]
            exact ⟨_, _, _, _, _, _, rfl, BW.out.trans (hX.mono hsw), fun a => by first | exact h2 (by simpa using a) | rfl, fun a => by first | exact h3 (by simpa using a) | rfl, fun a => by first | exact h4 (by simpa using a) | rfl, fun a => by first | exact h5 (by simpa using a) | rfl, fun a => by first | exact h7 (by simpa using a) | rfl, fun _ => rfl⟩
        case fin16 =>
          intro a v16 hI
          obtain ⟨x45, x46, x47, x48, x50, x51, rfl, BW, h2, h3, h4, h5, h7, h8⟩ := hI
          obtain rfl := h2 (by decide)
          obtain rfl := h3 (by decide)
          obtain rfl := h4 (by decide)
          obtain rfl := h5 (by decide)
          obtain rfl := h7 (by decide)
          obtain rfl := h8 (by decide)
          have BRS8 := Lib.hid (BRS7.out.below BW.out BRS7.out.lt)
          have W8 := Lib.hid (W7.out.trans (BW.out.mono W7.out.size))
          clear BLB7 BPR7 BRS7 W7 BW CR7 CU
          try dsimp only
          refine wpAny_ready (rs := [9]) (by kernel_rfl) (by simp) ?_
          refine AllReady.cons (o := ?p23) ?q23 (fun K hK => ?_) AllReady.nil
          case q23 => simp only [zge]; rfl
          refine step_storeAll rfl 30 (.tmp 8) (.tmp 51) rfl (w.heap.size + 1 + 1 + 1 + 1) rfl UC rfl 30 Z BRS8.out IU.out LU.out OU.out (hK _ _ ?_)
          clear hK K
          try simp only [zpt]
          have B9 : Hid (Blk (v16.setRow (w.heap.size + 1 + 1 + 1 + 1) UC.toArray) (w.heap.size + 1 + 1 + 1 + 1) 30 UC) := BRS8.out.row
          have W9 : Hid (Below w.heap.size w (v16.setRow (w.heap.size + 1 + 1 + 1 + 1) UC.toArray)) := below_setRow W8.out (by omega) _
          generalize v16.setRow (w.heap.size + 1 + 1 + 1 + 1) UC.toArray = w9 at *
          refine wpAny_take (i := 10) (oi := ?oi24) (v := .bool true) ?hi24 (by kernel_rfl) (by kernel_rfl) (by kernel_rfl) ?hQ24 ?hy24 ?rest24
          case hi24 => simp only [zge]; rfl
          case hQ24 => exact fun _ _ _ h => h
          case hy24 => exact Or.inl ⟨by rfl, by intro w; go_simp⟩
          try simp only [zpt]
          refine wpAny_done (by kernel_rfl) ?_ _
          go_wp2_with fail
          exact bodyPost_ret (results_row_tmp rfl _ _ (w.heap.size + 1 + 1 + 1 + 1) 30 UC.toArray (0, 0) _ _ rfl rfl B9.out Tryd.underlying30 rfl (by rw [IU.out]; simp)) rfl ⟨by rw [EAF.out, ← EUC.out]; rfl, W9.out⟩
      | false =>
        have ET : Hid (tips = [(k, s), (p.lab, p.sum)]) := by unfold Hid; rw [HTIPS.out]; rfl
        go_upto_region 6 with (fail)
        clear c1
        refine wp_region_lit ?_
        have LA4 := Lib.hid (LA.out _ _ BPR4.out)
        have LM4 := Lib.hid (LM.out _ _ BPR4.out)
        have X5 := Lib.hid (alloc_below w4 (.cells PM.toArray 47))
        have hq := BP2.out w4
        rw [EPM.out] at hq
        obtain ⟨v5, w5, hrun, hO5, hG5, _⟩ := push_pair (ty := 25) (c := 1) (O4.out.below X5.out) (by rw [← EPM.out] at hq ⊢; exact hq) HLAB.out HSUM.out (by simp) (Nat.le_trans hw4 X5.out.size)
        have OWN := (O4.out.below X5.out).own
        have nv : ∀ m, m < w3.heap.size → some m ≠ (Value.slice (some ⟨w3.heap.size, 0, none⟩) 1 1).ownBlock := fun m hm e => by have h : m = w3.heap.size := Option.some.inj e; omega
        have BLB5 : Hid (Blk w5 (w.heap.size + 1) 30 KC) := (hG5.block _ (by have := X5.out.size; omega) (nv _ (by omega))).trans (BLB4.out.below X5.out BLB4.out.lt)
        have BPR5 : Hid (Blk w5 (w.heap.size + 1 + 1 + 1) 38 PP) := (hG5.block _ (by have := X5.out.size; omega) (nv _ (by omega))).trans (BPR4.out.below X5.out BPR4.out.lt)
        have BRS5 : Hid (Blk w5 (w.heap.size + 1 + 1 + 1 + 1) 30 Z) := (hG5.block _ (by have := X5.out.size; omega) (nv _ (by omega))).trans (BRS4.out.below X5.out BRS4.out.lt)
        have W5 : Hid (Below w.heap.size w w5) := (W4.out.trans (X5.out.mono W4.out.size)).grown hG5 (by have := X5.out.size; omega) (fun m hm => by have h : w3.heap.size = m := Option.some.inj hm; omega)
        have O5 : Hid (Ow2 w5 w3.heap.size 47 64 v5 (pairs [(k, s), (p.lab, p.sum)])) := hO5
        clear hO5 hG5 OWN nv hq
        refine wpList_plain rfl fun K hK => ?_
        go_simp
        refine hK _ _ ?_
        clear hK K
        try simp only [zpt]
        refine wpList_plain rfl fun K hK => ?_
        go_simp
        refine hK _ _ ?_
        clear hK K
        try simp only [zpt]
        refine load_law rfl 30 (.tmp 36) rfl (w.heap.size + 1 + 1 + 1) 2 rfl AC _ Tryd.underlying30 rfl IA.out LA4.out ?_
        try simp only [zpt]
        refine wpList_plain rfl fun K hK => ?_
        go_simp
        refine hK _ _ ?_
        clear hK K
        try simp only [zpt]
        refine load_law rfl 30 (.tmp 38) rfl (w.heap.size + 1 + 1 + 1) 34 rfl MC _ Tryd.underlying30 rfl IM.out LM4.out ?_
        try simp only [zpt]
        refine build_law rfl 47 #[(0, .tmp 37), (1, .tmp 39)] rfl PM (by simp only [List.map_toArray, List.map_cons, List.map_nil]; exact HP2.out) ?_
        try simp only [zpt]
        refine bslice_law rfl 25 1 #[(0, .tmp 40)] rfl (by simp only [List.map_toArray, List.map_cons, List.map_nil]; exact ROW2.out w4) ?_
        try simp only [zpt]
        refine append_law rfl (.tmp 35) (.tmp 41) 25 25 rfl rfl rfl hrun ?_
        try simp only [zpt]
        clear hrun
        go_upto_region 7 with (fail)
        have hrt := Tm.root_length n tips
        have hul : (Tm.up (Tm.root n tips) k 0 p.sides).length = 32 := Tm.up_length hrt _ _
        have IU := Lib.hid (hash_info hul)
        have OU := Lib.hid (cells_u8 (Tm.up (Tm.root n tips) k 0 p.sides))
        have LU : Hid (Z.length = ((Tm.up (Tm.root n tips) k 0 p.sides).map cellOf).length) := by unfold Hid; rw [List.length_map, hul, HZL.out]
        have htl : tips.length ≤ 2 := by rw [ET.out]; simp
        have CR : Hid (∀ W, Below w5.heap.size w5 W → Calls Tryd.prog 18 #[v5, .int .i64 (n : Int)] W fun e w' => e = .returned (hv (Tm.root n tips)) ∧ Below W.heap.size W w') := fun W hW => by
          have ho := O5.out.below hW
          rw [← ET.out] at ho
          obtain ⟨A', c', he, hR, _⟩ := ho.rd
          rw [he]
          have ft := FT.out
          rw [HLN.out] at ft
          exact rroot_any (257 - n) tips n (by have := H256.out; omega) hR ft (by simp [pairs]; omega)
        have CU : Hid (∀ W, Below w.heap.size w W → Calls Tryd.prog 43 #[hv (Tm.root n tips), hv k, .slice A n c] W fun e w' => e = .returned (hv (Tm.up (Tm.root n tips) k 0 p.sides)) ∧ Below W.heap.size W w') := fun W hW => rup_any (HRS.out.below hW) HEACH.out H256.out hrt HK.out
        unfold hv at CR CU
        rw [← EKC.out] at CU
        obtain ⟨TC, hTC⟩ : ∃ L, L = (Tm.root n tips).map cellOf := ⟨_, rfl⟩
        obtain ⟨UC, hUC⟩ : ∃ L, L = (Tm.up (Tm.root n tips) k 0 p.sides).map cellOf := ⟨_, rfl⟩
        rw [← hTC] at CR CU
        rw [← hUC] at CU IU OU LU
        have EUC := Lib.hid hUC
        have BLB7 := Lib.hid BLB5.out.drew
        have BPR7 := Lib.hid BPR5.out.drew
        have BRS7 := Lib.hid BRS5.out.drew
        have W7 := Lib.hid W5.out.drew
        have CR7 : Hid (∀ W, Below w5.drew.heap.size w5.drew W → Calls Tryd.prog 18 #[v5, .int .i64 (n : Int)] W fun e w' => e = .returned (.agg TC.toArray) ∧ Below W.heap.size W w') := fun W hW => CR.out W ⟨hW.os, hW.tape, hW.output, hW.size, hW.block⟩
        refine wp_region_any (by kernel_rfl) ?_
        change wpAny _ _ _ _ _ _ _ (World.drew _)
        generalize w5.drew = wd at *
        clear hTC hUC hrt hul htl CR
        refine wpAny_take (i := 0) (oi := ?oi25) (v := v5) ?hi25 (by kernel_rfl) (by kernel_rfl) (by kernel_rfl) ?hQ25 ?hy25 ?rest25
        case hi25 => simp only [zge]; rfl
        case hQ25 => exact fun _ _ _ h => h
        case hy25 => exact Or.inl ⟨by rfl, by intro w; go_simp⟩
        try simp only [zpt]
        refine wpAny_take (i := 1) (oi := ?oi26) (v := .pointer (some ⟨w.heap.size + 1 + 1 + 1, 0, none⟩)) ?hi26 (by kernel_rfl) (by kernel_rfl) (by kernel_rfl) ?hQ26 ?hy26 ?rest26
        case hi26 => simp only [zge]; rfl
        case hQ26 => exact fun _ _ _ h => h
        case hy26 => exact Or.inl ⟨by rfl, by intro w; go_simp⟩
        try simp only [zpt]
        refine wpAny_take (i := 6) (oi := ?oi27) (v := .pointer (some ⟨w.heap.size + 1 + 1 + 1, 0, none⟩)) ?hi27 (by kernel_rfl) (by kernel_rfl) (by kernel_rfl) ?hQ27 ?hy27 ?rest27
        case hi27 => simp only [zge]; rfl
        case hQ27 => exact fun _ _ _ h => h
        case hy27 => exact Or.inl ⟨by rfl, by intro w; go_simp⟩
        try simp only [zpt]
        refine phaseL (fun i => if i = 3 then [2] else if i = 4 then [3] else if i = 8 then [4, 5, 7] else []) (fun d a w' => ∃ x45 x46 x47 x48 x50 x51 : Value, a = { tmps := #[.agg RC.toArray, .agg KC.toArray, .agg SC.toArray, .agg PP.toArray, .pointer (some ⟨w.heap.size, 0, none⟩), .pointer (some ⟨w.heap.size + 1, 0, none⟩), .pointer (some ⟨w.heap.size + 1 + 1, 0, none⟩), .pointer (some ⟨w.heap.size + 1 + 1 + 1, 0, none⟩), .pointer (some ⟨w.heap.size + 1 + 1 + 1 + 1, 0, none⟩), .bool false, .pointer (some ⟨w2.heap.size, 0, none⟩), .bool false, .bool true, v5, .tuple #[.agg VC.toArray, .bool false, .bool true], .agg RC.toArray, .agg KC.toArray, .agg PP.toArray, .tuple #[.agg VC.toArray, .bool false, .bool true], .agg VC.toArray, .bool false, .bool true, .bool true, .bool false, undef, .agg KC.toArray, .agg SC.toArray, .agg PL.toArray, .slice (some ⟨w3.heap.size, 0, none⟩) 1 1, .pointer (some ⟨w.heap.size + 1 + 1 + 1, 1, none⟩), .bool true, .bool true, .bool false, .bool true, .bool true, .slice (some ⟨w3.heap.size, 0, none⟩) 1 1, .pointer (some ⟨w.heap.size + 1 + 1 + 1, 2, none⟩), .agg AC.toArray, .pointer (some ⟨w.heap.size + 1 + 1 + 1, 34, none⟩), .agg MC.toArray, .agg PM.toArray, .slice (some ⟨w4.heap.size, 0, none⟩) 1 1, v5, v5, .pointer (some ⟨w.heap.size + 1 + 1 + 1, 0, none⟩), x45, x46, x47, x48, .pointer (some ⟨w.heap.size + 1 + 1 + 1, 0, none⟩), x50, x51], defers := [] } ∧ Hid (Below wd.heap.size wd w') ∧ (d 2 = true → x45 = .slice A n c) ∧ (d 3 = true → x46 = .int .i64 (n : Int)) ∧ (d 4 = true → x47 = .agg TC.toArray) ∧ (d 5 = true → x48 = .agg KC.toArray) ∧ (d 7 = true → x50 = .slice A n c) ∧ (d 8 = true → x51 = .agg UC.toArray)) [2, 3, 4, 5, 7, 8] ?step28 2 6 [2, 3, 4, 5, 7, 8] _ _ _ rfl (by decide) (fun _ h => h) (Fits.of (by kernel_rfl)) ?init28 ?fin28
        case init28 => refine ⟨_, _, _, _, _, _, rfl, Below.refl _ _, ?_, ?_, ?_, ?_, ?_, ?_⟩ <;> (intro h; exact absurd h (by decide))
        case step28 =>
          intro i hi d a v28 hI hdi hdeps
          obtain ⟨x45, x46, x47, x48, x50, x51, rfl, BW, h2, h3, h4, h5, h7, h8⟩ := hI
          have hsw := BW.out.size
          simp only [List.mem_cons, List.not_mem_nil, or_false] at hi
          rcases hi with rfl | rfl | rfl | rfl | rfl | rfl
          · have c0 : v28.cell? ⟨w.heap.size + 1 + 1 + 1, 0, none⟩ = some (.slice A n c) := L0.out _ _ (BPR7.out.below BW.out BPR7.out.lt)
            refine wpOp_step (o := ?os29) ?hos29 (fun K hK => ?_)
            case hos29 => simp only [zge]; rfl
            go_simp
            refine hK _ _ ?_
            clear hK K
            try simp only [zpt]
            exact ⟨_, _, _, _, _, _, rfl, BW, fun _ => rfl, fun a => by first | exact h3 (by simpa using a) | rfl, fun a => by first | exact h4 (by simpa using a) | rfl, fun a => by first | exact h5 (by simpa using a) | rfl, fun a => by first | exact h7 (by simpa using a) | rfl, fun a => by first | exact h8 (by simpa using a) | rfl⟩
          · obtain rfl := h2 (hdeps 2 (by simp))
            refine wpOp_step (o := ?os30) ?hos30 (fun K hK => ?_)
            case hos30 => simp only [zge]; rfl
            go_simp
            refine hK _ _ ?_
            clear hK K
            try simp only [zpt]
            exact ⟨_, _, _, _, _, _, rfl, BW, fun a => by first | exact h2 (by simpa using a) | rfl, fun _ => rfl, fun a => by first | exact h4 (by simpa using a) | rfl, fun a => by first | exact h5 (by simpa using a) | rfl, fun a => by first | exact h7 (by simpa using a) | rfl, fun a => by first | exact h8 (by simpa using a) | rfl⟩
          · obtain rfl := h3 (hdeps 3 (by simp))
            refine wpOp_step (o := ?os31) ?hos31 (fun K hK => ?_)
            case hos31 => simp only [zge]; rfl
            go_simp
            refine (CR7.out v28 BW.out).mono ?_
            rintro e u28 ⟨rfl, hX⟩
            refine hK _ _ ?_
            clear hK K
            try simp only [zpt]
            exact ⟨_, _, _, _, _, _, rfl, BW.out.trans (hX.mono hsw), fun a => by first | exact h2 (by simpa using a) | rfl, fun a => by first | exact h3 (by simpa using a) | rfl, fun _ => rfl, fun a => by first | exact h5 (by simpa using a) | rfl, fun a => by first | exact h7 (by simpa using a) | rfl, fun a => by first | exact h8 (by simpa using a) | rfl⟩
          · refine wpOp_step (o := ?os32) ?hos32 (fun K hK => ?_)
            case hos32 => simp only [zge]; rfl
            refine step_loadW rfl 30 (.tmp 5) rfl (w.heap.size + 1) 0 rfl KC _ Tryd.underlying30 rfl IK.out (BLB7.out.below BW.out BLB7.out.lt).cells (hK _ _ ?_)
            clear hK K
            try simp only [zpt]
            exact ⟨_, _, _, _, _, _, rfl, BW, fun a => by first | exact h2 (by simpa using a) | rfl, fun a => by first | exact h3 (by simpa using a) | rfl, fun a => by first | exact h4 (by simpa using a) | rfl, fun _ => rfl, fun a => by first | exact h7 (by simpa using a) | rfl, fun a => by first | exact h8 (by simpa using a) | rfl⟩
          · have c0 : v28.cell? ⟨w.heap.size + 1 + 1 + 1, 0, none⟩ = some (.slice A n c) := L0.out _ _ (BPR7.out.below BW.out BPR7.out.lt)
            refine wpOp_step (o := ?os33) ?hos33 (fun K hK => ?_)
            case hos33 => simp only [zge]; rfl
            go_simp
            refine hK _ _ ?_
            clear hK K
            try simp only [zpt]
            exact ⟨_, _, _, _, _, _, rfl, BW, fun a => by first | exact h2 (by simpa using a) | rfl, fun a => by first | exact h3 (by simpa using a) | rfl, fun a => by first | exact h4 (by simpa using a) | rfl, fun a => by first | exact h5 (by simpa using a) | rfl, fun _ => rfl, fun a => by first | exact h8 (by simpa using a) | rfl⟩
          · obtain rfl := h4 (hdeps 4 (by simp))
            obtain rfl := h5 (hdeps 5 (by simp))
            obtain rfl := h7 (hdeps 7 (by simp))
            refine wpOp_step (o := ?os34) ?hos34 (fun K hK => ?_)
            case hos34 => simp only [zge]; rfl
            go_simp
            refine (CU.out v28 (W7.out.trans (BW.out.mono W7.out.size))).mono ?_
            rintro e u28 ⟨rfl, hX⟩
            refine hK _ _ ?_
            clear hK K
            try simp only [zpt]
            exact ⟨_, _, _, _, _, _, rfl, BW.out.trans (hX.mono hsw), fun a => by first | exact h2 (by simpa using a) | rfl, fun a => by first | exact h3 (by simpa using a) | rfl, fun a => by first | exact h4 (by simpa using a) | rfl, fun a => by first | exact h5 (by simpa using a) | rfl, fun a => by first | exact h7 (by simpa using a) | rfl, fun _ => rfl⟩
        case fin28 =>
          intro a v28 hI
          obtain ⟨x45, x46, x47, x48, x50, x51, rfl, BW, h2, h3, h4, h5, h7, h8⟩ := hI
          obtain rfl := h2 (by decide)
          obtain rfl := h3 (by decide)
          obtain rfl := h4 (by decide)
          obtain rfl := h5 (by decide)
          obtain rfl := h7 (by decide)
          obtain rfl := h8 (by decide)
          have BRS8 := Lib.hid (BRS7.out.below BW.out BRS7.out.lt)
          have W8 := Lib.hid (W7.out.trans (BW.out.mono W7.out.size))
          clear BLB7 BPR7 BRS7 W7 BW CR7 CU
          try dsimp only
          refine wpAny_ready (rs := [9]) (by kernel_rfl) (by simp) ?_
          refine AllReady.cons (o := ?p35) ?q35 (fun K hK => ?_) AllReady.nil
          case q35 => simp only [zge]; rfl
          refine step_storeAll rfl 30 (.tmp 8) (.tmp 51) rfl (w.heap.size + 1 + 1 + 1 + 1) rfl UC rfl 30 Z BRS8.out IU.out LU.out OU.out (hK _ _ ?_)
          clear hK K
          try simp only [zpt]
          have B9 : Hid (Blk (v28.setRow (w.heap.size + 1 + 1 + 1 + 1) UC.toArray) (w.heap.size + 1 + 1 + 1 + 1) 30 UC) := BRS8.out.row
          have W9 : Hid (Below w.heap.size w (v28.setRow (w.heap.size + 1 + 1 + 1 + 1) UC.toArray)) := below_setRow W8.out (by omega) _
          generalize v28.setRow (w.heap.size + 1 + 1 + 1 + 1) UC.toArray = w9 at *
          refine wpAny_take (i := 10) (oi := ?oi36) (v := .bool true) ?hi36 (by kernel_rfl) (by kernel_rfl) (by kernel_rfl) ?hQ36 ?hy36 ?rest36
          case hi36 => simp only [zge]; rfl
          case hQ36 => exact fun _ _ _ h => h
          case hy36 => exact Or.inl ⟨by rfl, by intro w; go_simp⟩
          try simp only [zpt]
          refine wpAny_done (by kernel_rfl) ?_ _
          go_wp2_with fail
          exact bodyPost_ret (results_row_tmp rfl _ _ (w.heap.size + 1 + 1 + 1 + 1) 30 UC.toArray (0, 0) _ _ rfl rfl B9.out Tryd.underlying30 rfl (by rw [IU.out]; simp)) rfl ⟨by rw [EAF.out, ← EUC.out]; rfl, W9.out⟩
end Go.Proofs.YtmidbpjdpakkoaaDoor
