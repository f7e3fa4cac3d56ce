import Derived.Test.YtmidbpjdpakkoaaDoorSTj
namespace Go.Proofs.YtmidbpjdpakkoaaDoor
set_option linter.unusedVariables false
set_option linter.unusedSimpArgs false
set_option maxRecDepth 100000
open Go.RowKit
def RootC (f : Nat) : Prop := ∀ {w : World} {A : Option Addr} {n c : Nat} (l : List Tm.P) (d : Nat), f + d = 257 → Rd2 w 64 A n c (pairs l) → Tm.Fit d l → n ≤ 900 → Calls Tryd.prog 18 #[.slice A n c, .int .i64 (d : Int)] w fun e w' => e = .returned (hv (Tm.root d l)) ∧ Below w.heap.size w w'
set_option maxRecDepth 100000 in
set_option maxHeartbeats 1000000 in
theorem rroot0 {w : World} {A : Option Addr} {c : Nat} (dp : Nat) : Calls Tryd.prog 18 #[.slice A 0 c, .int .i64 (dp : Int)] w fun e w' => e = .returned (hv (Tm.root dp [])) ∧ Below w.heap.size w w' := by
  rw [Tm.root_nil, hv_none]
  have X1 := Lib.hid (alloc_below w (.cells (List.replicate 32 (Value.int .u8 0)).toArray 30))
  have B1 := Lib.hid (Blk.new w 30 (List.replicate 32 (Value.int .u8 0)))
  have HI := Lib.hid zero_info
  have HO := Lib.hid zero_one
  have HB := Lib.hid zero_built
  obtain ⟨D, hD⟩ : ∃ Z, Z = List.replicate 32 (Value.int .u8 0) := ⟨_, rfl⟩
  rw [← hD] at HI HO HB ⊢
  have HD : Hid (D = D) := rfl
  go_enter Tryd.func18, Tryd.ntmps18
  go_upto_region 1 with (fail)
  change Code.wp _ _ _ _ (w.alloc (.cells (List.replicate 32 (Value.int .u8 0)).toArray 30))
  generalize w.alloc (.cells (List.replicate 32 (Value.int .u8 0)).toArray 30) = w1 at *
  rw [← hD] at B1
  clear hD
  go_wp2_with (first
    | (with_reducible refine build_law rfl 30 #[] rfl D (by simp only [List.map_toArray, List.map_nil]; exact HB.out) ?_)
    | ((with_reducible refine storeGen_law rfl 30 (.tmp 4) (.tmp 11) rfl w.heap.size rfl D rfl 30 D HI.out rfl HO.out w.heap.size w B1.out X1.out (Nat.le_refl _) ?_); intro w9 B9 W9))
  exact bodyPost_ret (results_cell_row rfl _ _ w.heap.size 30 D.toArray (0, 0) _ rfl B9.out Tryd.underlying30 rfl (by rw [HI.out]; simp)) rfl ⟨rfl, W9.out⟩
set_option maxRecDepth 100000 in
set_option maxHeartbeats 1000000 in
theorem rroot1 {w : World} {A : Option Addr} {c : Nat} {p : Tm.P} (hr : Rd2 w 64 A 1 c (pairs [p])) (hp1 : p.1.length = 32) (hp2 : p.2.length = 32) (dp : Nat) : Calls Tryd.prog 18 #[.slice A 1 c, .int .i64 (dp : Int)] w fun e w' => e = .returned (hv (Tm.root dp [p])) ∧ Below w.heap.size w w' := by
  rw [Tm.root_one]
  have X1 := Lib.hid (alloc_below w (.cells (List.replicate 32 (Value.int .u8 0)).toArray 30))
  have B1 := Lib.hid (Blk.new w 30 (List.replicate 32 (Value.int .u8 0)))
  obtain ⟨q, f0, rfl, hb3, _, _, hx1, hx2⟩ := rd2_pair (hr.below X1.out) (l := [p]) (by simpa using ⟨hp1, hp2⟩) (k := 0) (by simp)
  have hx1 : ∀ i x, (p.1.map cellOf)[i]? = some x → (w.alloc (.cells (List.replicate 32 (Value.int .u8 0)).toArray 30)).cell? ⟨q, f0 + i, none⟩ = some x := by simpa using hx1
  have hx2 : ∀ i x, (p.2.map cellOf)[i]? = some x → (w.alloc (.cells (List.replicate 32 (Value.int .u8 0)).toArray 30)).cell? ⟨q, f0 + 32 + i, none⟩ = some x := by simpa using hx2
  have hi : ∀ W, (Instr.indexAt 25 (.slice (some ⟨q, f0, none⟩) 1 c) (.int .i64 0)).run Tryd.prog W = .ok (.pointer (some ⟨q, f0, none⟩)) W := fun W => by have := index_pair q f0 1 c 0 (by omega) W; simpa using this
  have hqw : q < w.heap.size := by
    obtain ⟨b4, f4, e4, h4, _⟩ := rd2_pair hr (l := [p]) (by simpa using ⟨hp1, hp2⟩) (k := 0) (by simp)
    injection e4 with e4
    injection e4 with e4 _
    rw [e4]; exact h4
  have HI1 := Lib.hid (hash_info hp1)
  have HI2 := Lib.hid (hash_info hp2)
  have CL : Hid (∀ W, Calls Tryd.prog 33 #[hv p.1, hv p.2] W fun e w' => e = .returned (hv (Tm.leaf p.1 p.2)) ∧ Below W.heap.size W w') := fun W => rleaf_any hp1 hp2
  have hl := Tm.leaf_length p.1 p.2
  have HI := Lib.hid (hash_info hl)
  have HO := Lib.hid (cells_u8 (Tm.leaf p.1 p.2))
  have HN : Hid ((List.replicate 32 (Value.int .u8 0)).length = ((Tm.leaf p.1 p.2).map cellOf).length) := by unfold Hid; rw [List.length_map, hl]; rfl
  unfold hv at CL ⊢
  obtain ⟨D, hD⟩ : ∃ D, D = (Tm.leaf p.1 p.2).map cellOf := ⟨_, rfl⟩
  have HD := Lib.hid hD
  rw [← hD] at HI HO HN CL
  obtain ⟨L, hL⟩ : ∃ L, L = p.1.map cellOf := ⟨_, rfl⟩
  obtain ⟨S, hS⟩ : ∃ L, L = p.2.map cellOf := ⟨_, rfl⟩
  rw [← hL] at CL HI1 hx1
  rw [← hS] at CL HI2 hx2
  have HX1 := Lib.hid hx1
  have HX2 := Lib.hid hx2
  clear hD hL hS hl hr hx1 hx2 hb3
  go_enter Tryd.func18, Tryd.ntmps18
  go_upto_region 1 with (fail)
  change Code.wp _ _ _ _ (w.alloc (.cells (List.replicate 32 (Value.int .u8 0)).toArray 30))
  generalize w.alloc (.cells (List.replicate 32 (Value.int .u8 0)).toArray 30) = w1 at *
  go_upto_region 5 with (fail)
  refine wp_region_any (by kernel_rfl) ?_
  replace B1 := Lib.hid B1.out.drew
  have HX1' : Hid (∀ i x, L[i]? = some x → w1.drew.cell? ⟨q, f0 + i, none⟩ = some x) := HX1.out
  have HX2' : Hid (∀ i x, S[i]? = some x → w1.drew.cell? ⟨q, f0 + 32 + i, none⟩ = some x) := HX2.out
  replace X1 := Lib.hid X1.out.drew
  have hq1 : q < w1.drew.heap.size := Nat.lt_of_lt_of_le hqw X1.out.size
  change wpAny _ _ _ _ _ _ _ (World.drew _)
  generalize w1.drew = wd at *
  clear HX1 HX2
  refine wpAny_take (i := 0) (oi := ?oi1) (v := .slice (some ⟨q, f0, none⟩) 1 c) ?hi1 (by kernel_rfl) (by kernel_rfl) (by kernel_rfl) ?hQ1 ?hy1 ?rest1
  case hi1 => simp only [zge]; rfl
  case hQ1 => exact fun _ _ _ h => h
  case hy1 => exact Or.inl ⟨by rfl, by intro w; go_simp⟩
  try simp only [zpt]
  refine wpAny_take (i := 1) (oi := ?oi2) (v := .pointer (some ⟨q, f0, none⟩)) ?hi2 (by kernel_rfl) (by kernel_rfl) (by kernel_rfl) ?hQ2 ?hy2 ?rest2
  case hi2 => simp only [zge]; rfl
  case hQ2 => exact fun _ _ _ h => h
  case hy2 => exact Or.inl ⟨by rfl, by intro w; go_simp⟩
  try simp only [zpt]
  refine wpAny_take (i := 2) (oi := ?oi3) (v := .pointer (some ⟨q, f0, none⟩)) ?hi3 (by kernel_rfl) (by kernel_rfl) (by kernel_rfl) ?hQ3 ?hy3 ?rest3
  case hi3 => simp only [zge]; rfl
  case hQ3 => exact fun _ _ _ h => h
  case hy3 => exact Or.inl ⟨by rfl, by intro w; go_simp⟩
  try simp only [zpt]
  refine wpAny_take (i := 4) (oi := ?oi4) (v := .slice (some ⟨q, f0, none⟩) 1 c) ?hi4 (by kernel_rfl) (by kernel_rfl) (by kernel_rfl) ?hQ4 ?hy4 ?rest4
  case hi4 => simp only [zge]; rfl
  case hQ4 => exact fun _ _ _ h => h
  case hy4 => exact Or.inl ⟨by rfl, by intro w; go_simp⟩
  try simp only [zpt]
  refine wpAny_take (i := 5) (oi := ?oi5) (v := .pointer (some ⟨q, f0, none⟩)) ?hi5 (by kernel_rfl) (by kernel_rfl) (by kernel_rfl) ?hQ5 ?hy5 ?rest5
  case hi5 => simp only [zge]; rfl
  case hQ5 => exact fun _ _ _ h => h
  case hy5 => exact Or.inl ⟨by rfl, by intro w; go_simp⟩
  try simp only [zpt]
  refine wpAny_take (i := 6) (oi := ?oi6) (v := .pointer (some ⟨q, f0 + 32, none⟩)) ?hi6 (by kernel_rfl) (by kernel_rfl) (by kernel_rfl) ?hQ6 ?hy6 ?rest6
  case hi6 => simp only [zge]; rfl
  case hQ6 => exact fun _ _ _ h => h
  case hy6 => exact Or.inl ⟨by rfl, by intro w; go_simp⟩
  try simp only [zpt]
  refine phaseL (fun i => []) (fun d a w' => ∃ x17 x21 : Value, a = { tmps := #[.slice (some ⟨q, f0, none⟩) 1 c, .int .i64 (dp : Int), undef, undef, .pointer (some ⟨w.heap.size, 0, none⟩), undef, undef, .slice (some ⟨q, f0, none⟩) 1 c, .int .i64 1, .bool false, .bool false, undef, .bool true, .bool true, .slice (some ⟨q, f0, none⟩) 1 c, .pointer (some ⟨q, f0, none⟩), .pointer (some ⟨q, f0, none⟩), x17, .slice (some ⟨q, f0, none⟩) 1 c, .pointer (some ⟨q, f0, none⟩), .pointer (some ⟨q, f0 + 32, none⟩), x21, undef, undef, undef, undef, undef, undef, undef, undef, undef, undef, undef, undef, undef, undef, undef, undef], defers := [] } ∧ Hid (Below wd.heap.size wd w') ∧ (d 3 = true → x17 = .agg L.toArray) ∧ (d 7 = true → x21 = .agg S.toArray)) [3, 7] ?step7 2 2 [3, 7] _ _ _ rfl (by decide) (fun _ h => h) (Fits.of (by kernel_rfl)) ?init7 ?fin7
  case init7 => refine ⟨_, _, rfl, Below.refl _ _, ?_, ?_⟩ <;> (intro h; exact absurd h (by decide))
  case step7 =>
    intro i hi d a v7 hI hdi hdeps
    obtain ⟨x17, x21, rfl, BW, h3, h7⟩ := hI
    have hsw := BW.out.size
    simp only [List.mem_cons, List.not_mem_nil, or_false] at hi
    rcases hi with rfl | rfl
    · refine wpOp_step (o := ?os8) ?hos8 (fun K hK => ?_)
      case hos8 => simp only [zge]; rfl
      refine step_loadW rfl 30 (.tmp 16) rfl q f0 rfl L _ Tryd.underlying30 rfl HI1.out (fun i x hx => (World.cell?_of_block (a := ⟨q, f0 + i, none⟩) (BW.out.block q hq1)).trans (HX1'.out i x hx)) (hK _ _ ?_)
      clear hK K
      try simp only [zpt]
      exact ⟨_, _, rfl, BW, fun _ => rfl, fun a => by first | exact h7 (by simpa using a) | rfl⟩
    · refine wpOp_step (o := ?os9) ?hos9 (fun K hK => ?_)
      case hos9 => simp only [zge]; rfl
      refine step_loadW rfl 30 (.tmp 20) rfl q (f0 + 32) rfl S _ Tryd.underlying30 rfl HI2.out (fun i x hx => (World.cell?_of_block (a := ⟨q, f0 + 32 + i, none⟩) (BW.out.block q hq1)).trans (HX2'.out i x hx)) (hK _ _ ?_)
      clear hK K
      try simp only [zpt]
      exact ⟨_, _, rfl, BW, fun a => by first | exact h3 (by simpa using a) | rfl, fun _ => rfl⟩
  case fin7 =>
    intro a v7 hI
    obtain ⟨x17, x21, rfl, BW, h3, h7⟩ := hI
    obtain rfl := h3 (by decide)
    obtain rfl := h7 (by decide)
    have W2 := Lib.hid (X1.out.trans (BW.out.mono X1.out.size))
    have B2 := Lib.hid (B1.out.below BW.out B1.out.lt)
    clear BW X1 B1
    try dsimp only
    refine wpAny_ready (rs := [8]) (by kernel_rfl) (by simp) ?_
    refine AllReady.cons (o := ?p10) ?q10 (fun K hK => ?_) AllReady.nil
    case q10 => simp only [zge]; rfl
    go_simp
    refine (CL.out v7).mono ?_
    rintro e w3 ⟨rfl, hX⟩
    have W3 := Lib.hid (W2.out.trans (hX.mono W2.out.size))
    have B3 := Lib.hid (B2.out.below hX B2.out.lt)
    clear hX
    refine hK _ _ ?_
    clear hK K
    try simp only [zpt]
    refine wpAny_ready (rs := [9]) (by kernel_rfl) (by simp) ?_
    refine AllReady.cons (o := ?p11) ?q11 (fun K hK => ?_) AllReady.nil
    case q11 => simp only [zge]; rfl
    refine step_storeAll rfl 30 (.tmp 4) (.tmp 22) rfl w.heap.size rfl D rfl 30 (List.replicate 32 (Value.int .u8 0)) B3.out HI.out HN.out HO.out (hK _ _ ?_)
    clear hK K
    try simp only [zpt]
    have B9 : Hid (Blk (w3.setRow w.heap.size D.toArray) w.heap.size 30 D) := B3.out.row
    have W9 : Hid (Below w.heap.size w (w3.setRow w.heap.size D.toArray)) := below_setRow W3.out (Nat.le_refl _) _
    generalize w3.setRow w.heap.size D.toArray = w9 at *
    refine wpAny_done (by kernel_rfl) ?_ _
    go_wp2_with fail
    exact bodyPost_ret (results_cell_row rfl _ _ w.heap.size 30 D.toArray (0, 0) _ rfl B9.out Tryd.underlying30 rfl (by rw [HI.out]; simp)) rfl ⟨by rw [HD.out], W9.out⟩
set_option maxRecDepth 100000 in
set_option maxHeartbeats 600000 in
theorem rrootN {w : World} {A : Option Addr} {n c : Nat} {l : List Tm.P} {dp f : Nat} (hr : Rd2 w 64 A n c (pairs l)) (hf : Tm.Fit dp l) (hn : n ≤ 900) (h2 : 2 ≤ n) (hfd : f + (dp + 1) = 257) (ih : RootC f) : Calls Tryd.prog 18 #[.slice A n c, .int .i64 (dp : Int)] w fun e w' => e = .returned (hv (Tm.root dp l)) ∧ Below w.heap.size w w' := by
  have hln : l.length = n := by rw [← hr.len]; simp [pairs]
  have hd : dp < 256 := hf.deep (by omega)
  have X1 := Lib.hid (alloc_below w (.cells (List.replicate 32 (Value.int .u8 0)).toArray 30))
  have B1 := Lib.hid (Blk.new w 30 (List.replicate 32 (Value.int .u8 0)))
  have CH := Lib.hid (rhalves_any (hr.below X1.out) hf.len hn hd)
  have IH : Hid (RootC f) := ih
  have HF0 := Lib.hid (hf.half false)
  have HF1 := Lib.hid (hf.half true)
  have HL0 : Hid ((Tm.half false dp l).length ≤ 900) := Nat.le_trans (half_le _ _ _) (by omega)
  have HL1 : Hid ((Tm.half true dp l).length ≤ 900) := Nat.le_trans (half_le _ _ _) (by omega)
  have HRT := Tm.root_more (d := dp) (l := l) (by omega) (by omega)
  obtain ⟨l0, hl0⟩ : ∃ z, z = Tm.half false dp l := ⟨_, rfl⟩
  obtain ⟨l1, hl1⟩ : ∃ z, z = Tm.half true dp l := ⟨_, rfl⟩
  rw [← hl0] at CH HF0 HL0 HRT
  rw [← hl1] at CH HF1 HL1 HRT
  rw [HRT]
  obtain ⟨ra, hra⟩ : ∃ z, z = Tm.root (dp + 1) l0 := ⟨_, rfl⟩
  obtain ⟨rb, hrb⟩ : ∃ z, z = Tm.root (dp + 1) l1 := ⟨_, rfl⟩
  rw [← hra, ← hrb]
  have hal : ra.length = 32 := by rw [hra]; exact Tm.root_length _ _
  have hbl : rb.length = 32 := by rw [hrb]; exact Tm.root_length _ _
  have CA : Hid (∀ (W : World) (u : Value) (B : Nat), Ow2 W B 47 64 u (pairs l0) → Calls Tryd.prog 18 #[u, .int .i64 ((dp : Int) + 1)] W fun e w' => e = .returned (hv ra) ∧ Below W.heap.size W w') := fun W u B ho => by
    obtain ⟨A', c', rfl, hR, _⟩ := ho.rd
    rw [hra]
    exact IH.out l0 (dp + 1) hfd hR HF0.out (by simpa [pairs] using HL0.out)
  have CB : Hid (∀ (W : World) (u : Value) (B : Nat), Ow2 W B 47 64 u (pairs l1) → Calls Tryd.prog 18 #[u, .int .i64 ((dp : Int) + 1)] W fun e w' => e = .returned (hv rb) ∧ Below W.heap.size W w') := fun W u B ho => by
    obtain ⟨A', c', rfl, hR, _⟩ := ho.rd
    rw [hrb]
    exact IH.out l1 (dp + 1) hfd hR HF1.out (by simpa [pairs] using HL1.out)
  have CN : Hid (∀ W, Calls Tryd.prog 36 #[hv ra, hv rb] W fun e w' => e = .returned (hv (Tm.node ra rb)) ∧ Below W.heap.size W w') := fun W => rnode_any hal hbl
  have hl := Tm.node_length ra rb
  have HI := Lib.hid (hash_info hl)
  have HO := Lib.hid (cells_u8 (Tm.node ra rb))
  have HN : Hid ((List.replicate 32 (Value.int .u8 0)).length = ((Tm.node ra rb).map cellOf).length) := by unfold Hid; rw [List.length_map, hl]; rfl
  have h0 : decide ((n : Int) = 0) = false := decide_eq_false (by omega)
  have h1 : decide ((n : Int) = 1) = false := decide_eq_false (by omega)
  unfold hv at CA CB CN ⊢
  obtain ⟨D, hD⟩ : ∃ D, D = (Tm.node ra rb).map cellOf := ⟨_, rfl⟩
  have HD := Lib.hid hD
  rw [← hD] at HI HO HN CN
  clear hD hl hr hf HRT hl0 hl1 hra hrb hal hbl ih hln HF0 HF1 HL0 HL1 IH
  go_enter Tryd.func18, Tryd.ntmps18
  go_upto_region 1 with (fail)
  change Code.wp _ _ _ _ (w.alloc (.cells (List.replicate 32 (Value.int .u8 0)).toArray 30))
  generalize w.alloc (.cells (List.replicate 32 (Value.int .u8 0)).toArray 30) = w1 at *
  go_upto_region 7 with (go_at_call 39; refine CH.out.mono ?_; rintro e w2 ⟨u, v, rfl, hU, hV, hX⟩; have OU := Lib.hid hU; have OV := Lib.hid hV; have X2 := Lib.hid hX; clear hU hV hX)
  have B2 := Lib.hid (B1.out.below X2.out B1.out.lt)
  have W2 := Lib.hid (X1.out.trans (X2.out.mono X1.out.size))
  have CU := Lib.hid (CA.out w2 u _ OU.out)
  clear CH B1 X1 X2 CA OU
  go_wp2_with (first
    | (go_at_call 18; refine CU.out.mono ?_; rintro e w3 ⟨rfl, hX⟩; have X3 := Lib.hid hX; clear hX CU; have CV := Lib.hid (CB.out w3 v _ (OV.out.below X3.out)))
    | (go_at_call 18; refine CV.out.mono ?_; rintro e w4 ⟨rfl, hX⟩; have X4 := Lib.hid hX; clear hX CV)
    | (go_at_call 36; refine (CN.out w4).mono ?_; rintro e w5 ⟨rfl, hX⟩; have X5 := Lib.hid hX; clear hX; have W5 := Lib.hid (((W2.out.trans (X3.out.mono W2.out.size)).trans (X4.out.mono (Nat.le_trans W2.out.size X3.out.size))).trans (X5.out.mono (Nat.le_trans (Nat.le_trans W2.out.size X3.out.size) X4.out.size))); have B5 := Lib.hid (((B2.out.below X3.out B2.out.lt).below X4.out (B2.out.below X3.out B2.out.lt).lt).below X5.out ((B2.out.below X3.out B2.out.lt).below X4.out (B2.out.below X3.out B2.out.lt).lt).lt))
    | ((with_reducible refine storeGen_law rfl 30 (.tmp 4) (.tmp 37) rfl w.heap.size rfl D rfl 30 (List.replicate 32 (Value.int .u8 0)) HI.out HN.out HO.out w.heap.size w B5.out W5.out (Nat.le_refl _) ?_); intro w9 B9 W9))
  exact bodyPost_ret (results_cell_row rfl _ _ w.heap.size 30 D.toArray (0, 0) _ rfl B9.out Tryd.underlying30 rfl (by rw [HI.out]; simp)) rfl ⟨by rw [HD.out], W9.out⟩
theorem rroot_any (f : Nat) : RootC f := by
  induction f with
  | zero =>
    intro w A n c l d hfd hr hf hn
    have hln : l.length = n := by rw [← hr.len]; simp [pairs]
    match l, hf, hr, hln with
    | [], _, _, hln => obtain rfl : n = 0 := hln.symm; exact rroot0 d
    | [p], hf, hr, hln => obtain rfl : n = 1 := hln.symm; exact rroot1 hr (hf.len p (by simp)).1 (hf.len p (by simp)).2 d
    | p :: q :: r, hf, _, _ => have := hf.deep (by simp); omega
  | succ f ih =>
    intro w A n c l d hfd hr hf hn
    have hln : l.length = n := by rw [← hr.len]; simp [pairs]
    match l, hf, hr, hln with
    | [], _, _, hln => obtain rfl : n = 0 := hln.symm; exact rroot0 d
    | [p], hf, hr, hln => obtain rfl : n = 1 := hln.symm; exact rroot1 hr (hf.len p (by simp)).1 (hf.len p (by simp)).2 d
    | p :: q :: r, hf, hr, hln => exact rrootN hr hf hn (by rw [← hln]; simp) (by omega) ih
end Go.Proofs.YtmidbpjdpakkoaaDoor
