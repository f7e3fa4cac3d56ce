import Derived.Test.YtmidbpjdpakkoaaDoorSTbg
namespace Go.Proofs.YtmidbpjdpakkoaaDoor.proofWalk
set_option linter.unusedVariables false
set_option linter.unusedSimpArgs false
set_option maxRecDepth 100000
open Go.RowKit
set_option maxRecDepth 100000 in
set_option maxHeartbeats 4000000 in
theorem walk (hB : BegunOk) {A A' : Option Addr} {n c n' c' : Nat} {ks vs : List Int} (w : World) (hg : Gl w) (ha : RdZ w A n c ks) (hb : RdZ w A' n' c' vs) :
    Calls Tryd.prog 12 #[.slice A n c, .slice A' n' c'] w fun e w' => e = .returned (.bool true) ∧ Below w.heap.size w w' := by
  have HG := Lib.hid hg
  have hsz := hg.size
  have HA := Lib.hid ha
  have HB := Lib.hid hb
  have hnm : n ≤ maxLen := Nat.le_trans ha.cap ha.max
  have hnm' : n' ≤ maxLen := Nat.le_trans hb.cap hb.max
  have CG : Hid (∀ W, Below w.heap.size w W → Calls Tryd.prog 14 #[] W fun e w' => e = .returned (.bool true) ∧ Below W.heap.size W w') := fun W hW => hB (hg.below hW hsz)
  have BZ0 := Lib.hid zero_built
  have IZ := Lib.hid zero_info
  have OZ := Lib.hid zero_one
  have HZL : Hid ((List.replicate 32 (Value.int .u8 0)).length = 32) := rfl
  have HZN : Hid (Tm.none32.map cellOf = (List.replicate 32 (Value.int .u8 0))) := rfl
  have ZB0 : Hid (∀ W : World, Blk (W.alloc (.cells (List.replicate 32 (Value.int .u8 0)).toArray 30)) W.heap.size 30 (List.replicate 32 (Value.int .u8 0))) := fun W => Blk.new W 30 _
  have ZPB : Hid (∀ W : World, Blk (W.alloc (.cells (proofL (.slice none 0 0) false (List.replicate 32 (Value.int .u8 0)) (List.replicate 32 (Value.int .u8 0))).toArray 38)) W.heap.size 38 (proofL (.slice none 0 0) false (List.replicate 32 (Value.int .u8 0)) (List.replicate 32 (Value.int .u8 0)))) := fun W => Blk.new W 38 _
  have HZP : Hid ((proofL (.slice none 0 0) false (List.replicate 32 (Value.int .u8 0)) (List.replicate 32 (Value.int .u8 0))).length = 66) := rfl
  obtain ⟨Z, hZ⟩ : ∃ Z, Z = List.replicate 32 (Value.int .u8 0) := ⟨_, rfl⟩
  rw [← hZ] at BZ0 IZ OZ HZL HZN
  have ZB : Hid (∀ W : World, Blk (W.alloc (.cells (List.replicate 32 (Value.int .u8 0)).toArray 30)) W.heap.size 30 Z) := fun W => by rw [hZ]; exact ZB0.out W
  have HZE : Hid ((List.replicate 32 (Value.int .u8 0)) = Z) := hZ.symm
  obtain ⟨ZP, hZP⟩ : ∃ Z, Z = (proofL (.slice none 0 0) false (List.replicate 32 (Value.int .u8 0)) (List.replicate 32 (Value.int .u8 0))) := ⟨_, rfl⟩
  have ZPB' : Hid (∀ W : World, Blk (W.alloc (.cells (proofL (.slice none 0 0) false (List.replicate 32 (Value.int .u8 0)) (List.replicate 32 (Value.int .u8 0))).toArray 38)) W.heap.size 38 ZP) := fun W => by rw [hZP]; exact ZPB.out W
  rw [← hZP] at HZP
  have W := Lib.hid (Below.refl w.heap.size w)
  clear hg ha hb hZ hZP ZB0 ZPB
  go_enter Tryd.func12, Tryd.ntmps12
  go_upto_region 4 with (first
    | (go_at_call 14; refine (CG.out w W.out).mono ?_; rintro e w2 ⟨rfl, hX⟩; replace W := Lib.hid (W.out.trans (hX.mono W.out.size)); clear hX))
  go_upto_region 5 with (first
    | (go_at_call 25; refine (tnew_any w2).mono ?_; rintro e w3 ⟨g, rfl, hT, hgw0, hX⟩; have T := Lib.hid hT; have hgw := Nat.le_trans W.out.size hgw0; replace W := Lib.hid (W.out.trans (hX.mono W.out.size)); clear hT hX hgw0))
  have hw3s := W.out.size
  go_upto_region 6 with (first
    | (with_reducible refine build_law rfl 30 #[] rfl Z (by simp only [List.map_toArray, List.map_nil]; exact BZ0.out) ?_)
    | ((with_reducible refine storeGen_law rfl 30 (.tmp 7) (.tmp 16) rfl w3.heap.size rfl Z rfl 30 Z IZ.out rfl OZ.out w3.heap.size w3 ?_ ?_ (Nat.le_refl _) ?_)
       · exact ZB.out w3
       · exact alloc_below w3 _
       intro w4 BR hX'; have hX := hX'.out; clear hX'; replace T := Lib.hid (T.out.low hX); replace W := Lib.hid (W.out.trans (hX.mono W.out.size)); clear hX))
  obtain ⟨q, hq⟩ : ∃ q, q = w3.heap.size := ⟨_, rfl⟩
  rw [← hq] at BR ⊢
  have hqw : w.heap.size ≤ q := by rw [hq]; exact hw3s
  clear hq
  have BR0 : Hid (Blk w4 q 30 ((Tm.root 0 []).map cellOf)) := by unfold Hid; rw [Tm.root_nil, HZN.out]; exact BR.out
  clear BR hw3s
  go_wp2_with fail
  go_loopw [8] (fun iv wr => ∃ (m : Nat) (l : List Tm.P), m ≤ 12 ∧ iv = .int .i64 (m : Int) ∧ Hid (l.length ≤ m) ∧ Hid (TreeAt wr g l) ∧ Hid (Blk wr q 30 ((Tm.root 0 l).map cellOf)) ∧ Hid (Below w.heap.size w wr)) (fun i _ => 12 - (intOf i).toNat)
  case atStart => exact ⟨0, [], Nat.zero_le _, rfl, Nat.le_refl _, T, BR0, W⟩
  case round =>
    clear T BR0 W w4 w3 w2
    obtain ⟨m, l, hmm, rfl, HLN, T, BR, W⟩ := hrel
    by_cases h1 : m < n
    case neg =>
      have d1 : decide ((m : Int) < (n : Int)) = false := decide_eq_false (by omega)
      go_wp2_with fail
      go_ret
      exact ⟨rfl, W.out⟩
    have d1 : decide ((m : Int) < (n : Int)) = true := decide_eq_true (by omega)
    by_cases h2 : m < n'
    case neg =>
      have d2 : decide ((m : Int) < (n' : Int)) = false := decide_eq_false (by omega)
      go_wp2_with fail
      go_ret
      exact ⟨rfl, W.out⟩
    have d2 : decide ((m : Int) < (n' : Int)) = true := decide_eq_true (by omega)
    by_cases h3 : m < 12
    case neg =>
      have d3 : decide ((m : Int) < 12) = false := decide_eq_false (by omega)
      go_wp2_with fail
      go_ret
      exact ⟨rfl, W.out⟩
    have d3 : decide ((m : Int) < 12) = true := decide_eq_true (by omega)
    obtain ⟨q1, f1, hA1, hq1, hc1⟩ := HA.out.at_ (by omega)
    obtain ⟨q2, f2, hA2, hq2, hc2⟩ := HB.out.at_ (by omega)
    have hc1 := hc1 m h1
    have hc2 := hc2 m h2
    have hi1 := fun W => index_ints q1 f1 n c m h1 W hnm
    have hi2 := fun W => index_ints q2 f2 n' c' m h2 W hnm'
    have hmem : ∀ (zs : List Int), m < zs.length → zs.getD m 0 ∈ zs := fun zs h => by rw [List.getD_eq_getElem?_getD, List.getElem?_eq_getElem h]; exact List.getElem_mem h
    have hz1 := HA.out.lo _ (hmem ks (by rw [HA.out.len]; exact h1))
    obtain ⟨z1, hz1'⟩ : ∃ z, z = ks.getD m 0 := ⟨_, rfl⟩
    obtain ⟨z2, hz2'⟩ : ∃ z, z = vs.getD m 0 := ⟨_, rfl⟩
    rw [← hz1'] at hc1 hz1
    rw [← hz2'] at hc2
    obtain ⟨o1, ho1⟩ : ∃ o, o = f1 + m := ⟨_, rfl⟩
    obtain ⟨o2, ho2⟩ : ∃ o, o = f2 + m := ⟨_, rfl⟩
    rw [← ho1] at hi1 hc1
    rw [← ho2] at hi2 hc2
    subst hA1
    subst hA2
    have HC1 := Lib.hid hc1
    have HC2 := Lib.hid hc2
    have hfit := T.out.fit
    have hkl := nm_length z1
    have hvl := sm_length z2
    have hrl := Tm.root_length 0 l
    have hrl' := Tm.root_length 0 (Tm.put (nm z1, sm z2) l)
    have HLEN' : Hid ((Tm.put (nm z1, sm z2) l).length ≤ m + 1) := by have := (Tm.put_le (nm z1, sm z2) l).2.2; have := HLN.out; unfold Hid; omega
    have CN : Hid (∀ W, Calls Tryd.prog 20 #[.int .i64 z1] W fun e w' => e = .returned (hv (nm z1)) ∧ Below W.heap.size W w') := fun W => nm_any z1 hz1.1 hz1.2 W
    have CS : Hid (∀ W, Calls Tryd.prog 27 #[.int .i64 z2] W fun e w' => e = .returned (hv (sm z2)) ∧ Below W.heap.size W w') := fun W => sm_any z2 W
    have CV : Hid (∀ W, TreeAt W g l → Calls Tryd.prog 21 #[.pointer (some ⟨g, 0, none⟩), hv (nm z1)] W fun e w' => ∃ PP : List Value, e = .returned (.agg PP.toArray) ∧ PrfIn w' (.agg PP.toArray) (Tm.prove l (nm z1)) ∧ (Tryd.prog.info? 38).map (·.size) = some PP.length ∧ (∀ v ∈ PP, v.oneCell' = true) ∧ PP.length = 66 ∧ Below W.heap.size W w') := fun W hT => prove_cells hT hkl
    have CA : Hid (∀ W x, Below w.heap.size w W → PrfIn W x (Tm.prove l (nm z1)) → Calls Tryd.prog 30 #[hv (Tm.root 0 l), hv (nm z1), hv (sm z2), x] W fun e w' => e = .returned (.tuple #[hv (Tm.root 0 (Tm.put (nm z1, sm z2) l)), .bool true]) ∧ Below W.heap.size W w') := fun W x h hP => by
      have := pafter_any (HG.out.below h hsz) hP hrl hkl hvl
      rw [Tm.prove_after hfit, Tm.prove_holds hfit] at this
      exact this
    have CP : Hid (∀ W, Below w.heap.size w W → TreeAt W g l → Calls Tryd.prog 26 #[.pointer (some ⟨g, 0, none⟩), hv (nm z1), hv (sm z2)] W fun e w' => (∃ b, e = .returned (.bool b)) ∧ TreeAt w' g (Tm.put (nm z1, sm z2) l) ∧ W.grownBy w' (some g)) := fun W h hT => (tput_any (HG.out.below h hsz) hT (Nat.le_trans hsz hgw) (by have := HLN.out; omega) hkl hvl).mono fun e w' ⟨h1, h2⟩ => ⟨⟨_, h1⟩, h2⟩
    have CR : Hid (∀ W, TreeAt W g (Tm.put (nm z1, sm z2) l) → Calls Tryd.prog 17 #[.pointer (some ⟨g, 0, none⟩)] W fun e w' => e = .returned (hv (Tm.root 0 (Tm.put (nm z1, sm z2) l))) ∧ Below W.heap.size W w') := fun W hT => troot_any hT
    have ER := Lib.hid (hash_eq (Tm.root 0 (Tm.put (nm z1, sm z2) l)) (Tm.root 0 (Tm.put (nm z1, sm z2) l)) hrl' hrl')
    rw [decide_eq_true rfl] at ER
    unfold hv at CN CS CV CA CP CR
    obtain ⟨P, hP⟩ : ∃ P, P = Tm.prove l (nm z1) := ⟨_, rfl⟩
    rw [← hP] at CV CA
    have INC := Lib.hid (hash_info (hkl))
    have ONC := Lib.hid (cells_u8 (nm z1))
    have LNC : Hid (Z.length = ((nm z1).map cellOf).length) := by unfold Hid; rw [List.length_map, hkl, HZL.out]
    obtain ⟨NC, hNC⟩ : ∃ L, L = (nm z1).map cellOf := ⟨_, rfl⟩
    have NNC : Hid (NC.length = 32) := by unfold Hid; rw [hNC, List.length_map, hkl]
    rw [← hNC] at INC ONC LNC CN CV CA CP
    have ENC := Lib.hid hNC
    clear hNC
    have ISC := Lib.hid (hash_info (hvl))
    have OSC := Lib.hid (cells_u8 (sm z2))
    have LSC : Hid (Z.length = ((sm z2).map cellOf).length) := by unfold Hid; rw [List.length_map, hvl, HZL.out]
    obtain ⟨SC, hSC⟩ : ∃ L, L = (sm z2).map cellOf := ⟨_, rfl⟩
    have NSC : Hid (SC.length = 32) := by unfold Hid; rw [hSC, List.length_map, hvl]
    rw [← hSC] at ISC OSC LSC CS CA CP
    have ESC := Lib.hid hSC
    clear hSC
    have IRC := Lib.hid (hash_info (hrl))
    have ORC := Lib.hid (cells_u8 (Tm.root 0 l))
    have LRC : Hid (Z.length = ((Tm.root 0 l).map cellOf).length) := by unfold Hid; rw [List.length_map, hrl, HZL.out]
    obtain ⟨RC, hRC⟩ : ∃ L, L = (Tm.root 0 l).map cellOf := ⟨_, rfl⟩
    have NRC : Hid (RC.length = 32) := by unfold Hid; rw [hRC, List.length_map, hrl]
    rw [← hRC] at IRC ORC LRC CA BR
    have ERC := Lib.hid hRC
    clear hRC
    have IDC := Lib.hid (hash_info (hrl'))
    have ODC := Lib.hid (cells_u8 (Tm.root 0 (Tm.put (nm z1, sm z2) l)))
    have LDC : Hid (Z.length = ((Tm.root 0 (Tm.put (nm z1, sm z2) l)).map cellOf).length) := by unfold Hid; rw [List.length_map, hrl', HZL.out]
    obtain ⟨DC, hDC⟩ : ∃ L, L = (Tm.root 0 (Tm.put (nm z1, sm z2) l)).map cellOf := ⟨_, rfl⟩
    have NDC : Hid (DC.length = 32) := by unfold Hid; rw [hDC, List.length_map, hrl']
    rw [← hDC] at IDC ODC LDC CA CR ER
    have EDC := Lib.hid hDC
    clear hDC
    obtain ⟨l', hl'⟩ : ∃ l', l' = Tm.put (nm z1, sm z2) l := ⟨_, rfl⟩
    rw [← hl'] at CP CR EDC HLEN'
    clear hP hl' hc1 hc2 hmem hz1' hz2' ho1 ho2 hz1 hfit hkl hvl hrl hrl'
    go_upto_region 9 with (fail)
    clear d1 d2 d3
    have c1 : wr.cell? ⟨q1, o1, none⟩ = some (.int .i64 z1) := (World.cell?_of_block (a := ⟨q1, o1, none⟩) (W.out.block q1 hq1)).trans HC1.out
    go_upto_region 10 with (first
      | (go_at_call 20; refine (CN.out wr).mono ?_; rintro e w5 ⟨rfl, hX⟩; replace T := Lib.hid (T.out.low hX); replace BR := Lib.hid (BR.out.below hX BR.out.lt); replace W := Lib.hid (W.out.trans (hX.mono W.out.size)); clear hX)
      | (go_at_call 21; refine (CV.out w5 T.out).mono ?_; rintro e w6 ⟨PP, rfl, hPI, hp1, hp2, hp3, hX⟩; replace T := Lib.hid (T.out.low hX); replace BR := Lib.hid (BR.out.below hX BR.out.lt); replace W := Lib.hid (W.out.trans (hX.mono W.out.size)); have PI := Lib.hid hPI; have IPP := Lib.hid hp1; have OPP := Lib.hid hp2; have LPP : Hid (ZP.length = PP.length) := HZP.out.trans hp3.symm; clear hX hPI hp1 hp2 hp3)
      | ((with_reducible refine storeGen_law rfl 38 (.tmp 9) (.tmp 39) rfl w6.heap.size rfl PP rfl 38 ZP IPP.out LPP.out OPP.out w6.heap.size w6 ?_ ?_ (Nat.le_refl _) ?_)
         · exact ZPB'.out w6
         · exact alloc_below w6 _
         intro w7 BP hX'; have hX := hX'.out; clear hX'; replace T := Lib.hid (T.out.low hX); replace BR := Lib.hid (BR.out.below hX BR.out.lt); replace W := Lib.hid (W.out.trans (hX.mono W.out.size)); replace PI := Lib.hid (PI.out.below hX); clear hX))
    obtain ⟨q3, hq3⟩ : ∃ q, q = w6.heap.size := ⟨_, rfl⟩
    rw [← hq3] at BP ⊢
    clear hq3 c1
    have hX := (Below.refl w7.heap.size w7).drew
    replace T := Lib.hid (T.out.low hX)
    replace BR := Lib.hid (BR.out.below hX BR.out.lt)
    replace BP := Lib.hid (BP.out.below hX BP.out.lt)
    replace PI := Lib.hid (PI.out.below hX)
    replace W := Lib.hid (W.out.trans (hX.mono W.out.size))
    clear hX
    refine wp_region_any (by kernel_rfl) ?_
    change wpAny _ _ _ _ _ _ _ (World.drew _)
    generalize w7.drew = wd at *
    refine wpAny_take (i := 1) (oi := ?oi1) (v := .slice (some ⟨q1, f1, none⟩) n c) ?hi1 (by kernel_rfl) (by kernel_rfl) (by kernel_rfl) ?hQ1 ?hy1 ?rest1
    case hi1 => simp only [zge]; rfl
    case hQ1 => exact fun _ _ _ h => h
    case hy1 => exact Or.inl ⟨by rfl, by intro w; go_simp⟩
    try simp only [zpt]
    refine wpAny_take (i := 2) (oi := ?oi2) (v := .int .i64 (m : Int)) ?hi2 (by kernel_rfl) (by kernel_rfl) (by kernel_rfl) ?hQ2 ?hy2 ?rest2
    case hi2 => simp only [zge]; rfl
    case hQ2 => exact fun _ _ _ h => h
    case hy2 => exact Or.inl ⟨by rfl, by intro w; go_simp⟩
    try simp only [zpt]
    refine wpAny_take (i := 3) (oi := ?oi3) (v := .pointer (some ⟨q1, o1, none⟩)) ?hi3 (by kernel_rfl) (by kernel_rfl) (by kernel_rfl) ?hQ3 ?hy3 ?rest3
    case hi3 => simp only [zge]; rfl
    case hQ3 => exact fun _ _ _ h => h
    case hy3 => exact Or.inl ⟨by rfl, by intro w; go_simp⟩
    try simp only [zpt]
    refine wpAny_take (i := 6) (oi := ?oi4) (v := .slice (some ⟨q2, f2, none⟩) n' c') ?hi4 (by kernel_rfl) (by kernel_rfl) (by kernel_rfl) ?hQ4 ?hy4 ?rest4
    case hi4 => simp only [zge]; rfl
    case hQ4 => exact fun _ _ _ h => h
    case hy4 => exact Or.inl ⟨by rfl, by intro w; go_simp⟩
    try simp only [zpt]
    refine wpAny_take (i := 7) (oi := ?oi5) (v := .int .i64 (m : Int)) ?hi5 (by kernel_rfl) (by kernel_rfl) (by kernel_rfl) ?hQ5 ?hy5 ?rest5
    case hi5 => simp only [zge]; rfl
    case hQ5 => exact fun _ _ _ h => h
    case hy5 => exact Or.inl ⟨by rfl, by intro w; go_simp⟩
    try simp only [zpt]
    refine wpAny_take (i := 8) (oi := ?oi6) (v := .pointer (some ⟨q2, o2, none⟩)) ?hi6 (by kernel_rfl) (by kernel_rfl) (by kernel_rfl) ?hQ6 ?hy6 ?rest6
    case hi6 => simp only [zge]; rfl
    case hQ6 => exact fun _ _ _ h => h
    case hy6 => exact Or.inl ⟨by rfl, by intro w; go_simp⟩
    try simp only [zpt]
    refine phaseL (fun i => if i = 5 then [4] else if i = 10 then [9, 5] else if i = 12 then [0, 5, 10, 11] else if i = 13 then [12] else if i = 14 then [13] else if i = 15 then [13] else if i = 17 then [16, 14, 12, 0, 4, 5, 9, 10, 11, 13] else if i = 18 then [15, 17, 0, 4, 5, 9, 10, 11, 12, 13, 14, 16] else []) (fun d a w' => ∃ x41 x45 x46 x50 x51 x52 x53 x40 x54 x55 x10 x11 : Value, a = { tmps := #[.slice (some ⟨q1, f1, none⟩) n c, .slice (some ⟨q2, f2, none⟩) n' c', undef, undef, u4, .bool true, .pointer (some ⟨g, 0, none⟩), .pointer (some ⟨q, 0, none⟩), .int .i64 (m : Int), .pointer (some ⟨q3, 0, none⟩), x10, x11, .bool true, .bool true, .bool false, .pointer (some ⟨g, 0, none⟩), .agg Z.toArray, .int .i64 (m : Int), .slice (some ⟨q1, f1, none⟩) n c, .int .i64 (n : Int), .bool true, .bool true, .int .i64 (m : Int), .slice (some ⟨q2, f2, none⟩) n' c', .int .i64 (n' : Int), .bool true, .bool true, .bool true, .int .i64 (m : Int), .bool true, .bool true, u31, u32, .pointer (some ⟨g, 0, none⟩), .slice (some ⟨q1, f1, none⟩) n c, .int .i64 (m : Int), .pointer (some ⟨q1, o1, none⟩), .int .i64 z1, .agg NC.toArray, .agg PP.toArray, x40, x41, .slice (some ⟨q1, f1, none⟩) n c, .int .i64 (m : Int), .pointer (some ⟨q1, o1, none⟩), x45, x46, .slice (some ⟨q2, f2, none⟩) n' c', .int .i64 (m : Int), .pointer (some ⟨q2, o2, none⟩), x50, x51, x52, x53, x54, x55, u56, u57, u58, u59, u60, u61, u62, u63, u64, u65, u66, u67, u68, u69, u70, u71, u72, u73, u74], defers := [] } ∧ Hid (Below wd.heap.size wd w') ∧ (d 0 = true → x41 = .agg RC.toArray) ∧ (d 4 = true → x45 = .int .i64 z1) ∧ (d 5 = true → x46 = .agg NC.toArray) ∧ (d 9 = true → x50 = .int .i64 z2) ∧ (d 10 = true → x51 = .agg SC.toArray) ∧ (d 11 = true → x52 = .agg PP.toArray) ∧ (d 12 = true → x53 = .tuple #[.agg DC.toArray, .bool true]) ∧ (d 13 = true → x40 = .tuple #[.agg DC.toArray, .bool true]) ∧ (d 14 = true → x54 = .agg DC.toArray) ∧ (d 15 = true → x55 = .bool true) ∧ (d 16 = true → Hid (AtN w' wd.heap.size x10 30 32)) ∧ (d 17 = true → (d 16 = true ∧ Hid (At w' wd.heap.size x10 30 DC))) ∧ (d 18 = true → x11 = .bool true)) [0, 4, 5, 9, 10, 11, 12, 13, 14, 15, 16, 17, 18] ?step7 0 13 [0, 4, 5, 9, 10, 11, 12, 13, 14, 15, 16, 17, 18] _ _ _ rfl (by decide) (fun _ h => h) (Fits.of (by kernel_rfl)) ?init7 ?fin7
    case init7 => refine ⟨_, _, _, _, _, _, _, _, _, _, _, _, rfl, Below.refl _ _, ?_, ?_, ?_, ?_, ?_, ?_, ?_, ?_, ?_, ?_, ?_, ?_, ?_⟩ <;> (intro h; exact absurd h (by decide))
    case step7 =>
      intro i hi d a v7 hI hdi hdeps
      obtain ⟨x41, x45, x46, x50, x51, x52, x53, x40, x54, x55, x10, x11, rfl, BW, h0, h4, h5, h9, h10, h11, h12, h13, h14, h15, h16, h17, h18⟩ := hI
      have hsw := BW.out.size
      simp only [List.mem_cons, List.not_mem_nil, or_false] at hi
      rcases hi with rfl | rfl | rfl | rfl | rfl | rfl | rfl | rfl | rfl | rfl | rfl | rfl | rfl
      · refine wpOp_step (o := ?os8) ?hos8 (fun K hK => ?_)
        case hos8 => simp only [zge]; rfl
        refine step_loadW rfl 30 (.tmp 7) rfl q 0 rfl RC _ Tryd.underlying30 rfl IRC.out (BR.out.below BW.out BR.out.lt).cells (hK _ _ ?_)
        clear hK K
        try simp only [zpt]
        exact ⟨_, _, _, _, _, _, _, _, _, _, _, _, rfl, BW, fun _ => rfl, fun a => by first | exact h4 (by simpa using a) | rfl, fun a => by first | exact h5 (by simpa using a) | rfl, fun a => by first | exact h9 (by simpa using a) | rfl, fun a => by first | exact h10 (by simpa using a) | rfl, fun a => by first | exact h11 (by simpa using a) | rfl, fun a => by first | exact h12 (by simpa using a) | rfl, fun a => by first | exact h13 (by simpa using a) | rfl, fun a => by first | exact h14 (by simpa using a) | rfl, fun a => by first | exact h15 (by simpa using a) | rfl, fun a => h16 (by simpa using a), fun a => ⟨by simp [(h17 (by simpa using a)).1], (h17 (by simpa using a)).2⟩, fun a => by first | exact h18 (by simpa using a) | rfl⟩
      · have c0 : v7.cell? ⟨q1, o1, none⟩ = some (.int .i64 z1) := (World.cell?_of_block (a := ⟨q1, o1, none⟩) ((W.out.trans (BW.out.mono W.out.size)).block q1 hq1)).trans HC1.out
        refine wpOp_step (o := ?os9) ?hos9 (fun K hK => ?_)
        case hos9 => simp only [zge]; rfl
        go_simp
        refine hK _ _ ?_
        clear hK K
        try simp only [zpt]
        exact ⟨_, _, _, _, _, _, _, _, _, _, _, _, rfl, BW, fun a => by first | exact h0 (by simpa using a) | rfl, fun _ => rfl, fun a => by first | exact h5 (by simpa using a) | rfl, fun a => by first | exact h9 (by simpa using a) | rfl, fun a => by first | exact h10 (by simpa using a) | rfl, fun a => by first | exact h11 (by simpa using a) | rfl, fun a => by first | exact h12 (by simpa using a) | rfl, fun a => by first | exact h13 (by simpa using a) | rfl, fun a => by first | exact h14 (by simpa using a) | rfl, fun a => by first | exact h15 (by simpa using a) | rfl, fun a => h16 (by simpa using a), fun a => ⟨by simp [(h17 (by simpa using a)).1], (h17 (by simpa using a)).2⟩, fun a => by first | exact h18 (by simpa using a) | rfl⟩
      · obtain rfl := h4 (hdeps 4 (by simp))
        refine wpOp_step (o := ?os10) ?hos10 (fun K hK => ?_)
        case hos10 => simp only [zge]; rfl
        go_simp
        refine (CN.out v7 ).mono ?_
        rintro e u7 ⟨rfl, hX⟩
        refine hK _ _ ?_
        clear hK K
        try simp only [zpt]
        exact ⟨_, _, _, _, _, _, _, _, _, _, _, _, rfl, BW.out.trans (hX.mono hsw), fun a => by first | exact h0 (by simpa using a) | rfl, fun a => by first | exact h4 (by simpa using a) | rfl, fun _ => rfl, fun a => by first | exact h9 (by simpa using a) | rfl, fun a => by first | exact h10 (by simpa using a) | rfl, fun a => by first | exact h11 (by simpa using a) | rfl, fun a => by first | exact h12 (by simpa using a) | rfl, fun a => by first | exact h13 (by simpa using a) | rfl, fun a => by first | exact h14 (by simpa using a) | rfl, fun a => by first | exact h15 (by simpa using a) | rfl, fun a => (h16 (by simpa using a)).out.below hX, fun a => ⟨by simp [(h17 (by simpa using a)).1], (h17 (by simpa using a)).2.out.below hX⟩, fun a => by first | exact h18 (by simpa using a) | rfl⟩
      · have c0 : v7.cell? ⟨q2, o2, none⟩ = some (.int .i64 z2) := (World.cell?_of_block (a := ⟨q2, o2, none⟩) ((W.out.trans (BW.out.mono W.out.size)).block q2 hq2)).trans HC2.out
        refine wpOp_step (o := ?os11) ?hos11 (fun K hK => ?_)
        case hos11 => simp only [zge]; rfl
        go_simp
        refine hK _ _ ?_
        clear hK K
        try simp only [zpt]
        exact ⟨_, _, _, _, _, _, _, _, _, _, _, _, rfl, BW, fun a => by first | exact h0 (by simpa using a) | rfl, fun a => by first | exact h4 (by simpa using a) | rfl, fun a => by first | exact h5 (by simpa using a) | rfl, fun _ => rfl, fun a => by first | exact h10 (by simpa using a) | rfl, fun a => by first | exact h11 (by simpa using a) | rfl, fun a => by first | exact h12 (by simpa using a) | rfl, fun a => by first | exact h13 (by simpa using a) | rfl, fun a => by first | exact h14 (by simpa using a) | rfl, fun a => by first | exact h15 (by simpa using a) | rfl, fun a => h16 (by simpa using a), fun a => ⟨by simp [(h17 (by simpa using a)).1], (h17 (by simpa using a)).2⟩, fun a => by first | exact h18 (by simpa using a) | rfl⟩
      · obtain rfl := h9 (hdeps 9 (by simp))
        refine wpOp_step (o := ?os12) ?hos12 (fun K hK => ?_)
        case hos12 => simp only [zge]; rfl
        go_simp
        refine (CS.out v7 ).mono ?_
        rintro e u7 ⟨rfl, hX⟩
        refine hK _ _ ?_
        clear hK K
        try simp only [zpt]
        exact ⟨_, _, _, _, _, _, _, _, _, _, _, _, rfl, BW.out.trans (hX.mono hsw), fun a => by first | exact h0 (by simpa using a) | rfl, fun a => by first | exact h4 (by simpa using a) | rfl, fun a => by first | exact h5 (by simpa using a) | rfl, fun a => by first | exact h9 (by simpa using a) | rfl, fun _ => rfl, fun a => by first | exact h11 (by simpa using a) | rfl, fun a => by first | exact h12 (by simpa using a) | rfl, fun a => by first | exact h13 (by simpa using a) | rfl, fun a => by first | exact h14 (by simpa using a) | rfl, fun a => by first | exact h15 (by simpa using a) | rfl, fun a => (h16 (by simpa using a)).out.below hX, fun a => ⟨by simp [(h17 (by simpa using a)).1], (h17 (by simpa using a)).2.out.below hX⟩, fun a => by first | exact h18 (by simpa using a) | rfl⟩
      · refine wpOp_step (o := ?os13) ?hos13 (fun K hK => ?_)
        case hos13 => simp only [zge]; rfl
        refine step_loadW rfl 38 (.tmp 9) rfl q3 0 rfl PP _ Tryd.underlying38 rfl IPP.out (BP.out.below BW.out BP.out.lt).cells (hK _ _ ?_)
        clear hK K
        try simp only [zpt]
        exact ⟨_, _, _, _, _, _, _, _, _, _, _, _, rfl, BW, fun a => by first | exact h0 (by simpa using a) | rfl, fun a => by first | exact h4 (by simpa using a) | rfl, fun a => by first | exact h5 (by simpa using a) | rfl, fun a => by first | exact h9 (by simpa using a) | rfl, fun a => by first | exact h10 (by simpa using a) | rfl, fun _ => rfl, fun a => by first | exact h12 (by simpa using a) | rfl, fun a => by first | exact h13 (by simpa using a) | rfl, fun a => by first | exact h14 (by simpa using a) | rfl, fun a => by first | exact h15 (by simpa using a) | rfl, fun a => h16 (by simpa using a), fun a => ⟨by simp [(h17 (by simpa using a)).1], (h17 (by simpa using a)).2⟩, fun a => by first | exact h18 (by simpa using a) | rfl⟩
      · obtain rfl := h0 (hdeps 0 (by simp))
        obtain rfl := h5 (hdeps 5 (by simp))
        obtain rfl := h10 (hdeps 10 (by simp))
        obtain rfl := h11 (hdeps 11 (by simp))
        refine wpOp_step (o := ?os14) ?hos14 (fun K hK => ?_)
        case hos14 => simp only [zge]; rfl
        go_simp
        refine (CA.out v7 _ (W.out.trans (BW.out.mono W.out.size)) (PI.out.below BW.out)).mono ?_
        rintro e u7 ⟨rfl, hX⟩
        refine hK _ _ ?_
        clear hK K
        try simp only [zpt]
        exact ⟨_, _, _, _, _, _, _, _, _, _, _, _, rfl, BW.out.trans (hX.mono hsw), fun a => by first | exact h0 (by simpa using a) | rfl, fun a => by first | exact h4 (by simpa using a) | rfl, fun a => by first | exact h5 (by simpa using a) | rfl, fun a => by first | exact h9 (by simpa using a) | rfl, fun a => by first | exact h10 (by simpa using a) | rfl, fun a => by first | exact h11 (by simpa using a) | rfl, fun _ => rfl, fun a => by first | exact h13 (by simpa using a) | rfl, fun a => by first | exact h14 (by simpa using a) | rfl, fun a => by first | exact h15 (by simpa using a) | rfl, fun a => (h16 (by simpa using a)).out.below hX, fun a => ⟨by simp [(h17 (by simpa using a)).1], (h17 (by simpa using a)).2.out.below hX⟩, fun a => by first | exact h18 (by simpa using a) | rfl⟩
      · obtain rfl := h12 (hdeps 12 (by simp))
        refine wpOp_step (o := ?os15) ?hos15 (fun K hK => ?_)
        case hos15 => simp only [zge]; rfl
        go_simp
        refine hK _ _ ?_
        clear hK K
        try simp only [zpt]
        exact ⟨_, _, _, _, _, _, _, _, _, _, _, _, rfl, BW, fun a => by first | exact h0 (by simpa using a) | rfl, fun a => by first | exact h4 (by simpa using a) | rfl, fun a => by first | exact h5 (by simpa using a) | rfl, fun a => by first | exact h9 (by simpa using a) | rfl, fun a => by first | exact h10 (by simpa using a) | rfl, fun a => by first | exact h11 (by simpa using a) | rfl, fun a => by first | exact h12 (by simpa using a) | rfl, fun _ => rfl, fun a => by first | exact h14 (by simpa using a) | rfl, fun a => by first | exact h15 (by simpa using a) | rfl, fun a => h16 (by simpa using a), fun a => ⟨by simp [(h17 (by simpa using a)).1], (h17 (by simpa using a)).2⟩, fun a => by first | exact h18 (by simpa using a) | rfl⟩
      · obtain rfl := h13 (hdeps 13 (by simp))
        refine wpOp_step (o := ?os16) ?hos16 (fun K hK => ?_)
        case hos16 => simp only [zge]; rfl
        go_simp
        refine hK _ _ ?_
        clear hK K
        try simp only [zpt]
        exact ⟨_, _, _, _, _, _, _, _, _, _, _, _, rfl, BW, fun a => by first | exact h0 (by simpa using a) | rfl, fun a => by first | exact h4 (by simpa using a) | rfl, fun a => by first | exact h5 (by simpa using a) | rfl, fun a => by first | exact h9 (by simpa using a) | rfl, fun a => by first | exact h10 (by simpa using a) | rfl, fun a => by first | exact h11 (by simpa using a) | rfl, fun a => by first | exact h12 (by simpa using a) | rfl, fun a => by first | exact h13 (by simpa using a) | rfl, fun _ => rfl, fun a => by first | exact h15 (by simpa using a) | rfl, fun a => h16 (by simpa using a), fun a => ⟨by simp [(h17 (by simpa using a)).1], (h17 (by simpa using a)).2⟩, fun a => by first | exact h18 (by simpa using a) | rfl⟩
      · obtain rfl := h13 (hdeps 13 (by simp))
        refine wpOp_step (o := ?os17) ?hos17 (fun K hK => ?_)
        case hos17 => simp only [zge]; rfl
        go_simp
        refine hK _ _ ?_
        clear hK K
        try simp only [zpt]
        exact ⟨_, _, _, _, _, _, _, _, _, _, _, _, rfl, BW, fun a => by first | exact h0 (by simpa using a) | rfl, fun a => by first | exact h4 (by simpa using a) | rfl, fun a => by first | exact h5 (by simpa using a) | rfl, fun a => by first | exact h9 (by simpa using a) | rfl, fun a => by first | exact h10 (by simpa using a) | rfl, fun a => by first | exact h11 (by simpa using a) | rfl, fun a => by first | exact h12 (by simpa using a) | rfl, fun a => by first | exact h13 (by simpa using a) | rfl, fun a => by first | exact h14 (by simpa using a) | rfl, fun _ => rfl, fun a => h16 (by simpa using a), fun a => ⟨by simp [(h17 (by simpa using a)).1], (h17 (by simpa using a)).2⟩, fun a => by first | exact h18 (by simpa using a) | rfl⟩
      · have hX := alloc_below v7 (.cells (List.replicate 32 (Value.int .u8 0)).toArray 30)
        refine wpOp_step (o := ?os18) ?hos18 (fun K hK => ?_)
        case hos18 => simp only [zge]; rfl
        go_simp
        refine hK _ _ ?_
        clear hK K
        try simp only [zpt]
        exact ⟨_, _, _, _, _, _, _, _, _, _, _, _, rfl, BW.out.trans (hX.mono hsw), fun a => by first | exact h0 (by simpa using a) | rfl, fun a => by first | exact h4 (by simpa using a) | rfl, fun a => by first | exact h5 (by simpa using a) | rfl, fun a => by first | exact h9 (by simpa using a) | rfl, fun a => by first | exact h10 (by simpa using a) | rfl, fun a => by first | exact h11 (by simpa using a) | rfl, fun a => by first | exact h12 (by simpa using a) | rfl, fun a => by first | exact h13 (by simpa using a) | rfl, fun a => by first | exact h14 (by simpa using a) | rfl, fun a => by first | exact h15 (by simpa using a) | rfl, fun _ => (At.new _ _ _ hsw).n rfl, fun a => absurd (h17 (by simpa using a)).1 (by simp [hdi]), fun a => by first | exact h18 (by simpa using a) | rfl⟩
      · obtain rfl := h14 (hdeps 14 (by simp))
        obtain ⟨qn, hqe, hqB, cs, hQ, hQl⟩ := (h16 (hdeps 16 (by simp))).out
        obtain rfl := hqe
        refine wpOp_step (o := ?os19) ?hos19 (fun K hK => ?_)
        case hos19 => simp only [zge]; rfl
        refine step_storeAll rfl 30 (.tmp 10) (.tmp 54) rfl qn rfl DC rfl 30 cs hQ IDC.out (hQl.trans NDC.out.symm) ODC.out (hK _ _ ?_)
        clear hK K
        have hS : At (v7.setRow qn DC.toArray) wd.heap.size (.pointer (some ⟨qn, 0, none⟩)) 30 DC := ⟨qn, rfl, hqB, hQ.row⟩
        have hN := hS.n NDC.out
        try simp only [zpt]
        exact ⟨_, _, _, _, _, _, _, _, _, _, _, _, rfl, below_setRow BW.out hqB _, fun a => by first | exact h0 (by simpa using a) | rfl, fun a => by first | exact h4 (by simpa using a) | rfl, fun a => by first | exact h5 (by simpa using a) | rfl, fun a => by first | exact h9 (by simpa using a) | rfl, fun a => by first | exact h10 (by simpa using a) | rfl, fun a => by first | exact h11 (by simpa using a) | rfl, fun a => by first | exact h12 (by simpa using a) | rfl, fun a => by first | exact h13 (by simpa using a) | rfl, fun a => by first | exact h14 (by simpa using a) | rfl, fun a => by first | exact h15 (by simpa using a) | rfl, fun a => hN, fun _ => ⟨by simp [hdeps 16 (by simp)], hS⟩, fun a => by first | exact h18 (by simpa using a) | rfl⟩
      · obtain rfl := h15 (hdeps 15 (by simp))
        refine wpOp_step (o := ?os20) ?hos20 (fun K hK => ?_)
        case hos20 => simp only [zge]; rfl
        go_simp
        refine hK _ _ ?_
        clear hK K
        try simp only [zpt]
        exact ⟨_, _, _, _, _, _, _, _, _, _, _, _, rfl, BW, fun a => by first | exact h0 (by simpa using a) | rfl, fun a => by first | exact h4 (by simpa using a) | rfl, fun a => by first | exact h5 (by simpa using a) | rfl, fun a => by first | exact h9 (by simpa using a) | rfl, fun a => by first | exact h10 (by simpa using a) | rfl, fun a => by first | exact h11 (by simpa using a) | rfl, fun a => by first | exact h12 (by simpa using a) | rfl, fun a => by first | exact h13 (by simpa using a) | rfl, fun a => by first | exact h14 (by simpa using a) | rfl, fun a => by first | exact h15 (by simpa using a) | rfl, fun a => h16 (by simpa using a), fun a => ⟨by simp [(h17 (by simpa using a)).1], (h17 (by simpa using a)).2⟩, fun _ => rfl⟩
    case fin7 =>
      intro a v7 hI
      obtain ⟨x41, x45, x46, x50, x51, x52, x53, x40, x54, x55, x10, x11, rfl, BW, h0, h4, h5, h9, h10, h11, h12, h13, h14, h15, h16, h17, h18⟩ := hI
      obtain rfl := h0 (by decide)
      obtain rfl := h4 (by decide)
      obtain rfl := h5 (by decide)
      obtain rfl := h9 (by decide)
      obtain rfl := h10 (by decide)
      obtain rfl := h11 (by decide)
      obtain rfl := h12 (by decide)
      obtain rfl := h13 (by decide)
      obtain rfl := h14 (by decide)
      obtain rfl := h15 (by decide)
      obtain rfl := h18 (by decide)
      clear h0 h4 h5 h9 h10 h11 h12 h13 h14 h15 h18
      obtain ⟨q4, rfl, hq4, hQ⟩ := (h17 (by decide)).2.out
      have BD := Lib.hid hQ
      have hX := BW.out
      replace T := Lib.hid (T.out.low hX)
      replace BR := Lib.hid (BR.out.below hX BR.out.lt)
      replace BP := Lib.hid (BP.out.below hX BP.out.lt)
      replace PI := Lib.hid (PI.out.below hX)
      replace W := Lib.hid (W.out.trans (hX.mono W.out.size))
      clear hX BW hQ h16 h17 
      try dsimp only
      refine wpAny_done (by kernel_rfl) ?_ _
      clear PI BP CA CV
      go_upto_region 13 with (fail)
      have hX := (Below.refl v7.heap.size v7).drew
      replace T := Lib.hid (T.out.low hX)
      replace BR := Lib.hid (BR.out.below hX BR.out.lt)
      replace BD := Lib.hid (BD.out.below hX BD.out.lt)
      replace W := Lib.hid (W.out.trans (hX.mono W.out.size))
      clear hX
      refine wp_region_any (by kernel_rfl) ?_
      change wpAny _ _ _ _ _ _ _ (World.drew _)
      generalize v7.drew = we at *
      refine wpAny_take (i := 0) (oi := ?oi21) (v := .pointer (some ⟨g, 0, none⟩)) ?hi21 (by kernel_rfl) (by kernel_rfl) (by kernel_rfl) ?hQ21 ?hy21 ?rest21
      case hi21 => simp only [zge]; rfl
      case hQ21 => exact fun _ _ _ h => h
      case hy21 => exact Or.inl ⟨by rfl, by intro w; go_simp⟩
      try simp only [zpt]
      refine wpAny_take (i := 1) (oi := ?oi22) (v := .slice (some ⟨q1, f1, none⟩) n c) ?hi22 (by kernel_rfl) (by kernel_rfl) (by kernel_rfl) ?hQ22 ?hy22 ?rest22
      case hi22 => simp only [zge]; rfl
      case hQ22 => exact fun _ _ _ h => h
      case hy22 => exact Or.inl ⟨by rfl, by intro w; go_simp⟩
      try simp only [zpt]
      refine wpAny_take (i := 2) (oi := ?oi23) (v := .int .i64 (m : Int)) ?hi23 (by kernel_rfl) (by kernel_rfl) (by kernel_rfl) ?hQ23 ?hy23 ?rest23
      case hi23 => simp only [zge]; rfl
      case hQ23 => exact fun _ _ _ h => h
      case hy23 => exact Or.inl ⟨by rfl, by intro w; go_simp⟩
      try simp only [zpt]
      refine wpAny_take (i := 3) (oi := ?oi24) (v := .pointer (some ⟨q1, o1, none⟩)) ?hi24 (by kernel_rfl) (by kernel_rfl) (by kernel_rfl) ?hQ24 ?hy24 ?rest24
      case hi24 => simp only [zge]; rfl
      case hQ24 => exact fun _ _ _ h => h
      case hy24 => exact Or.inl ⟨by rfl, by intro w; go_simp⟩
      try simp only [zpt]
      refine wpAny_take (i := 6) (oi := ?oi25) (v := .slice (some ⟨q2, f2, none⟩) n' c') ?hi25 (by kernel_rfl) (by kernel_rfl) (by kernel_rfl) ?hQ25 ?hy25 ?rest25
      case hi25 => simp only [zge]; rfl
      case hQ25 => exact fun _ _ _ h => h
      case hy25 => exact Or.inl ⟨by rfl, by intro w; go_simp⟩
      try simp only [zpt]
      refine wpAny_take (i := 7) (oi := ?oi26) (v := .int .i64 (m : Int)) ?hi26 (by kernel_rfl) (by kernel_rfl) (by kernel_rfl) ?hQ26 ?hy26 ?rest26
      case hi26 => simp only [zge]; rfl
      case hQ26 => exact fun _ _ _ h => h
      case hy26 => exact Or.inl ⟨by rfl, by intro w; go_simp⟩
      try simp only [zpt]
      refine wpAny_take (i := 8) (oi := ?oi27) (v := .pointer (some ⟨q2, o2, none⟩)) ?hi27 (by kernel_rfl) (by kernel_rfl) (by kernel_rfl) ?hQ27 ?hy27 ?rest27
      case hi27 => simp only [zge]; rfl
      case hQ27 => exact fun _ _ _ h => h
      case hy27 => exact Or.inl ⟨by rfl, by intro w; go_simp⟩
      try simp only [zpt]
      refine phaseL (fun i => if i = 5 then [4] else if i = 10 then [9, 5] else []) (fun d a w' => ∃ x62 x63 x67 x68 : Value, a = { tmps := #[.slice (some ⟨q1, f1, none⟩) n c, .slice (some ⟨q2, f2, none⟩) n' c', undef, undef, u4, .bool true, .pointer (some ⟨g, 0, none⟩), .pointer (some ⟨q, 0, none⟩), .int .i64 (m : Int), .pointer (some ⟨q3, 0, none⟩), .pointer (some ⟨q4, 0, none⟩), .bool true, .bool true, .bool true, .bool false, .pointer (some ⟨g, 0, none⟩), .agg Z.toArray, .int .i64 (m : Int), .slice (some ⟨q1, f1, none⟩) n c, .int .i64 (n : Int), .bool true, .bool true, .int .i64 (m : Int), .slice (some ⟨q2, f2, none⟩) n' c', .int .i64 (n' : Int), .bool true, .bool true, .bool true, .int .i64 (m : Int), .bool true, .bool true, u31, u32, .pointer (some ⟨g, 0, none⟩), .slice (some ⟨q1, f1, none⟩) n c, .int .i64 (m : Int), .pointer (some ⟨q1, o1, none⟩), .int .i64 z1, .agg NC.toArray, .agg PP.toArray, .tuple #[.agg DC.toArray, .bool true], .agg RC.toArray, .slice (some ⟨q1, f1, none⟩) n c, .int .i64 (m : Int), .pointer (some ⟨q1, o1, none⟩), .int .i64 z1, .agg NC.toArray, .slice (some ⟨q2, f2, none⟩) n' c', .int .i64 (m : Int), .pointer (some ⟨q2, o2, none⟩), .int .i64 z2, .agg SC.toArray, .agg PP.toArray, .tuple #[.agg DC.toArray, .bool true], .agg DC.toArray, .bool true, .bool true, .bool false, .pointer (some ⟨g, 0, none⟩), .slice (some ⟨q1, f1, none⟩) n c, .int .i64 (m : Int), .pointer (some ⟨q1, o1, none⟩), x62, x63, .slice (some ⟨q2, f2, none⟩) n' c', .int .i64 (m : Int), .pointer (some ⟨q2, o2, none⟩), x67, x68, u69, u70, u71, u72, u73, u74], defers := [] } ∧ Hid (Below we.heap.size we w') ∧ (d 4 = true → x62 = .int .i64 z1) ∧ (d 5 = true → x63 = .agg NC.toArray) ∧ (d 9 = true → x67 = .int .i64 z2) ∧ (d 10 = true → x68 = .agg SC.toArray)) [4, 5, 9, 10] ?step28 1 4 [4, 5, 9, 10] _ _ _ rfl (by decide) (fun _ h => h) (Fits.of (by kernel_rfl)) ?init28 ?fin28
      case init28 => refine ⟨_, _, _, _, rfl, Below.refl _ _, ?_, ?_, ?_, ?_⟩ <;> (intro h; exact absurd h (by decide))
      case step28 =>
        intro i hi d a v28 hI hdi hdeps
        obtain ⟨x62, x63, x67, x68, rfl, BW, h4, h5, h9, h10⟩ := hI
        have hsw := BW.out.size
        simp only [List.mem_cons, List.not_mem_nil, or_false] at hi
        rcases hi with rfl | rfl | rfl | rfl
        · have c0 : v28.cell? ⟨q1, o1, none⟩ = some (.int .i64 z1) := (World.cell?_of_block (a := ⟨q1, o1, none⟩) ((W.out.trans (BW.out.mono W.out.size)).block q1 hq1)).trans HC1.out
          refine wpOp_step (o := ?os29) ?hos29 (fun K hK => ?_)
          case hos29 => simp only [zge]; rfl
          go_simp
          refine hK _ _ ?_
          clear hK K
          try simp only [zpt]
          exact ⟨_, _, _, _, rfl, BW, fun _ => rfl, fun a => by first | exact h5 (by simpa using a) | rfl, fun a => by first | exact h9 (by simpa using a) | rfl, fun a => by first | exact h10 (by simpa using a) | rfl⟩
        · obtain rfl := h4 (hdeps 4 (by simp))
          refine wpOp_step (o := ?os30) ?hos30 (fun K hK => ?_)
          case hos30 => simp only [zge]; rfl
          go_simp
          refine (CN.out v28 ).mono ?_
          rintro e u28 ⟨rfl, hX⟩
          refine hK _ _ ?_
          clear hK K
          try simp only [zpt]
          exact ⟨_, _, _, _, rfl, BW.out.trans (hX.mono hsw), fun a => by first | exact h4 (by simpa using a) | rfl, fun _ => rfl, fun a => by first | exact h9 (by simpa using a) | rfl, fun a => by first | exact h10 (by simpa using a) | rfl⟩
        · have c0 : v28.cell? ⟨q2, o2, none⟩ = some (.int .i64 z2) := (World.cell?_of_block (a := ⟨q2, o2, none⟩) ((W.out.trans (BW.out.mono W.out.size)).block q2 hq2)).trans HC2.out
          refine wpOp_step (o := ?os31) ?hos31 (fun K hK => ?_)
          case hos31 => simp only [zge]; rfl
          go_simp
          refine hK _ _ ?_
          clear hK K
          try simp only [zpt]
          exact ⟨_, _, _, _, rfl, BW, fun a => by first | exact h4 (by simpa using a) | rfl, fun a => by first | exact h5 (by simpa using a) | rfl, fun _ => rfl, fun a => by first | exact h10 (by simpa using a) | rfl⟩
        · obtain rfl := h9 (hdeps 9 (by simp))
          refine wpOp_step (o := ?os32) ?hos32 (fun K hK => ?_)
          case hos32 => simp only [zge]; rfl
          go_simp
          refine (CS.out v28 ).mono ?_
          rintro e u28 ⟨rfl, hX⟩
          refine hK _ _ ?_
          clear hK K
          try simp only [zpt]
          exact ⟨_, _, _, _, rfl, BW.out.trans (hX.mono hsw), fun a => by first | exact h4 (by simpa using a) | rfl, fun a => by first | exact h5 (by simpa using a) | rfl, fun a => by first | exact h9 (by simpa using a) | rfl, fun _ => rfl⟩
      case fin28 =>
        intro a v28 hI
        obtain ⟨x62, x63, x67, x68, rfl, BW, h4, h5, h9, h10⟩ := hI
        obtain rfl := h4 (by decide)
        obtain rfl := h5 (by decide)
        obtain rfl := h9 (by decide)
        obtain rfl := h10 (by decide)
        clear h4 h5 h9 h10
        have hX := BW.out
        replace T := Lib.hid (T.out.low hX)
        replace BR := Lib.hid (BR.out.below hX BR.out.lt)
        replace BD := Lib.hid (BD.out.below hX BD.out.lt)
        replace W := Lib.hid (W.out.trans (hX.mono W.out.size))
        clear hX BW
        try dsimp only
        refine wpAny_ready (rs := [11]) (by kernel_rfl) (by simp) ?_
        refine AllReady.cons (o := ?p33) ?q33 (fun K hK => ?_) AllReady.nil
        case q33 => simp only [zge]; rfl
        go_simp
        refine (CP.out v28 W.out T.out).mono ?_
        rintro e w9 ⟨⟨bb, rfl⟩, hT, hG⟩
        replace BR := Lib.hid (put_keeps T.out BR.out (by decide) hG)
        replace BD := Lib.hid (put_keeps T.out BD.out (by decide) hG)
        replace W : Hid (Below w.heap.size w _) := W.out.grown hG W.out.size (fun q hq => by have h : g = q := Option.some.inj hq; omega)
        replace T := Lib.hid hT
        clear hT hG
        refine hK _ _ ?_
        clear hK K
        try simp only [zpt]
        refine wpAny_done (by kernel_rfl) ?_ _
        clear CN CS CP
        go_upto_region 15 with (first
          | (with_reducible refine load_law rfl 30 (.tmp 10) rfl q4 0 rfl DC _ Tryd.underlying30 rfl IDC.out BD.out.cells ?_)
          | (with_reducible refine storeAll_law rfl 30 (.tmp 7) (.tmp 70) rfl q rfl DC rfl 30 RC BR.out IDC.out (NRC.out.trans NDC.out.symm) ODC.out ?_))
        have T' : Hid (TreeAt (w9.setRow q DC.toArray) g l') := tree_row T.out BR.out (by decide) (by decide) (by decide) _
        have B' : Hid (Blk (w9.setRow q DC.toArray) q 30 DC) := BR.out.row
        have W' : Hid (Below w.heap.size w (w9.setRow q DC.toArray)) := below_setRow W.out hqw _
        generalize w9.setRow q DC.toArray = w10 at *
        clear T W BR BD
        have hX := (Below.refl w10.heap.size w10).drew
        replace T' := Lib.hid (T'.out.low hX)
        replace B' := Lib.hid (B'.out.below hX B'.out.lt)
        replace W' := Lib.hid (W'.out.trans (hX.mono W'.out.size))
        clear hX
        refine wp_region_any (by kernel_rfl) ?_
        change wpAny _ _ _ _ _ _ _ (World.drew _)
        generalize w10.drew = wf at *
        refine wpAny_take (i := 1) (oi := ?oi34) (v := .pointer (some ⟨g, 0, none⟩)) ?hi34 (by kernel_rfl) (by kernel_rfl) (by kernel_rfl) ?hQ34 ?hy34 ?rest34
        case hi34 => simp only [zge]; rfl
        case hQ34 => exact fun _ _ _ h => h
        case hy34 => exact Or.inl ⟨by rfl, by intro w; go_simp⟩
        try simp only [zpt]
        refine phaseL (fun i => if i = 3 then [0, 2] else []) (fun d a w' => ∃ x71 x73 x74 : Value, a = { tmps := #[.slice (some ⟨q1, f1, none⟩) n c, .slice (some ⟨q2, f2, none⟩) n' c', undef, undef, u4, .bool true, .pointer (some ⟨g, 0, none⟩), .pointer (some ⟨q, 0, none⟩), .int .i64 (m : Int), .pointer (some ⟨q3, 0, none⟩), .pointer (some ⟨q4, 0, none⟩), .bool true, .bool true, .bool true, .bool false, .pointer (some ⟨g, 0, none⟩), .agg Z.toArray, .int .i64 (m : Int), .slice (some ⟨q1, f1, none⟩) n c, .int .i64 (n : Int), .bool true, .bool true, .int .i64 (m : Int), .slice (some ⟨q2, f2, none⟩) n' c', .int .i64 (n' : Int), .bool true, .bool true, .bool true, .int .i64 (m : Int), .bool true, .bool true, u31, u32, .pointer (some ⟨g, 0, none⟩), .slice (some ⟨q1, f1, none⟩) n c, .int .i64 (m : Int), .pointer (some ⟨q1, o1, none⟩), .int .i64 z1, .agg NC.toArray, .agg PP.toArray, .tuple #[.agg DC.toArray, .bool true], .agg RC.toArray, .slice (some ⟨q1, f1, none⟩) n c, .int .i64 (m : Int), .pointer (some ⟨q1, o1, none⟩), .int .i64 z1, .agg NC.toArray, .slice (some ⟨q2, f2, none⟩) n' c', .int .i64 (m : Int), .pointer (some ⟨q2, o2, none⟩), .int .i64 z2, .agg SC.toArray, .agg PP.toArray, .tuple #[.agg DC.toArray, .bool true], .agg DC.toArray, .bool true, .bool true, .bool false, .pointer (some ⟨g, 0, none⟩), .slice (some ⟨q1, f1, none⟩) n c, .int .i64 (m : Int), .pointer (some ⟨q1, o1, none⟩), .int .i64 z1, .agg NC.toArray, .slice (some ⟨q2, f2, none⟩) n' c', .int .i64 (m : Int), .pointer (some ⟨q2, o2, none⟩), .int .i64 z2, .agg SC.toArray, .bool bb, .agg DC.toArray, x71, .pointer (some ⟨g, 0, none⟩), x73, x74], defers := [] } ∧ Hid (Below wf.heap.size wf w') ∧ (d 0 = true → x71 = .agg DC.toArray) ∧ (d 2 = true → x73 = .agg DC.toArray) ∧ (d 3 = true → x74 = .bool false)) [0, 2, 3] ?step35 0 3 [0, 2, 3] _ _ _ rfl (by decide) (fun _ h => h) (Fits.of (by kernel_rfl)) ?init35 ?fin35
        case init35 => refine ⟨_, _, _, rfl, Below.refl _ _, ?_, ?_, ?_⟩ <;> (intro h; exact absurd h (by decide))
        case step35 =>
          intro i hi d a v35 hI hdi hdeps
          obtain ⟨x71, x73, x74, rfl, BW, h0, h2, h3⟩ := hI
          have hsw := BW.out.size
          simp only [List.mem_cons, List.not_mem_nil, or_false] at hi
          rcases hi with rfl | rfl | rfl
          · refine wpOp_step (o := ?os36) ?hos36 (fun K hK => ?_)
            case hos36 => simp only [zge]; rfl
            refine step_loadW rfl 30 (.tmp 7) rfl q 0 rfl DC _ Tryd.underlying30 rfl IDC.out (B'.out.below BW.out B'.out.lt).cells (hK _ _ ?_)
            clear hK K
            try simp only [zpt]
            exact ⟨_, _, _, rfl, BW, fun _ => rfl, fun a => by first | exact h2 (by simpa using a) | rfl, fun a => by first | exact h3 (by simpa using a) | rfl⟩
          · refine wpOp_step (o := ?os37) ?hos37 (fun K hK => ?_)
            case hos37 => simp only [zge]; rfl
            go_simp
            refine (CR.out v35 (T'.out.low BW.out)).mono ?_
            rintro e u35 ⟨rfl, hX⟩
            refine hK _ _ ?_
            clear hK K
            try simp only [zpt]
            exact ⟨_, _, _, rfl, BW.out.trans (hX.mono hsw), fun a => by first | exact h0 (by simpa using a) | rfl, fun _ => rfl, fun a => by first | exact h3 (by simpa using a) | rfl⟩
          · obtain rfl := h0 (hdeps 0 (by simp))
            obtain rfl := h2 (hdeps 2 (by simp))
            have er := ER.out
            refine wpOp_step (o := ?os38) ?hos38 (fun K hK => ?_)
            case hos38 => simp only [zge]; rfl
            go_simp
            refine hK _ _ ?_
            clear hK K
            try simp only [zpt]
            exact ⟨_, _, _, rfl, BW, fun a => by first | exact h0 (by simpa using a) | rfl, fun a => by first | exact h2 (by simpa using a) | rfl, fun _ => rfl⟩
        case fin35 =>
          intro a v35 hI
          obtain ⟨x71, x73, x74, rfl, BW, h0, h2, h3⟩ := hI
          obtain rfl := h0 (by decide)
          obtain rfl := h2 (by decide)
          obtain rfl := h3 (by decide)
          clear h0 h2 h3
          have hX := BW.out
          replace T' := Lib.hid (T'.out.low hX)
          replace B' := Lib.hid (B'.out.below hX B'.out.lt)
          replace W' := Lib.hid (W'.out.trans (hX.mono W'.out.size))
          clear hX BW
          try dsimp only
          refine wpAny_done (by kernel_rfl) ?_ _
          rw [EDC.out] at B'
          go_wp2_with fail
          go_roundw
          case rel => exact ⟨m + 1, l', by omega, by go_num, HLEN', T', B', W'⟩
          case measure => simp [intOf]; omega
end Go.Proofs.YtmidbpjdpakkoaaDoor.proofWalk
