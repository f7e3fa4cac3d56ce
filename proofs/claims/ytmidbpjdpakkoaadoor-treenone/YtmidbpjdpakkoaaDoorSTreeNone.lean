import Derived.Test.YtmidbpjdpakkoaaDoorSTbg
namespace Go.Proofs.YtmidbpjdpakkoaaDoor.treeNone
set_option linter.unusedVariables false
set_option linter.unusedSimpArgs false
set_option maxRecDepth 100000
open Go.RowKit
set_option maxRecDepth 100000 in
set_option maxHeartbeats 4000000 in
theorem walk (hB : BegunOk) (w : World) (hg : Gl w) : Calls Tryd.prog 5 #[] w fun e w' => e = .returned (.bool true) ∧ Below w.heap.size w w' := by
  have HG := Lib.hid hg
  have hsz := hg.size
  have CG : Hid (∀ W, Below w.heap.size w W → Calls Tryd.prog 14 #[] W fun e w' => e = .returned (.bool true) ∧ Below W.heap.size W w') := fun W hW => hB (hg.below hW hsz)
  have BZ0 := Lib.hid zero_built
  have IZ := Lib.hid zero_info
  have OZ := Lib.hid zero_one
  have HZL : Hid ((List.replicate 32 (Value.int .u8 0)).length = 32) := rfl
  have HZN : Hid (Tm.none32.map cellOf = (List.replicate 32 (Value.int .u8 0))) := rfl
  have ZB0 : Hid (∀ W : World, Blk (W.alloc (.cells (List.replicate 32 (Value.int .u8 0)).toArray 30)) W.heap.size 30 (List.replicate 32 (Value.int .u8 0))) := fun W => Blk.new W 30 _
  have ZPB : Hid (∀ W : World, Blk (W.alloc (.cells (proofL (.slice none 0 0) false (List.replicate 32 (Value.int .u8 0)) (List.replicate 32 (Value.int .u8 0))).toArray 38)) W.heap.size 38 (proofL (.slice none 0 0) false (List.replicate 32 (Value.int .u8 0)) (List.replicate 32 (Value.int .u8 0)))) := fun W => Blk.new W 38 _
  have HZP : Hid ((proofL (.slice none 0 0) false (List.replicate 32 (Value.int .u8 0)) (List.replicate 32 (Value.int .u8 0))).length = 66) := rfl
  obtain ⟨Z, hZ⟩ : ∃ Z, Z = List.replicate 32 (Value.int .u8 0) := ⟨_, rfl⟩
  rw [← hZ] at BZ0 IZ OZ HZL HZN
  have ZB : Hid (∀ W : World, Blk (W.alloc (.cells (List.replicate 32 (Value.int .u8 0)).toArray 30)) W.heap.size 30 Z) := fun W => by rw [hZ]; exact ZB0.out W
  have HZE : Hid ((List.replicate 32 (Value.int .u8 0)) = Z) := hZ.symm
  obtain ⟨ZP, hZP⟩ : ∃ Z, Z = (proofL (.slice none 0 0) false (List.replicate 32 (Value.int .u8 0)) (List.replicate 32 (Value.int .u8 0))) := ⟨_, rfl⟩
  have ZPB' : Hid (∀ W : World, Blk (W.alloc (.cells (proofL (.slice none 0 0) false (List.replicate 32 (Value.int .u8 0)) (List.replicate 32 (Value.int .u8 0))).toArray 38)) W.heap.size 38 ZP) := fun W => by rw [hZP]; exact ZPB.out W
  have HZPE : Hid ((proofL (.slice none 0 0) false (List.replicate 32 (Value.int .u8 0)) (List.replicate 32 (Value.int .u8 0))) = ZP) := hZP.symm
  rw [← hZP] at HZP
  have hkl := nm_length 1
  have EZ := Lib.hid (hash_eq Tm.none32 Tm.none32 rfl rfl)
  rw [decide_eq_true rfl, HZN.out] at EZ
  have BZP : Hid (Tryd.prog.built 38 [] = some ZP.toArray) := by unfold Hid; rw [← HZPE.out]; exact proof_built
  have IZP : Hid ((Tryd.prog.info? 38).map (·.size) = some ZP.length) := by unfold Hid; rw [HZP.out]; kernel_rfl
  have OZP : Hid (∀ v ∈ ZP, v.oneCell' = true) := by
    unfold Hid
    rw [← HZPE.out]
    exact proofL_one rfl zero_one zero_one
  have hP0 : Tm.prove [] (nm 1) = ⟨[], false, Tm.none32, Tm.none32⟩ := by
    unfold Tm.prove
    rw [Tm.sides_one (by simp), Tm.ends_one (by simp)]
    rfl
  have hzi : ∀ W, PrfIn W (.agg ZP.toArray) ⟨[], false, Tm.none32, Tm.none32⟩ := fun W => ⟨⟨none, 0, 0, by rw [← HZPE.out]; rfl, Rd2.nil W 32, by omega⟩, rfl, rfl, by simp⟩
  have CN : Hid (∀ W, Calls Tryd.prog 20 #[.int .i64 1] W fun e w' => e = .returned (hv (nm 1)) ∧ Below W.heap.size W w') := fun W => nm_any 1 (by omega) (by omega) W
  have CS : Hid (∀ W, Calls Tryd.prog 27 #[.int .i64 1] W fun e w' => e = .returned (hv (sm 1)) ∧ Below W.heap.size W w') := fun W => sm_any 1 W
  have CGN : Hid (∀ W, Calls Tryd.prog 19 #[.pointer none, hv (nm 1)] W fun e w' => e = .returned (.tuple #[.agg Z.toArray, .bool false]) ∧ Below W.heap.size W w') := fun W => by
    have := tget_none W (nm 1)
    unfold hv at this ⊢
    rwa [HZN.out] at this
  have CVN : Hid (∀ W, Calls Tryd.prog 21 #[.pointer none, hv (nm 1)] W fun e w' => e = .returned (.agg ZP.toArray) ∧ Below W.heap.size W w') := fun W => by
    have := tprove_none W (nm 1)
    rwa [HZPE.out] at this
  have CV : Hid (∀ W g, TreeAt W g [] → Calls Tryd.prog 21 #[.pointer (some ⟨g, 0, none⟩), hv (nm 1)] W fun e w' => ∃ PP : List Value, e = .returned (.agg PP.toArray) ∧ PrfAt w' W.heap.size (.agg PP.toArray) ⟨[], false, Tm.none32, Tm.none32⟩ ∧ (Tryd.prog.info? 38).map (·.size) = some PP.length ∧ (∀ v ∈ PP, v.oneCell' = true) ∧ PP.length = 66 ∧ Below W.heap.size W w') := fun W g hT => by
    have := prove_row hT hkl
    rwa [hP0] at this
  have CPN : Hid (∀ W, Calls Tryd.prog 26 #[.pointer none, hv (nm 1), hv (sm 1)] W fun e w' => e = .returned (.bool false) ∧ Below W.heap.size W w') := fun W => tput_none W (nm 1) (sm 1)
  have CLN : Hid (∀ W, Calls Tryd.prog 16 #[.pointer none] W fun e w' => e = .returned (.int .i64 0) ∧ W = w') := fun W => tlen_none W
  have CRN : Hid (∀ W, Calls Tryd.prog 17 #[.pointer none] W fun e w' => e = .returned (.agg Z.toArray) ∧ Below W.heap.size W w') := fun W => by
    have := troot_none W
    unfold hv at this
    rwa [HZN.out] at this
  have CR : Hid (∀ W g, TreeAt W g [] → Calls Tryd.prog 17 #[.pointer (some ⟨g, 0, none⟩)] W fun e w' => e = .returned (.agg Z.toArray) ∧ Below W.heap.size W w') := fun W g hT => by
    have := troot_any hT
    unfold hv at this
    rwa [Tm.root_nil, HZN.out] at this
  have CCN : Hid (∀ W, Calls Tryd.prog 28 #[.pointer none] W fun e w' => e = .returned (.pointer none) ∧ W = w') := fun W => tcopy_none W
  have CE1 : Hid (∀ W, Calls Tryd.prog 24 #[.agg ZP.toArray, .agg ZP.toArray] W fun e w' => e = .returned (.bool true) ∧ Below W.heap.size W w') := fun W => eqproof_same (hzi W) (hzi W)
  have CE2 : Hid (∀ W B x, PrfAt W B x ⟨[], false, Tm.none32, Tm.none32⟩ → Calls Tryd.prog 24 #[x, .agg ZP.toArray] W fun e w' => e = .returned (.bool true) ∧ Below W.heap.size W w') := fun W B x h => eqproof_same (h.in_ (by simp) (by simp)) (hzi W)
  unfold hv at CN CS CGN CVN CV CPN
  have INC := Lib.hid (hash_info (hkl))
  have ONC := Lib.hid (cells_u8 (nm 1))
  have LNC : Hid (Z.length = ((nm 1).map cellOf).length) := by unfold Hid; rw [List.length_map, hkl, HZL.out]
  obtain ⟨NC, hNC⟩ : ∃ L, L = (nm 1).map cellOf := ⟨_, rfl⟩
  have NNC : Hid (NC.length = 32) := by unfold Hid; rw [hNC, List.length_map, hkl]
  rw [← hNC] at INC ONC LNC CN CGN CVN CV CPN
  have ENC := Lib.hid hNC
  clear hNC
  have ISC := Lib.hid (hash_info (sm_length 1))
  have OSC := Lib.hid (cells_u8 (sm 1))
  have LSC : Hid (Z.length = ((sm 1).map cellOf).length) := by unfold Hid; rw [List.length_map, sm_length 1, HZL.out]
  obtain ⟨SC, hSC⟩ : ∃ L, L = (sm 1).map cellOf := ⟨_, rfl⟩
  have NSC : Hid (SC.length = 32) := by unfold Hid; rw [hSC, List.length_map, sm_length 1]
  rw [← hSC] at ISC OSC LSC CS CPN
  have ESC := Lib.hid hSC
  clear hSC
  have W := Lib.hid (Below.refl w.heap.size w)
  clear hg hZ hZP ZB0 ZPB hP0 hzi hkl
  go_enter Tryd.func5, Tryd.ntmps5
  go_upto_region 3 with (first
    | (go_at_call 25; refine (tnew_any w).mono ?_; rintro e w1 ⟨g, rfl, hT, hgw, hX⟩; have T := Lib.hid hT; replace W := Lib.hid (W.out.trans (hX.mono W.out.size)); clear hT hX))
  go_upto_region 4 with (first
    | (go_at_call 20; refine (CN.out w1).mono ?_; rintro e w2 ⟨rfl, hX⟩; replace T := Lib.hid (T.out.low hX); replace W := Lib.hid (W.out.trans (hX.mono W.out.size)); clear hX)
    | (go_at_call 19; refine (CGN.out w2).mono ?_; rintro e w3 ⟨rfl, hX⟩; replace T := Lib.hid (T.out.low hX); replace W := Lib.hid (W.out.trans (hX.mono W.out.size)); clear hX)
    | ((with_reducible refine storeGen_law rfl 30 (.tmp 3) (.tmp 12) rfl w3.heap.size rfl Z rfl 30 Z IZ.out rfl OZ.out w3.heap.size w3 ?_ ?_ (Nat.le_refl _) ?_)
       · exact ZB.out w3
       · exact alloc_below w3 _
       intro w4 BZ hX'; have hX := hX'.out; clear hX'; replace T := Lib.hid (T.out.low hX); replace W := Lib.hid (W.out.trans (hX.mono W.out.size)); clear hX))
  go_upto_region 5 with (first
    | (go_at_call 21; refine (CV.out w7 g T.out).mono ?_; rintro e w8 ⟨PP, rfl, hPI, hp1, hp2, hp3, hX⟩; replace T := Lib.hid (T.out.low hX); replace W := Lib.hid (W.out.trans (hX.mono W.out.size)); clear hX; have PI := Lib.hid hPI; have IPP := Lib.hid hp1; have OPP := Lib.hid hp2; have LPP : Hid (ZP.length = PP.length) := HZP.out.trans hp3.symm; clear hPI hp1 hp2 hp3)
    | (go_at_call 20; refine (CN.out w6).mono ?_; rintro e w7 ⟨rfl, hX⟩; replace T := Lib.hid (T.out.low hX); replace W := Lib.hid (W.out.trans (hX.mono W.out.size)); clear hX)
    | (go_at_call 21; refine (CVN.out w5).mono ?_; rintro e w6 ⟨rfl, hX⟩; replace T := Lib.hid (T.out.low hX); replace W := Lib.hid (W.out.trans (hX.mono W.out.size)); clear hX)
    | (go_at_call 20; refine (CN.out w4).mono ?_; rintro e w5 ⟨rfl, hX⟩; replace T := Lib.hid (T.out.low hX); replace W := Lib.hid (W.out.trans (hX.mono W.out.size)); clear hX)
    | ((with_reducible refine storeAll_law rfl 38 (.tmp 5) (.tmp 16) rfl w8.heap.size rfl ZP rfl 38 ZP ?_ IZP.out rfl OZP.out ?_); exact (ZPB'.out w8).alloc _)
    | ((with_reducible refine storeAll_law rfl 38 (.tmp 6) (.tmp 19) rfl (w8.heap.size + 1) rfl PP rfl 38 ZP ?_ IPP.out LPP.out OPP.out ?_); exact (show Blk _ (w8.heap.size + 1) 38 ZP by have := ZPB'.out (w8.alloc (.cells (proofL (.slice none 0 0) false (List.replicate 32 (Value.int .u8 0)) (List.replicate 32 (Value.int .u8 0))).toArray 38)); rwa [World.size_alloc] at this).rowFar (by omega) _))
  obtain ⟨h1u, h2u, hX⟩ := two_new w8 38 38 (proofL (.slice none 0 0) false (List.replicate 32 (Value.int .u8 0)) (List.replicate 32 (Value.int .u8 0))) (proofL (.slice none 0 0) false (List.replicate 32 (Value.int .u8 0)) (List.replicate 32 (Value.int .u8 0))) ZP PP
  change Code.wp _ _ _ _ ((((w8.alloc (.cells (proofL (.slice none 0 0) false (List.replicate 32 (Value.int .u8 0)) (List.replicate 32 (Value.int .u8 0))).toArray 38)).alloc (.cells (proofL (.slice none 0 0) false (List.replicate 32 (Value.int .u8 0)) (List.replicate 32 (Value.int .u8 0))).toArray 38)).setRow w8.heap.size ZP.toArray).setRow (w8.heap.size + 1) PP.toArray)
  have BPa := Lib.hid h1u
  have BPb := Lib.hid h2u
  clear h1u h2u
  generalize (((w8.alloc (.cells (proofL (.slice none 0 0) false (List.replicate 32 (Value.int .u8 0)) (List.replicate 32 (Value.int .u8 0))).toArray 38)).alloc (.cells (proofL (.slice none 0 0) false (List.replicate 32 (Value.int .u8 0)) (List.replicate 32 (Value.int .u8 0))).toArray 38)).setRow w8.heap.size ZP.toArray).setRow (w8.heap.size + 1) PP.toArray = w9 at *
  replace T := Lib.hid (T.out.low hX)
  replace PI := Lib.hid (PI.out.below hX)
  replace W := Lib.hid (W.out.trans (hX.mono W.out.size))
  obtain ⟨q1, hq1⟩ : ∃ q, q = w8.heap.size := ⟨_, rfl⟩
  obtain ⟨q2, hq2⟩ : ∃ q, q = w8.heap.size + 1 := ⟨_, rfl⟩
  rw [← hq2, ← hq1]
  rw [← hq1] at BPa
  rw [← hq2] at BPb
  clear hq1 hq2 hX
  have ez := EZ.out
  go_wp2_with (first
    | (with_reducible refine load_when (by kernel_rfl) 38 (.tmp 5) rfl q1 0 rfl ZP _ Tryd.underlying38 rfl IZP.out BPa.out.cells ?_)
    | (with_reducible refine load_when (by kernel_rfl) 38 (.tmp 6) rfl q2 0 rfl PP _ Tryd.underlying38 rfl IPP.out BPb.out.cells ?_)
    | (with_reducible refine build_when (by kernel_rfl) 30 #[] rfl Z (by simp only [List.map_toArray, List.map_nil]; exact BZ0.out) ?_)
    | (with_reducible refine build_when (by kernel_rfl) 38 #[] rfl ZP (by simp only [List.map_toArray, List.map_nil]; exact BZP.out) ?_)
    | (go_at_call 17; refine (CR.out wi g T.out).mono ?_; rintro e wj ⟨rfl, hX⟩; replace T := Lib.hid (T.out.low hX); replace PI := Lib.hid (PI.out.below hX); replace BPa := Lib.hid (BPa.out.below hX BPa.out.lt); replace BPb := Lib.hid (BPb.out.below hX BPb.out.lt); replace W := Lib.hid (W.out.trans (hX.mono W.out.size)); clear hX)
    | (go_at_call 24; refine (CE2.out wh _ _ PI.out).mono ?_; rintro e wi ⟨rfl, hX⟩; replace T := Lib.hid (T.out.low hX); replace PI := Lib.hid (PI.out.below hX); replace BPa := Lib.hid (BPa.out.below hX BPa.out.lt); replace BPb := Lib.hid (BPb.out.below hX BPb.out.lt); replace W := Lib.hid (W.out.trans (hX.mono W.out.size)); clear hX)
    | (go_at_call 24; refine (CE1.out wf).mono ?_; rintro e wh ⟨rfl, hX⟩; replace T := Lib.hid (T.out.low hX); replace PI := Lib.hid (PI.out.below hX); replace BPa := Lib.hid (BPa.out.below hX BPa.out.lt); replace BPb := Lib.hid (BPb.out.below hX BPb.out.lt); replace W := Lib.hid (W.out.trans (hX.mono W.out.size)); clear hX)
    | (go_at_call 28; refine (CCN.out wf).mono ?_; rintro e wg ⟨rfl, rfl⟩; skip)
    | (go_at_call 17; refine (CRN.out wd).mono ?_; rintro e wf ⟨rfl, hX⟩; replace T := Lib.hid (T.out.low hX); replace PI := Lib.hid (PI.out.below hX); replace BPa := Lib.hid (BPa.out.below hX BPa.out.lt); replace BPb := Lib.hid (BPb.out.below hX BPb.out.lt); replace W := Lib.hid (W.out.trans (hX.mono W.out.size)); clear hX)
    | (go_at_call 16; refine (CLN.out wd).mono ?_; rintro e we ⟨rfl, rfl⟩; skip)
    | (go_at_call 26; refine (CPN.out wc).mono ?_; rintro e wd ⟨rfl, hX⟩; replace T := Lib.hid (T.out.low hX); replace PI := Lib.hid (PI.out.below hX); replace BPa := Lib.hid (BPa.out.below hX BPa.out.lt); replace BPb := Lib.hid (BPb.out.below hX BPb.out.lt); replace W := Lib.hid (W.out.trans (hX.mono W.out.size)); clear hX)
    | (go_at_call 27; refine (CS.out wb).mono ?_; rintro e wc ⟨rfl, hX⟩; replace T := Lib.hid (T.out.low hX); replace PI := Lib.hid (PI.out.below hX); replace BPa := Lib.hid (BPa.out.below hX BPa.out.lt); replace BPb := Lib.hid (BPb.out.below hX BPb.out.lt); replace W := Lib.hid (W.out.trans (hX.mono W.out.size)); clear hX)
    | (go_at_call 20; refine (CN.out wa).mono ?_; rintro e wb ⟨rfl, hX⟩; replace T := Lib.hid (T.out.low hX); replace PI := Lib.hid (PI.out.below hX); replace BPa := Lib.hid (BPa.out.below hX BPa.out.lt); replace BPb := Lib.hid (BPb.out.below hX BPb.out.lt); replace W := Lib.hid (W.out.trans (hX.mono W.out.size)); clear hX)
    | (go_at_call 14; refine (CG.out w9 W.out).mono ?_; rintro e wa ⟨rfl, hX⟩; replace T := Lib.hid (T.out.low hX); replace PI := Lib.hid (PI.out.below hX); replace BPa := Lib.hid (BPa.out.below hX BPa.out.lt); replace BPb := Lib.hid (BPb.out.below hX BPb.out.lt); replace W := Lib.hid (W.out.trans (hX.mono W.out.size)); clear hX))
  go_ret
  exact ⟨rfl, W.out⟩
end Go.Proofs.YtmidbpjdpakkoaaDoor.treeNone
