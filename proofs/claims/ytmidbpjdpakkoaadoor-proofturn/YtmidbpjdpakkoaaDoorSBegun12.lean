import Derived.Test.YtmidbpjdpakkoaaDoorSTal
import Derived.Test.YtmidbpjdpakkoaaDoorSTg0
namespace Go.Proofs.YtmidbpjdpakkoaaDoor
set_option linter.unusedVariables false
set_option linter.unusedSimpArgs false
set_option maxRecDepth 100000
open Go.RowKit
theorem begun12_facts : ∃ l1 l2 l3 l5 : List Tm.P, Tm.put (nm 1, sm 1) [] = l1 ∧ Tm.put (nm 2, sm 2) l1 = l2 ∧ Tm.put (nm 2, sm 3) l2 = l3 ∧ Tm.put (nm 1, sm 5) l3 = l5 ∧
    Tm.get (nm 2) l1 = none ∧ (Tm.get (nm 2) l2).isSome = true ∧ Tm.get (nm 2) l3 = some (sm 3) ∧ l1.length = 1 ∧ l2.length = 2 ∧ l3.length = 2 ∧ l5.length = 2 ∧ Tm.root 0 l1 = Tm.leaf (nm 1) (sm 1) ∧ Tm.Fit 0 l3 ∧
    (Tm.prove l3 (nm 1)).told (Tm.root 0 l3) (nm 1) = sm 1 ∧ ((Tm.prove l3 (nm 1)).holds (Tm.root 0 l3) (nm 1) && (Tm.prove l3 (nm 1)).there (nm 1)) = true ∧ (Tm.prove l3 (nm 1)).holds (Tm.root 0 l3) (nm 1) = true ∧
    (Tm.prove l3 (nm 1)).after (Tm.root 0 l3) (nm 1) (sm 5) = Tm.root 0 l5 ∧ 0 < (Tm.prove l3 (nm 1)).sides.length := by
  have h12 : ¬ nm 1 = nm 2 := by decide +kernel
  have e1 : Tm.put (nm 1, sm 1) [] = [(nm 1, sm 1)] := rfl
  have e2 : Tm.put (nm 2, sm 2) [(nm 1, sm 1)] = [(nm 1, sm 1), (nm 2, sm 2)] := by rw [Tm.put, if_neg h12]; rfl
  have e3 : Tm.put (nm 2, sm 3) [(nm 1, sm 1), (nm 2, sm 2)] = [(nm 1, sm 1), (nm 2, sm 3)] := by rw [Tm.put, if_neg h12, Tm.put, if_pos rfl]
  have e5 : Tm.put (nm 1, sm 5) [(nm 1, sm 1), (nm 2, sm 3)] = [(nm 1, sm 5), (nm 2, sm 3)] := by rw [Tm.put, if_pos rfl]
  have hf : Tm.Fit 0 [(nm 1, sm 1), (nm 2, sm 3)] := by
    rw [← e3, ← e2]
    exact ((Tm.Fit.one 0 (p := (nm 1, sm 1)) (nm_length 1) (sm_length 1)).more0 (nm_length 2) (sm_length 2)).more0 (nm_length 2) (sm_length 3)
  have hg : Tm.get (nm 1) [(nm 1, sm 1), (nm 2, sm 3)] = some (sm 1) := by rw [Tm.get, if_pos rfl]
  refine ⟨_, _, _, _, e1, e2, e3, e5, ?_, ?_, ?_, rfl, rfl, rfl, rfl, Tm.root_one _ _, hf, ?_, ?_, Tm.prove_holds hf _, ?_, ?_⟩
  · rw [Tm.get, if_neg h12]; rfl
  · rw [Tm.get, if_neg h12, Tm.get, if_pos rfl]; rfl
  · rw [Tm.get, if_neg h12, Tm.get, if_pos rfl]
  · rw [Tm.prove_told hf, hg]; rfl
  · rw [Tm.prove_holds hf, Tm.prove_there hf, hg]; rfl
  · rw [Tm.prove_after hf, e5]
  · unfold Tm.prove
    rw [Tm.sides_of, Tm.sides_more (by simp) (by omega)]
    simp
set_option maxRecDepth 100000 in
set_option maxHeartbeats 4000000 in
theorem begun12_any {w : World} (hg : Gl w) : Calls Tryd.prog 14 #[] w fun e w' => e = .returned (.bool true) ∧ Below w.heap.size w w' := by
  obtain ⟨l1, l2, l3, l5, e1, e2, e3, e5, hg2, hg3, hg4, hl1, hl2, hl3, hl5, hr1, hf3, htd, hth, hho, haf, hsd⟩ := begun12_facts
  have HG := Lib.hid hg
  have hsz := hg.size
  have hn1 := nm_length 1
  have hn2 := nm_length 2
  have CN1 : Hid (∀ W, Calls Tryd.prog 20 #[.int .i64 1] W fun e w' => e = .returned (hv (nm 1)) ∧ Below W.heap.size W w') := fun W => nm_any 1 (by omega) (by omega) W
  have CN2 : Hid (∀ W, Calls Tryd.prog 20 #[.int .i64 2] W fun e w' => e = .returned (hv (nm 2)) ∧ Below W.heap.size W w') := fun W => nm_any 2 (by omega) (by omega) W
  have CS1 : Hid (∀ W, Calls Tryd.prog 27 #[.int .i64 1] W fun e w' => e = .returned (hv (sm 1)) ∧ Below W.heap.size W w') := fun W => sm_any 1 W
  have CS2 : Hid (∀ W, Calls Tryd.prog 27 #[.int .i64 2] W fun e w' => e = .returned (hv (sm 2)) ∧ Below W.heap.size W w') := fun W => sm_any 2 W
  have CS3 : Hid (∀ W, Calls Tryd.prog 27 #[.int .i64 3] W fun e w' => e = .returned (hv (sm 3)) ∧ Below W.heap.size W w') := fun W => sm_any 3 W
  have CS5 : Hid (∀ W, Calls Tryd.prog 27 #[.int .i64 5] W fun e w' => e = .returned (hv (sm 5)) ∧ Below W.heap.size W w') := fun W => sm_any 5 W
  have CLF : Hid (∀ W, Below w.heap.size w W → Calls Tryd.prog 34 #[hv (nm 1), hv (sm 1)] W fun e w' => e = .returned (hv (Tm.leaf (nm 1) (sm 1))) ∧ Below W.heap.size W w') := fun W h => tleaf_any (hg.below h hsz) hn1 (sm_length 1)
  have CP1 : Hid (∀ W g, Below w.heap.size w W → w.heap.size ≤ g → TreeAt W g [] → Calls Tryd.prog 26 #[.pointer (some ⟨g, 0, none⟩), hv (nm 1), hv (sm 1)] W fun e w' => e = .returned (.bool true) ∧ TreeAt w' g l1 ∧ W.grownBy w' (some g)) := fun W g h hg2 hT => by
    have := tput_any (hg.below h hsz) hT (Nat.le_trans hsz hg2) (by simp) hn1 (sm_length 1)
    rwa [e1] at this
  have CP2 : Hid (∀ W g, Below w.heap.size w W → w.heap.size ≤ g → TreeAt W g l1 → Calls Tryd.prog 26 #[.pointer (some ⟨g, 0, none⟩), hv (nm 2), hv (sm 2)] W fun e w' => e = .returned (.bool true) ∧ TreeAt w' g l2 ∧ W.grownBy w' (some g)) := fun W g h hgw hT => by
    have := tput_any (hg.below h hsz) hT (Nat.le_trans hsz hgw) (by omega) hn2 (sm_length 2)
    rwa [e2, hg2] at this
  have CP3 : Hid (∀ W g, Below w.heap.size w W → w.heap.size ≤ g → TreeAt W g l2 → Calls Tryd.prog 26 #[.pointer (some ⟨g, 0, none⟩), hv (nm 2), hv (sm 3)] W fun e w' => e = .returned (.bool false) ∧ TreeAt w' g l3 ∧ W.grownBy w' (some g)) := fun W g h hgw hT => by
    have := tput_any (hg.below h hsz) hT (Nat.le_trans hsz hgw) (by omega) hn2 (sm_length 3)
    rwa [e3, hg3] at this
  have CP5 : Hid (∀ W g, Below w.heap.size w W → w.heap.size ≤ g → TreeAt W g l3 → Calls Tryd.prog 26 #[.pointer (some ⟨g, 0, none⟩), hv (nm 1), hv (sm 5)] W fun e w' => (∃ b, e = .returned (.bool b)) ∧ TreeAt w' g l5 ∧ W.grownBy w' (some g)) := fun W g h hgw hT => by
    have := tput_any (hg.below h hsz) hT (Nat.le_trans hsz hgw) (by omega) hn1 (sm_length 5)
    rw [e5] at this
    exact this.mono fun e w' ⟨h1, h2⟩ => ⟨⟨_, h1⟩, h2⟩
  have CR1 : Hid (∀ W g, TreeAt W g l1 → Calls Tryd.prog 17 #[.pointer (some ⟨g, 0, none⟩)] W fun e w' => e = .returned (hv (Tm.leaf (nm 1) (sm 1))) ∧ Below W.heap.size W w') := fun W g hT => by
    have := troot_any hT
    rwa [hr1] at this
  have CR3 : Hid (∀ W g, TreeAt W g l3 → Calls Tryd.prog 17 #[.pointer (some ⟨g, 0, none⟩)] W fun e w' => e = .returned (hv (Tm.root 0 l3)) ∧ Below W.heap.size W w') := fun W g hT => troot_any hT
  have CR5 : Hid (∀ W g, TreeAt W g l5 → Calls Tryd.prog 17 #[.pointer (some ⟨g, 0, none⟩)] W fun e w' => e = .returned (hv (Tm.root 0 l5)) ∧ Below W.heap.size W w') := fun W g hT => troot_any hT
  have CLN : Hid (∀ W g, TreeAt W g l5 → Calls Tryd.prog 16 #[.pointer (some ⟨g, 0, none⟩)] W fun e w' => e = .returned (.int .i64 2) ∧ W = w') := fun W g hT => by
    have := tlen_any hT
    rwa [hl5] at this
  have CG : Hid (∀ W g, TreeAt W g l3 → Calls Tryd.prog 19 #[.pointer (some ⟨g, 0, none⟩), hv (nm 2)] W fun e w' => e = .returned (.tuple #[hv (sm 3), .bool true]) ∧ Below W.heap.size W w') := fun W g hT => by
    have := tget_any hT hn2
    rwa [hg4] at this
  have CV : Hid (∀ W g, TreeAt W g l3 → Calls Tryd.prog 21 #[.pointer (some ⟨g, 0, none⟩), hv (nm 1)] W fun e w' => ∃ A n c PP, e = .returned (.agg PP.toArray) ∧ PrfIn w' (.agg PP.toArray) (Tm.prove l3 (nm 1)) ∧ 0 < n ∧ (Tryd.prog.info? 38).map (·.size) = some PP.length ∧ (∀ v ∈ PP, v.oneCell' = true) ∧ PP.length = 66 ∧ (∀ W q, Blk W q 38 PP → W.cell? ⟨q, 0, none⟩ = some (.slice A n c)) ∧ Below W.heap.size W w') := fun W g hT => by
    refine (tprove_any hT hn1).mono ?_
    rintro e w' ⟨x, rfl, hP, hX⟩
    have hI := prove_in hf3 hP
    obtain ⟨A, n, c, rfl, hR, _⟩ := hI.at_
    refine ⟨A, n, c, _, rfl, hI, ?_, proofL_info (by simpa using hI.lab) (by simpa using hI.sum), proofL_one rfl (cells_u8 _) (cells_u8 _), proofL_length (by simpa using hI.lab) (by simpa using hI.sum), fun W q h => h.cell 0, hX⟩
    have hl : (Tm.prove l3 (nm 1)).sides.length = n := by rw [← hR.len]; simp [hashes]
    omega
  have CK : Hid (∀ W x, Below w.heap.size w W → PrfIn W x (Tm.prove l3 (nm 1)) → Calls Tryd.prog 29 #[hv (Tm.root 0 l3), hv (nm 1), x] W fun e w' => e = .returned (.tuple #[hv (sm 1), .bool true, .bool true]) ∧ Below W.heap.size W w') := fun W x h hP => by
    have := pcheck_any (hg.below h hsz) hP (Tm.root_length 0 l3) hn1
    rw [htd, hth, hho] at this
    exact this
  have CA : Hid (∀ W x, Below w.heap.size w W → PrfIn W x (Tm.prove l3 (nm 1)) → Calls Tryd.prog 30 #[hv (Tm.root 0 l3), hv (nm 1), hv (sm 5), x] W fun e w' => e = .returned (.tuple #[hv (Tm.root 0 l5), .bool true]) ∧ Below W.heap.size W w') := fun W x h hP => by
    have := pafter_any (hg.below h hsz) hP (Tm.root_length 0 l3) hn1 (sm_length 5)
    rw [haf, hho] at this
    exact this
  have CB : Hid (∀ W, Below w.heap.size w W → Calls Tryd.prog 37 #[] W fun e w' => e = .returned (.bool true) ∧ Below W.heap.size W w') := fun W h => begun3_any (hg.below h hsz)
  have EL := Lib.hid (hash_eq (Tm.leaf (nm 1) (sm 1)) (Tm.leaf (nm 1) (sm 1)) (Tm.leaf_length _ _) (Tm.leaf_length _ _))
  have E3 := Lib.hid (hash_eq (sm 3) (sm 3) (sm_length 3) (sm_length 3))
  have E1 := Lib.hid (hash_eq (sm 1) (sm 1) (sm_length 1) (sm_length 1))
  have E5 := Lib.hid (hash_eq (Tm.root 0 l5) (Tm.root 0 l5) (Tm.root_length _ _) (Tm.root_length _ _))
  rw [decide_eq_true rfl] at EL E3 E1 E5
  unfold hv at CN1 CN2 CS1 CS2 CS3 CS5 CLF CP1 CP2 CP3 CP5 CR1 CR3 CR5 CG CV CK CA
  have ILF := Lib.hid (hash_info (Tm.leaf_length (nm 1) (sm 1)))
  have OLF := Lib.hid (cells_u8 (Tm.leaf (nm 1) (sm 1)))
  have LLF : Hid ((List.replicate 32 (Value.int .u8 0)).length = ((Tm.leaf (nm 1) (sm 1)).map cellOf).length) := by unfold Hid; rw [List.length_map, Tm.leaf_length (nm 1) (sm 1)]; rfl
  obtain ⟨LF, hLF⟩ : ∃ L, L = (Tm.leaf (nm 1) (sm 1)).map cellOf := ⟨_, rfl⟩
  have NLF : Hid (LF.length = 32) := by unfold Hid; rw [hLF, List.length_map, Tm.leaf_length (nm 1) (sm 1)]
  rw [← hLF] at ILF OLF LLF CLF CR1 EL
  clear hLF
  have IN1 := Lib.hid (hash_info (nm_length 1))
  have ON1 := Lib.hid (cells_u8 (nm 1))
  have LN1 : Hid ((List.replicate 32 (Value.int .u8 0)).length = ((nm 1).map cellOf).length) := by unfold Hid; rw [List.length_map, nm_length 1]; rfl
  obtain ⟨N1, hN1⟩ : ∃ L, L = (nm 1).map cellOf := ⟨_, rfl⟩
  have NN1 : Hid (N1.length = 32) := by unfold Hid; rw [hN1, List.length_map, nm_length 1]
  rw [← hN1] at IN1 ON1 LN1 CN1 CLF CP1 CP5 CV CK CA
  clear hN1
  have IN2 := Lib.hid (hash_info (nm_length 2))
  have ON2 := Lib.hid (cells_u8 (nm 2))
  have LN2 : Hid ((List.replicate 32 (Value.int .u8 0)).length = ((nm 2).map cellOf).length) := by unfold Hid; rw [List.length_map, nm_length 2]; rfl
  obtain ⟨N2, hN2⟩ : ∃ L, L = (nm 2).map cellOf := ⟨_, rfl⟩
  have NN2 : Hid (N2.length = 32) := by unfold Hid; rw [hN2, List.length_map, nm_length 2]
  rw [← hN2] at IN2 ON2 LN2 CN2 CP2 CP3 CG
  clear hN2
  have IS1 := Lib.hid (hash_info (sm_length 1))
  have OS1 := Lib.hid (cells_u8 (sm 1))
  have LS1 : Hid ((List.replicate 32 (Value.int .u8 0)).length = ((sm 1).map cellOf).length) := by unfold Hid; rw [List.length_map, sm_length 1]; rfl
  obtain ⟨S1, hS1⟩ : ∃ L, L = (sm 1).map cellOf := ⟨_, rfl⟩
  have NS1 : Hid (S1.length = 32) := by unfold Hid; rw [hS1, List.length_map, sm_length 1]
  rw [← hS1] at IS1 OS1 LS1 CS1 CLF CP1 CK E1
  clear hS1
  have IS2 := Lib.hid (hash_info (sm_length 2))
  have OS2 := Lib.hid (cells_u8 (sm 2))
  have LS2 : Hid ((List.replicate 32 (Value.int .u8 0)).length = ((sm 2).map cellOf).length) := by unfold Hid; rw [List.length_map, sm_length 2]; rfl
  obtain ⟨S2, hS2⟩ : ∃ L, L = (sm 2).map cellOf := ⟨_, rfl⟩
  have NS2 : Hid (S2.length = 32) := by unfold Hid; rw [hS2, List.length_map, sm_length 2]
  rw [← hS2] at IS2 OS2 LS2 CS2 CP2
  clear hS2
  have IS3 := Lib.hid (hash_info (sm_length 3))
  have OS3 := Lib.hid (cells_u8 (sm 3))
  have LS3 : Hid ((List.replicate 32 (Value.int .u8 0)).length = ((sm 3).map cellOf).length) := by unfold Hid; rw [List.length_map, sm_length 3]; rfl
  obtain ⟨S3, hS3⟩ : ∃ L, L = (sm 3).map cellOf := ⟨_, rfl⟩
  have NS3 : Hid (S3.length = 32) := by unfold Hid; rw [hS3, List.length_map, sm_length 3]
  rw [← hS3] at IS3 OS3 LS3 CS3 CP3 CG E3
  clear hS3
  have IS5 := Lib.hid (hash_info (sm_length 5))
  have OS5 := Lib.hid (cells_u8 (sm 5))
  have LS5 : Hid ((List.replicate 32 (Value.int .u8 0)).length = ((sm 5).map cellOf).length) := by unfold Hid; rw [List.length_map, sm_length 5]; rfl
  obtain ⟨S5, hS5⟩ : ∃ L, L = (sm 5).map cellOf := ⟨_, rfl⟩
  have NS5 : Hid (S5.length = 32) := by unfold Hid; rw [hS5, List.length_map, sm_length 5]
  rw [← hS5] at IS5 OS5 LS5 CS5 CP5 CA
  clear hS5
  have IR3 := Lib.hid (hash_info (Tm.root_length 0 l3))
  have OR3 := Lib.hid (cells_u8 (Tm.root 0 l3))
  have LR3 : Hid ((List.replicate 32 (Value.int .u8 0)).length = ((Tm.root 0 l3).map cellOf).length) := by unfold Hid; rw [List.length_map, Tm.root_length 0 l3]; rfl
  obtain ⟨R3, hR3⟩ : ∃ L, L = (Tm.root 0 l3).map cellOf := ⟨_, rfl⟩
  have NR3 : Hid (R3.length = 32) := by unfold Hid; rw [hR3, List.length_map, Tm.root_length 0 l3]
  rw [← hR3] at IR3 OR3 LR3 CR3 CK CA
  clear hR3
  have IR5 := Lib.hid (hash_info (Tm.root_length 0 l5))
  have OR5 := Lib.hid (cells_u8 (Tm.root 0 l5))
  have LR5 : Hid ((List.replicate 32 (Value.int .u8 0)).length = ((Tm.root 0 l5).map cellOf).length) := by unfold Hid; rw [List.length_map, Tm.root_length 0 l5]; rfl
  obtain ⟨R5, hR5⟩ : ∃ L, L = (Tm.root 0 l5).map cellOf := ⟨_, rfl⟩
  have NR5 : Hid (R5.length = 32) := by unfold Hid; rw [hR5, List.length_map, Tm.root_length 0 l5]
  rw [← hR5] at IR5 OR5 LR5 CR5 CA E5
  clear hR5
  obtain ⟨P, hP⟩ : ∃ P, P = Tm.prove l3 (nm 1) := ⟨_, rfl⟩
  rw [← hP] at CV CK CA
  have ZB0 : Hid (∀ W : World, Blk (W.alloc (.cells (List.replicate 32 (Value.int .u8 0)).toArray 30)) W.heap.size 30 (List.replicate 32 (Value.int .u8 0))) := fun W => Blk.new W 30 _
  have ZPB : Hid (∀ W : World, Blk (W.alloc (.cells (proofL (.slice none 0 0) false (List.replicate 32 (Value.int .u8 0)) (List.replicate 32 (Value.int .u8 0))).toArray 38)) W.heap.size 38 (proofL (.slice none 0 0) false (List.replicate 32 (Value.int .u8 0)) (List.replicate 32 (Value.int .u8 0)))) := fun W => Blk.new W 38 _
  have HZP : Hid ((proofL (.slice none 0 0) false (List.replicate 32 (Value.int .u8 0)) (List.replicate 32 (Value.int .u8 0))).length = 66) := rfl
  obtain ⟨Z, hZ⟩ : ∃ Z, Z = List.replicate 32 (Value.int .u8 0) := ⟨_, rfl⟩
  rw [← hZ] at LLF LN1 LN2 LS1 LS2 LS3 LS5 LR3 LR5
  have ZB : Hid (∀ W : World, Blk (W.alloc (.cells (List.replicate 32 (Value.int .u8 0)).toArray 30)) W.heap.size 30 Z) := fun W => by rw [hZ]; exact ZB0.out W
  have HZE : Hid ((List.replicate 32 (Value.int .u8 0)) = Z) := hZ.symm
  obtain ⟨ZP, hZP⟩ : ∃ Z, Z = (proofL (.slice none 0 0) false (List.replicate 32 (Value.int .u8 0)) (List.replicate 32 (Value.int .u8 0))) := ⟨_, rfl⟩
  have ZPB' : Hid (∀ W : World, Blk (W.alloc (.cells (proofL (.slice none 0 0) false (List.replicate 32 (Value.int .u8 0)) (List.replicate 32 (Value.int .u8 0))).toArray 38)) W.heap.size 38 ZP) := fun W => by rw [hZP]; exact ZPB.out W
  rw [← hZP] at HZP
  clear hZ hZP ZB0 ZPB e1 e2 e3 e5 hg2 hg3 hg4 hl1 hl2 hl3 hl5 hr1 hf3 htd hth hho haf hsd hg hP hn1 hn2
  go_enter Tryd.func14, Tryd.ntmps14
  go_upto_region 2 with (first
    | (go_at_call 25; refine (tnew_any w).mono ?_; rintro e w1 ⟨g, rfl, hT, hgw, hX⟩; have T := Lib.hid hT; have W := Lib.hid hX; clear hT hX))
  go_upto_region 3 with (first
    | (go_at_call 20; refine (CN1.out w1).mono ?_; rintro e w2 ⟨rfl, hX⟩; replace T := Lib.hid (T.out.low hX); replace W := Lib.hid (W.out.trans (hX.mono W.out.size)); clear hX)
    | (go_at_call 27; refine (CS1.out w2).mono ?_; rintro e w3 ⟨rfl, hX⟩; replace T := Lib.hid (T.out.low hX); replace W := Lib.hid (W.out.trans (hX.mono W.out.size)); clear hX)
    | (go_at_call 26; refine (CP1.out w3 g W.out hgw T.out).mono ?_; rintro e w4 ⟨rfl, hT, hG⟩; replace W : Hid (Below w.heap.size w _) := W.out.grown hG W.out.size (fun q hq => by have h : g = q := Option.some.inj hq; omega); replace T := Lib.hid hT; clear hT hG))
  go_upto_region 4 with (first
    | (go_at_call 17; refine (CR1.out w4 g T.out).mono ?_; rintro e w5 ⟨rfl, hX⟩; replace T := Lib.hid (T.out.low hX); replace W := Lib.hid (W.out.trans (hX.mono W.out.size)); clear hX)
    | ((with_reducible refine storeGen_law rfl 30 (.tmp 3) (.tmp 20) rfl w5.heap.size rfl LF rfl 30 Z ILF.out LLF.out OLF.out w5.heap.size w5 ?_ ?_ (Nat.le_refl _) ?_)
       · exact ZB.out w5
       · exact alloc_below w5 _
       intro w6 BO hX'; have hX := hX'.out; clear hX'; replace T := Lib.hid (T.out.low hX); replace W := Lib.hid (W.out.trans (hX.mono W.out.size)); clear hX))
  obtain ⟨q1, hq1⟩ : ∃ q, q = w5.heap.size := ⟨_, rfl⟩
  rw [← hq1] at BO ⊢
  clear hq1
  go_upto_region 5 with (first
    | (go_at_call 20; refine (CN2.out w6).mono ?_; rintro e w7 ⟨rfl, hX⟩; replace T := Lib.hid (T.out.low hX); replace BO := Lib.hid (BO.out.below hX BO.out.lt); replace W := Lib.hid (W.out.trans (hX.mono W.out.size)); clear hX)
    | (go_at_call 27; refine (CS2.out w7).mono ?_; rintro e w8 ⟨rfl, hX⟩; replace T := Lib.hid (T.out.low hX); replace BO := Lib.hid (BO.out.below hX BO.out.lt); replace W := Lib.hid (W.out.trans (hX.mono W.out.size)); clear hX)
    | (go_at_call 26; refine (CP2.out w8 g W.out hgw T.out).mono ?_; rintro e w9 ⟨rfl, hT, hG⟩; replace BO := Lib.hid (put_keeps T.out BO.out (by decide) hG); replace W : Hid (Below w.heap.size w _) := W.out.grown hG W.out.size (fun q hq => by have h : g = q := Option.some.inj hq; omega); replace T := Lib.hid hT; clear hT hG)
    | (go_at_call 20; refine (CN2.out w9).mono ?_; rintro e w10 ⟨rfl, hX⟩; replace T := Lib.hid (T.out.low hX); replace BO := Lib.hid (BO.out.below hX BO.out.lt); replace W := Lib.hid (W.out.trans (hX.mono W.out.size)); clear hX)
    | (go_at_call 27; refine (CS3.out w10).mono ?_; rintro e w11 ⟨rfl, hX⟩; replace T := Lib.hid (T.out.low hX); replace BO := Lib.hid (BO.out.below hX BO.out.lt); replace W := Lib.hid (W.out.trans (hX.mono W.out.size)); clear hX)
    | (go_at_call 26; refine (CP3.out w11 g W.out hgw T.out).mono ?_; rintro e w12 ⟨rfl, hT, hG⟩; replace BO := Lib.hid (put_keeps T.out BO.out (by decide) hG); replace W : Hid (Below w.heap.size w _) := W.out.grown hG W.out.size (fun q hq => by have h : g = q := Option.some.inj hq; omega); replace T := Lib.hid hT; clear hT hG))
  go_upto_region 6 with (first
    | (go_at_call 20; refine (CN2.out w12).mono ?_; rintro e w13 ⟨rfl, hX⟩; replace T := Lib.hid (T.out.low hX); replace BO := Lib.hid (BO.out.below hX BO.out.lt); replace W := Lib.hid (W.out.trans (hX.mono W.out.size)); clear hX)
    | (go_at_call 19; refine (CG.out w13 g T.out).mono ?_; rintro e w14 ⟨rfl, hX⟩; replace T := Lib.hid (T.out.low hX); replace BO := Lib.hid (BO.out.below hX BO.out.lt); replace W := Lib.hid (W.out.trans (hX.mono W.out.size)); clear hX)
    | ((with_reducible refine storeGen_law rfl 30 (.tmp 6) (.tmp 33) rfl w14.heap.size rfl S3 rfl 30 Z IS3.out LS3.out OS3.out w14.heap.size w14 ?_ ?_ (Nat.le_refl _) ?_)
       · exact ZB.out w14
       · exact alloc_below w14 _
       intro w15 BS hX'; have hX := hX'.out; clear hX'; replace T := Lib.hid (T.out.low hX); replace BO := Lib.hid (BO.out.below hX BO.out.lt); replace W := Lib.hid (W.out.trans (hX.mono W.out.size)); clear hX))
  obtain ⟨q2, hq2⟩ : ∃ q, q = w14.heap.size := ⟨_, rfl⟩
  rw [← hq2] at BS ⊢
  clear hq2
  go_upto_region 7 with (first
    | (go_at_call 20; refine (CN1.out w15).mono ?_; rintro e w16 ⟨rfl, hX⟩; replace T := Lib.hid (T.out.low hX); replace BO := Lib.hid (BO.out.below hX BO.out.lt); replace BS := Lib.hid (BS.out.below hX BS.out.lt); replace W := Lib.hid (W.out.trans (hX.mono W.out.size)); clear hX)
    | (go_at_call 21; refine (CV.out w16 g T.out).mono ?_; rintro e w17 ⟨A, n, c, PP, rfl, hPI, hn0, hi1, hi2, hi3, hi4, hX⟩; replace T := Lib.hid (T.out.low hX); replace BO := Lib.hid (BO.out.below hX BO.out.lt); replace BS := Lib.hid (BS.out.below hX BS.out.lt); replace W := Lib.hid (W.out.trans (hX.mono W.out.size)); clear hX; have PI := Lib.hid hPI; have IPP := Lib.hid hi1; have OPP := Lib.hid hi2; have LPP : Hid (ZP.length = PP.length) := HZP.out.trans hi3.symm; have L0 := Lib.hid hi4; clear hPI hi1 hi2 hi3 hi4)
    | ((with_reducible refine storeGen_law rfl 38 (.tmp 8) (.tmp 37) rfl w17.heap.size rfl PP rfl 38 ZP IPP.out LPP.out OPP.out w17.heap.size w17 ?_ ?_ (Nat.le_refl _) ?_)
       · exact ZPB'.out w17
       · exact alloc_below w17 _
       intro w18 BP hX'; have hX := hX'.out; clear hX'; replace T := Lib.hid (T.out.low hX); replace BO := Lib.hid (BO.out.below hX BO.out.lt); replace BS := Lib.hid (BS.out.below hX BS.out.lt); replace W := Lib.hid (W.out.trans (hX.mono W.out.size)); replace PI := Lib.hid (PI.out.below hX); clear hX))
  obtain ⟨q3, hq3⟩ : ∃ q, q = w17.heap.size := ⟨_, rfl⟩
  rw [← hq3] at BP ⊢
  clear hq3
  have hX := (Below.refl w18.heap.size w18).drew
  replace T := Lib.hid (T.out.low hX)
  replace BO := Lib.hid (BO.out.below hX BO.out.lt)
  replace BS := Lib.hid (BS.out.below hX BS.out.lt)
  replace BP := Lib.hid (BP.out.below hX BP.out.lt)
  replace PI := Lib.hid (PI.out.below hX)
  replace W := Lib.hid (W.out.trans (hX.mono W.out.size))
  clear hX
  refine wp_region_any (by kernel_rfl) ?_
  change wpAny _ _ _ _ _ _ _ (World.drew _)
  generalize w18.drew = wd at *
  refine wpAny_take (i := 0) (oi := ?oi1) (v := .pointer (some ⟨g, 0, none⟩)) ?hi1 (by kernel_rfl) (by kernel_rfl) (by kernel_rfl) ?hQ1 ?hy1 ?rest1
  case hi1 => simp only [zge]; rfl
  case hQ1 => exact fun _ _ _ h => h
  case hy1 => exact Or.inl ⟨by rfl, by intro w; go_simp⟩
  try simp only [zpt]
  refine phaseL (fun i => if i = 2 then [1] else if i = 4 then [1, 2, 3] else if i = 5 then [4] else if i = 6 then [5] else if i = 7 then [5] else if i = 8 then [5] else if i = 10 then [9, 6, 4, 1, 2, 3, 5] else if i = 11 then [7, 10, 1, 2, 3, 4, 5, 6, 9] else if i = 12 then [8, 11, 1, 2, 3, 4, 5, 6, 7, 9, 10] else []) (fun d a w' => ∃ x40 x41 x42 x43 x38 x44 x45 x46 x9 x10 x11 : Value, a = { tmps := #[.bool false, .pointer (some ⟨g, 0, none⟩), .bool true, .pointer (some ⟨q1, 0, none⟩), .bool true, .bool false, .pointer (some ⟨q2, 0, none⟩), .bool true, .pointer (some ⟨q3, 0, none⟩), x9, x10, x11, undef, undef, .pointer (some ⟨g, 0, none⟩), .pointer (some ⟨g, 0, none⟩), .agg N1.toArray, .agg S1.toArray, .bool true, .pointer (some ⟨g, 0, none⟩), .agg LF.toArray, .pointer (some ⟨g, 0, none⟩), .agg N2.toArray, .agg S2.toArray, .bool true, .pointer (some ⟨g, 0, none⟩), .agg N2.toArray, .agg S3.toArray, .bool false, .tuple #[.agg S3.toArray, .bool true], .pointer (some ⟨g, 0, none⟩), .agg N2.toArray, .tuple #[.agg S3.toArray, .bool true], .agg S3.toArray, .bool true, .pointer (some ⟨g, 0, none⟩), .agg N1.toArray, .agg PP.toArray, x38, .pointer (some ⟨g, 0, none⟩), x40, x41, x42, x43, x44, x45, x46, undef, undef, undef, undef, undef, undef, undef, undef, undef, undef, undef, undef, undef, undef, undef, undef, undef, undef, undef, undef, undef, undef, undef, undef, undef, undef, undef, undef, undef, undef, undef, undef, undef, undef, undef, undef, undef, undef, undef, undef, undef, undef, undef, undef, undef, undef, undef, undef, undef, undef, undef, undef, undef, undef, undef, undef, undef, undef, undef, undef, undef, undef, undef, undef, undef, undef, undef, undef, undef, undef], defers := [] } ∧ Hid (Below wd.heap.size wd w') ∧ (d 1 = true → x40 = .agg R3.toArray) ∧ (d 2 = true → x41 = .agg N1.toArray) ∧ (d 3 = true → x42 = .agg PP.toArray) ∧ (d 4 = true → x43 = .tuple #[.agg S1.toArray, .bool true, .bool true]) ∧ (d 5 = true → x38 = .tuple #[.agg S1.toArray, .bool true, .bool true]) ∧ (d 6 = true → x44 = .agg S1.toArray) ∧ (d 7 = true → x45 = .bool true) ∧ (d 8 = true → x46 = .bool true) ∧ (d 9 = true → Hid (AtN w' wd.heap.size x9 30 32)) ∧ (d 10 = true → (d 9 = true ∧ Hid (At w' wd.heap.size x9 30 S1))) ∧ (d 11 = true → x10 = .bool true) ∧ (d 12 = true → x11 = .bool true)) [1, 2, 3, 4, 5, 6, 7, 8, 9, 10, 11, 12] ?step2 0 12 [1, 2, 3, 4, 5, 6, 7, 8, 9, 10, 11, 12] _ _ _ rfl (by decide) (fun _ h => h) (Fits.of (by kernel_rfl)) ?init2 ?fin2
  case init2 => refine ⟨_, _, _, _, _, _, _, _, _, _, _, rfl, Below.refl _ _, ?_, ?_, ?_, ?_, ?_, ?_, ?_, ?_, ?_, ?_, ?_, ?_⟩ <;> (intro h; exact absurd h (by decide))
  case step2 =>
    intro i hi d a v2 hI hdi hdeps
    obtain ⟨x40, x41, x42, x43, x38, x44, x45, x46, x9, x10, x11, rfl, BW, h1, h2, h3, h4, h5, h6, h7, h8, h9, h10, h11, h12⟩ := hI
    have hsw := BW.out.size
    simp only [List.mem_cons, List.not_mem_nil, or_false] at hi
    rcases hi with rfl | rfl | rfl | rfl | rfl | rfl | rfl | rfl | rfl | rfl | rfl | rfl
    · refine wpOp_step (o := ?os3) ?hos3 (fun K hK => ?_)
      case hos3 => simp only [zge]; rfl
      go_simp
      refine (CR3.out v2 g (T.out.low BW.out)).mono ?_
      rintro e u2 ⟨rfl, hX⟩
      refine hK _ _ ?_
      clear hK K
      try simp only [zpt]
      exact ⟨_, _, _, _, _, _, _, _, _, _, _, rfl, BW.out.trans (hX.mono hsw), fun _ => rfl, fun a => by first | exact h2 (by simpa using a) | rfl, fun a => by first | exact h3 (by simpa using a) | rfl, fun a => by first | exact h4 (by simpa using a) | rfl, fun a => by first | exact h5 (by simpa using a) | rfl, fun a => by first | exact h6 (by simpa using a) | rfl, fun a => by first | exact h7 (by simpa using a) | rfl, fun a => by first | exact h8 (by simpa using a) | rfl, fun a => (h9 (by simpa using a)).out.below hX, fun a => ⟨by simp [(h10 (by simpa using a)).1], (h10 (by simpa using a)).2.out.below hX⟩, fun a => by first | exact h11 (by simpa using a) | rfl, fun a => by first | exact h12 (by simpa using a) | rfl⟩
    · refine wpOp_step (o := ?os4) ?hos4 (fun K hK => ?_)
      case hos4 => simp only [zge]; rfl
      go_simp
      refine (CN1.out v2).mono ?_
      rintro e u2 ⟨rfl, hX⟩
      refine hK _ _ ?_
      clear hK K
      try simp only [zpt]
      exact ⟨_, _, _, _, _, _, _, _, _, _, _, rfl, BW.out.trans (hX.mono hsw), fun a => by first | exact h1 (by simpa using a) | rfl, fun _ => rfl, fun a => by first | exact h3 (by simpa using a) | rfl, fun a => by first | exact h4 (by simpa using a) | rfl, fun a => by first | exact h5 (by simpa using a) | rfl, fun a => by first | exact h6 (by simpa using a) | rfl, fun a => by first | exact h7 (by simpa using a) | rfl, fun a => by first | exact h8 (by simpa using a) | rfl, fun a => (h9 (by simpa using a)).out.below hX, fun a => ⟨by simp [(h10 (by simpa using a)).1], (h10 (by simpa using a)).2.out.below hX⟩, fun a => by first | exact h11 (by simpa using a) | rfl, fun a => by first | exact h12 (by simpa using a) | rfl⟩
    · refine wpOp_step (o := ?os5) ?hos5 (fun K hK => ?_)
      case hos5 => simp only [zge]; rfl
      refine step_loadW rfl 38 (.tmp 8) rfl q3 0 rfl PP _ Tryd.underlying38 rfl IPP.out (BP.out.below BW.out BP.out.lt).cells (hK _ _ ?_)
      clear hK K
      try simp only [zpt]
      exact ⟨_, _, _, _, _, _, _, _, _, _, _, rfl, BW, fun a => by first | exact h1 (by simpa using a) | rfl, fun a => by first | exact h2 (by simpa using a) | rfl, fun _ => rfl, fun a => by first | exact h4 (by simpa using a) | rfl, fun a => by first | exact h5 (by simpa using a) | rfl, fun a => by first | exact h6 (by simpa using a) | rfl, fun a => by first | exact h7 (by simpa using a) | rfl, fun a => by first | exact h8 (by simpa using a) | rfl, fun a => h9 (by simpa using a), fun a => ⟨by simp [(h10 (by simpa using a)).1], (h10 (by simpa using a)).2⟩, fun a => by first | exact h11 (by simpa using a) | rfl, fun a => by first | exact h12 (by simpa using a) | rfl⟩
    · obtain rfl := h1 (hdeps 1 (by simp))
      obtain rfl := h2 (hdeps 2 (by simp))
      obtain rfl := h3 (hdeps 3 (by simp))
      refine wpOp_step (o := ?os6) ?hos6 (fun K hK => ?_)
      case hos6 => simp only [zge]; rfl
      go_simp
      refine (CK.out v2 _ (W.out.trans (BW.out.mono W.out.size)) (PI.out.below BW.out)).mono ?_
      rintro e u2 ⟨rfl, hX⟩
      refine hK _ _ ?_
      clear hK K
      try simp only [zpt]
      exact ⟨_, _, _, _, _, _, _, _, _, _, _, rfl, BW.out.trans (hX.mono hsw), fun a => by first | exact h1 (by simpa using a) | rfl, fun a => by first | exact h2 (by simpa using a) | rfl, fun a => by first | exact h3 (by simpa using a) | rfl, fun _ => rfl, fun a => by first | exact h5 (by simpa using a) | rfl, fun a => by first | exact h6 (by simpa using a) | rfl, fun a => by first | exact h7 (by simpa using a) | rfl, fun a => by first | exact h8 (by simpa using a) | rfl, fun a => (h9 (by simpa using a)).out.below hX, fun a => ⟨by simp [(h10 (by simpa using a)).1], (h10 (by simpa using a)).2.out.below hX⟩, fun a => by first | exact h11 (by simpa using a) | rfl, fun a => by first | exact h12 (by simpa using a) | rfl⟩
    · obtain rfl := h4 (hdeps 4 (by simp))
      refine wpOp_step (o := ?os7) ?hos7 (fun K hK => ?_)
      case hos7 => simp only [zge]; rfl
      go_simp
      refine hK _ _ ?_
      clear hK K
      try simp only [zpt]
      exact ⟨_, _, _, _, _, _, _, _, _, _, _, rfl, BW, fun a => by first | exact h1 (by simpa using a) | rfl, fun a => by first | exact h2 (by simpa using a) | rfl, fun a => by first | exact h3 (by simpa using a) | rfl, fun a => by first | exact h4 (by simpa using a) | rfl, fun _ => rfl, fun a => by first | exact h6 (by simpa using a) | rfl, fun a => by first | exact h7 (by simpa using a) | rfl, fun a => by first | exact h8 (by simpa using a) | rfl, fun a => h9 (by simpa using a), fun a => ⟨by simp [(h10 (by simpa using a)).1], (h10 (by simpa using a)).2⟩, fun a => by first | exact h11 (by simpa using a) | rfl, fun a => by first | exact h12 (by simpa using a) | rfl⟩
    · obtain rfl := h5 (hdeps 5 (by simp))
      refine wpOp_step (o := ?os8) ?hos8 (fun K hK => ?_)
      case hos8 => simp only [zge]; rfl
      go_simp
      refine hK _ _ ?_
      clear hK K
      try simp only [zpt]
      exact ⟨_, _, _, _, _, _, _, _, _, _, _, rfl, BW, fun a => by first | exact h1 (by simpa using a) | rfl, fun a => by first | exact h2 (by simpa using a) | rfl, fun a => by first | exact h3 (by simpa using a) | rfl, fun a => by first | exact h4 (by simpa using a) | rfl, fun a => by first | exact h5 (by simpa using a) | rfl, fun _ => rfl, fun a => by first | exact h7 (by simpa using a) | rfl, fun a => by first | exact h8 (by simpa using a) | rfl, fun a => h9 (by simpa using a), fun a => ⟨by simp [(h10 (by simpa using a)).1], (h10 (by simpa using a)).2⟩, fun a => by first | exact h11 (by simpa using a) | rfl, fun a => by first | exact h12 (by simpa using a) | rfl⟩
    · obtain rfl := h5 (hdeps 5 (by simp))
      refine wpOp_step (o := ?os9) ?hos9 (fun K hK => ?_)
      case hos9 => simp only [zge]; rfl
      go_simp
      refine hK _ _ ?_
      clear hK K
      try simp only [zpt]
      exact ⟨_, _, _, _, _, _, _, _, _, _, _, rfl, BW, fun a => by first | exact h1 (by simpa using a) | rfl, fun a => by first | exact h2 (by simpa using a) | rfl, fun a => by first | exact h3 (by simpa using a) | rfl, fun a => by first | exact h4 (by simpa using a) | rfl, fun a => by first | exact h5 (by simpa using a) | rfl, fun a => by first | exact h6 (by simpa using a) | rfl, fun _ => rfl, fun a => by first | exact h8 (by simpa using a) | rfl, fun a => h9 (by simpa using a), fun a => ⟨by simp [(h10 (by simpa using a)).1], (h10 (by simpa using a)).2⟩, fun a => by first | exact h11 (by simpa using a) | rfl, fun a => by first | exact h12 (by simpa using a) | rfl⟩
    · obtain rfl := h5 (hdeps 5 (by simp))
      refine wpOp_step (o := ?os10) ?hos10 (fun K hK => ?_)
      case hos10 => simp only [zge]; rfl
      go_simp
      refine hK _ _ ?_
      clear hK K
      try simp only [zpt]
      exact ⟨_, _, _, _, _, _, _, _, _, _, _, rfl, BW, fun a => by first | exact h1 (by simpa using a) | rfl, fun a => by first | exact h2 (by simpa using a) | rfl, fun a => by first | exact h3 (by simpa using a) | rfl, fun a => by first | exact h4 (by simpa using a) | rfl, fun a => by first | exact h5 (by simpa using a) | rfl, fun a => by first | exact h6 (by simpa using a) | rfl, fun a => by first | exact h7 (by simpa using a) | rfl, fun _ => rfl, fun a => h9 (by simpa using a), fun a => ⟨by simp [(h10 (by simpa using a)).1], (h10 (by simpa using a)).2⟩, fun a => by first | exact h11 (by simpa using a) | rfl, fun a => by first | exact h12 (by simpa using a) | rfl⟩
    · have hX := alloc_below v2 (.cells (List.replicate 32 (Value.int .u8 0)).toArray 30)
      refine wpOp_step (o := ?os11) ?hos11 (fun K hK => ?_)
      case hos11 => simp only [zge]; rfl
      go_simp
      refine hK _ _ ?_
      clear hK K
      try simp only [zpt]
      exact ⟨_, _, _, _, _, _, _, _, _, _, _, rfl, BW.out.trans (hX.mono hsw), fun a => by first | exact h1 (by simpa using a) | rfl, fun a => by first | exact h2 (by simpa using a) | rfl, fun a => by first | exact h3 (by simpa using a) | rfl, fun a => by first | exact h4 (by simpa using a) | rfl, fun a => by first | exact h5 (by simpa using a) | rfl, fun a => by first | exact h6 (by simpa using a) | rfl, fun a => by first | exact h7 (by simpa using a) | rfl, fun a => by first | exact h8 (by simpa using a) | rfl, fun _ => (At.new _ _ _ hsw).n rfl, fun a => absurd (h10 (by simpa using a)).1 (by simp [hdi]), fun a => by first | exact h11 (by simpa using a) | rfl, fun a => by first | exact h12 (by simpa using a) | rfl⟩
    · obtain rfl := h6 (hdeps 6 (by simp))
      obtain ⟨qn, hqe, hqB, cs, hQ, hQl⟩ := (h9 (hdeps 9 (by simp))).out
      obtain rfl := hqe
      refine wpOp_step (o := ?os12) ?hos12 (fun K hK => ?_)
      case hos12 => simp only [zge]; rfl
      refine step_storeAll rfl 30 (.tmp 9) (.tmp 44) rfl qn rfl S1 rfl 30 cs hQ IS1.out (hQl.trans NS1.out.symm) OS1.out (hK _ _ ?_)
      clear hK K
      have hS : At (v2.setRow qn S1.toArray) wd.heap.size (.pointer (some ⟨qn, 0, none⟩)) 30 S1 := ⟨qn, rfl, hqB, hQ.row⟩
      have hN := hS.n NS1.out
      try simp only [zpt]
      exact ⟨_, _, _, _, _, _, _, _, _, _, _, rfl, below_setRow BW.out hqB _, fun a => by first | exact h1 (by simpa using a) | rfl, fun a => by first | exact h2 (by simpa using a) | rfl, fun a => by first | exact h3 (by simpa using a) | rfl, fun a => by first | exact h4 (by simpa using a) | rfl, fun a => by first | exact h5 (by simpa using a) | rfl, fun a => by first | exact h6 (by simpa using a) | rfl, fun a => by first | exact h7 (by simpa using a) | rfl, fun a => by first | exact h8 (by simpa using a) | rfl, fun a => hN, fun _ => ⟨by simp [hdeps 9 (by simp)], hS⟩, fun a => by first | exact h11 (by simpa using a) | rfl, fun a => by first | exact h12 (by simpa using a) | rfl⟩
    · obtain rfl := h7 (hdeps 7 (by simp))
      refine wpOp_step (o := ?os13) ?hos13 (fun K hK => ?_)
      case hos13 => simp only [zge]; rfl
      go_simp
      refine hK _ _ ?_
      clear hK K
      try simp only [zpt]
      exact ⟨_, _, _, _, _, _, _, _, _, _, _, rfl, BW, fun a => by first | exact h1 (by simpa using a) | rfl, fun a => by first | exact h2 (by simpa using a) | rfl, fun a => by first | exact h3 (by simpa using a) | rfl, fun a => by first | exact h4 (by simpa using a) | rfl, fun a => by first | exact h5 (by simpa using a) | rfl, fun a => by first | exact h6 (by simpa using a) | rfl, fun a => by first | exact h7 (by simpa using a) | rfl, fun a => by first | exact h8 (by simpa using a) | rfl, fun a => h9 (by simpa using a), fun a => ⟨by simp [(h10 (by simpa using a)).1], (h10 (by simpa using a)).2⟩, fun _ => rfl, fun a => by first | exact h12 (by simpa using a) | rfl⟩
    · obtain rfl := h8 (hdeps 8 (by simp))
      refine wpOp_step (o := ?os14) ?hos14 (fun K hK => ?_)
      case hos14 => simp only [zge]; rfl
      go_simp
      refine hK _ _ ?_
      clear hK K
      try simp only [zpt]
      exact ⟨_, _, _, _, _, _, _, _, _, _, _, rfl, BW, fun a => by first | exact h1 (by simpa using a) | rfl, fun a => by first | exact h2 (by simpa using a) | rfl, fun a => by first | exact h3 (by simpa using a) | rfl, fun a => by first | exact h4 (by simpa using a) | rfl, fun a => by first | exact h5 (by simpa using a) | rfl, fun a => by first | exact h6 (by simpa using a) | rfl, fun a => by first | exact h7 (by simpa using a) | rfl, fun a => by first | exact h8 (by simpa using a) | rfl, fun a => h9 (by simpa using a), fun a => ⟨by simp [(h10 (by simpa using a)).1], (h10 (by simpa using a)).2⟩, fun a => by first | exact h11 (by simpa using a) | rfl, fun _ => rfl⟩
  case fin2 =>
    intro a v2 hI
    obtain ⟨x40, x41, x42, x43, x38, x44, x45, x46, x9, x10, x11, rfl, BW, h1, h2, h3, h4, h5, h6, h7, h8, h9, h10, h11, h12⟩ := hI
    obtain rfl := h1 (by decide)
    obtain rfl := h2 (by decide)
    obtain rfl := h3 (by decide)
    obtain rfl := h4 (by decide)
    obtain rfl := h5 (by decide)
    obtain rfl := h6 (by decide)
    obtain rfl := h7 (by decide)
    obtain rfl := h8 (by decide)
    obtain rfl := h11 (by decide)
    obtain rfl := h12 (by decide)
    clear h1 h2 h3 h4 h5 h6 h7 h8 h11 h12
    obtain ⟨q4, rfl, hq4, hQ⟩ := (h10 (by decide)).2.out
    have BC := Lib.hid hQ
    have hX := BW.out
    replace T := Lib.hid (T.out.low hX)
    replace BO := Lib.hid (BO.out.below hX BO.out.lt)
    replace BS := Lib.hid (BS.out.below hX BS.out.lt)
    replace BP := Lib.hid (BP.out.below hX BP.out.lt)
    replace PI := Lib.hid (PI.out.below hX)
    replace W := Lib.hid (W.out.trans (hX.mono W.out.size))
    clear hX BW hQ h9 h10 
    try dsimp only
    refine wpAny_done (by kernel_rfl) ?_ _
    go_upto_region 8 with (fail)
    have hX := (Below.refl v2.heap.size v2).drew
    replace T := Lib.hid (T.out.low hX)
    replace BO := Lib.hid (BO.out.below hX BO.out.lt)
    replace BS := Lib.hid (BS.out.below hX BS.out.lt)
    replace BP := Lib.hid (BP.out.below hX BP.out.lt)
    replace PI := Lib.hid (PI.out.below hX)
    replace BC := Lib.hid (BC.out.below hX BC.out.lt)
    replace W := Lib.hid (W.out.trans (hX.mono W.out.size))
    clear hX
    refine wp_region_any (by kernel_rfl) ?_
    change wpAny _ _ _ _ _ _ _ (World.drew _)
    generalize v2.drew = we at *
    refine wpAny_take (i := 0) (oi := ?oi15) (v := .pointer (some ⟨g, 0, none⟩)) ?hi15 (by kernel_rfl) (by kernel_rfl) (by kernel_rfl) ?hQ15 ?hy15 ?rest15
    case hi15 => simp only [zge]; rfl
    case hQ15 => exact fun _ _ _ h => h
    case hy15 => exact Or.inl ⟨by rfl, by intro w; go_simp⟩
    try simp only [zpt]
    refine phaseL (fun i => if i = 2 then [1] else if i = 3 then [2] else if i = 5 then [1, 2, 3, 4] else if i = 6 then [5] else if i = 7 then [6] else if i = 8 then [6] else if i = 10 then [9, 7, 5, 1, 2, 3, 4, 6] else if i = 11 then [8, 10, 1, 2, 3, 4, 5, 6, 7, 9] else []) (fun d a w' => ∃ x49 x50 x51 x52 x53 x47 x54 x55 x12 x13 : Value, a = { tmps := #[.bool false, .pointer (some ⟨g, 0, none⟩), .bool true, .pointer (some ⟨q1, 0, none⟩), .bool true, .bool false, .pointer (some ⟨q2, 0, none⟩), .bool true, .pointer (some ⟨q3, 0, none⟩), .pointer (some ⟨q4, 0, none⟩), .bool true, .bool true, x12, x13, .pointer (some ⟨g, 0, none⟩), .pointer (some ⟨g, 0, none⟩), .agg N1.toArray, .agg S1.toArray, .bool true, .pointer (some ⟨g, 0, none⟩), .agg LF.toArray, .pointer (some ⟨g, 0, none⟩), .agg N2.toArray, .agg S2.toArray, .bool true, .pointer (some ⟨g, 0, none⟩), .agg N2.toArray, .agg S3.toArray, .bool false, .tuple #[.agg S3.toArray, .bool true], .pointer (some ⟨g, 0, none⟩), .agg N2.toArray, .tuple #[.agg S3.toArray, .bool true], .agg S3.toArray, .bool true, .pointer (some ⟨g, 0, none⟩), .agg N1.toArray, .agg PP.toArray, .tuple #[.agg S1.toArray, .bool true, .bool true], .pointer (some ⟨g, 0, none⟩), .agg R3.toArray, .agg N1.toArray, .agg PP.toArray, .tuple #[.agg S1.toArray, .bool true, .bool true], .agg S1.toArray, .bool true, .bool true, x47, .pointer (some ⟨g, 0, none⟩), x49, x50, x51, x52, x53, x54, x55, undef, undef, undef, undef, undef, undef, undef, undef, undef, undef, undef, undef, undef, undef, undef, undef, undef, undef, undef, undef, undef, undef, undef, undef, undef, undef, undef, undef, undef, undef, undef, undef, undef, undef, undef, undef, undef, undef, undef, undef, undef, undef, undef, undef, undef, undef, undef, undef, undef, undef, undef, undef, undef, undef, undef, undef, undef, undef, undef, undef, undef], defers := [] } ∧ Hid (Below we.heap.size we w') ∧ (d 1 = true → x49 = .agg R3.toArray) ∧ (d 2 = true → x50 = .agg N1.toArray) ∧ (d 3 = true → x51 = .agg S5.toArray) ∧ (d 4 = true → x52 = .agg PP.toArray) ∧ (d 5 = true → x53 = .tuple #[.agg R5.toArray, .bool true]) ∧ (d 6 = true → x47 = .tuple #[.agg R5.toArray, .bool true]) ∧ (d 7 = true → x54 = .agg R5.toArray) ∧ (d 8 = true → x55 = .bool true) ∧ (d 9 = true → Hid (AtN w' we.heap.size x12 30 32)) ∧ (d 10 = true → (d 9 = true ∧ Hid (At w' we.heap.size x12 30 R5))) ∧ (d 11 = true → x13 = .bool true)) [1, 2, 3, 4, 5, 6, 7, 8, 9, 10, 11] ?step16 0 11 [1, 2, 3, 4, 5, 6, 7, 8, 9, 10, 11] _ _ _ rfl (by decide) (fun _ h => h) (Fits.of (by kernel_rfl)) ?init16 ?fin16
    case init16 => refine ⟨_, _, _, _, _, _, _, _, _, _, rfl, Below.refl _ _, ?_, ?_, ?_, ?_, ?_, ?_, ?_, ?_, ?_, ?_, ?_⟩ <;> (intro h; exact absurd h (by decide))
    case step16 =>
      intro i hi d a v16 hI hdi hdeps
      obtain ⟨x49, x50, x51, x52, x53, x47, x54, x55, x12, x13, rfl, BW, h1, h2, h3, h4, h5, h6, h7, h8, h9, h10, h11⟩ := hI
      have hsw := BW.out.size
      simp only [List.mem_cons, List.not_mem_nil, or_false] at hi
      rcases hi with rfl | rfl | rfl | rfl | rfl | rfl | rfl | rfl | rfl | rfl | rfl
      · refine wpOp_step (o := ?os17) ?hos17 (fun K hK => ?_)
        case hos17 => simp only [zge]; rfl
        go_simp
        refine (CR3.out v16 g (T.out.low BW.out)).mono ?_
        rintro e u16 ⟨rfl, hX⟩
        refine hK _ _ ?_
        clear hK K
        try simp only [zpt]
        exact ⟨_, _, _, _, _, _, _, _, _, _, rfl, BW.out.trans (hX.mono hsw), fun _ => rfl, fun a => by first | exact h2 (by simpa using a) | rfl, fun a => by first | exact h3 (by simpa using a) | rfl, fun a => by first | exact h4 (by simpa using a) | rfl, fun a => by first | exact h5 (by simpa using a) | rfl, fun a => by first | exact h6 (by simpa using a) | rfl, fun a => by first | exact h7 (by simpa using a) | rfl, fun a => by first | exact h8 (by simpa using a) | rfl, fun a => (h9 (by simpa using a)).out.below hX, fun a => ⟨by simp [(h10 (by simpa using a)).1], (h10 (by simpa using a)).2.out.below hX⟩, fun a => by first | exact h11 (by simpa using a) | rfl⟩
      · refine wpOp_step (o := ?os18) ?hos18 (fun K hK => ?_)
        case hos18 => simp only [zge]; rfl
        go_simp
        refine (CN1.out v16).mono ?_
        rintro e u16 ⟨rfl, hX⟩
        refine hK _ _ ?_
        clear hK K
        try simp only [zpt]
        exact ⟨_, _, _, _, _, _, _, _, _, _, rfl, BW.out.trans (hX.mono hsw), fun a => by first | exact h1 (by simpa using a) | rfl, fun _ => rfl, fun a => by first | exact h3 (by simpa using a) | rfl, fun a => by first | exact h4 (by simpa using a) | rfl, fun a => by first | exact h5 (by simpa using a) | rfl, fun a => by first | exact h6 (by simpa using a) | rfl, fun a => by first | exact h7 (by simpa using a) | rfl, fun a => by first | exact h8 (by simpa using a) | rfl, fun a => (h9 (by simpa using a)).out.below hX, fun a => ⟨by simp [(h10 (by simpa using a)).1], (h10 (by simpa using a)).2.out.below hX⟩, fun a => by first | exact h11 (by simpa using a) | rfl⟩
      · refine wpOp_step (o := ?os19) ?hos19 (fun K hK => ?_)
        case hos19 => simp only [zge]; rfl
        go_simp
        refine (CS5.out v16).mono ?_
        rintro e u16 ⟨rfl, hX⟩
        refine hK _ _ ?_
        clear hK K
        try simp only [zpt]
        exact ⟨_, _, _, _, _, _, _, _, _, _, rfl, BW.out.trans (hX.mono hsw), fun a => by first | exact h1 (by simpa using a) | rfl, fun a => by first | exact h2 (by simpa using a) | rfl, fun _ => rfl, fun a => by first | exact h4 (by simpa using a) | rfl, fun a => by first | exact h5 (by simpa using a) | rfl, fun a => by first | exact h6 (by simpa using a) | rfl, fun a => by first | exact h7 (by simpa using a) | rfl, fun a => by first | exact h8 (by simpa using a) | rfl, fun a => (h9 (by simpa using a)).out.below hX, fun a => ⟨by simp [(h10 (by simpa using a)).1], (h10 (by simpa using a)).2.out.below hX⟩, fun a => by first | exact h11 (by simpa using a) | rfl⟩
      · refine wpOp_step (o := ?os20) ?hos20 (fun K hK => ?_)
        case hos20 => simp only [zge]; rfl
        refine step_loadW rfl 38 (.tmp 8) rfl q3 0 rfl PP _ Tryd.underlying38 rfl IPP.out (BP.out.below BW.out BP.out.lt).cells (hK _ _ ?_)
        clear hK K
        try simp only [zpt]
        exact ⟨_, _, _, _, _, _, _, _, _, _, rfl, BW, fun a => by first | exact h1 (by simpa using a) | rfl, fun a => by first | exact h2 (by simpa using a) | rfl, fun a => by first | exact h3 (by simpa using a) | rfl, fun _ => rfl, fun a => by first | exact h5 (by simpa using a) | rfl, fun a => by first | exact h6 (by simpa using a) | rfl, fun a => by first | exact h7 (by simpa using a) | rfl, fun a => by first | exact h8 (by simpa using a) | rfl, fun a => h9 (by simpa using a), fun a => ⟨by simp [(h10 (by simpa using a)).1], (h10 (by simpa using a)).2⟩, fun a => by first | exact h11 (by simpa using a) | rfl⟩
      · obtain rfl := h1 (hdeps 1 (by simp))
        obtain rfl := h2 (hdeps 2 (by simp))
        obtain rfl := h3 (hdeps 3 (by simp))
        obtain rfl := h4 (hdeps 4 (by simp))
        refine wpOp_step (o := ?os21) ?hos21 (fun K hK => ?_)
        case hos21 => simp only [zge]; rfl
        go_simp
        refine (CA.out v16 _ (W.out.trans (BW.out.mono W.out.size)) (PI.out.below BW.out)).mono ?_
        rintro e u16 ⟨rfl, hX⟩
        refine hK _ _ ?_
        clear hK K
        try simp only [zpt]
        exact ⟨_, _, _, _, _, _, _, _, _, _, rfl, BW.out.trans (hX.mono hsw), fun a => by first | exact h1 (by simpa using a) | rfl, fun a => by first | exact h2 (by simpa using a) | rfl, fun a => by first | exact h3 (by simpa using a) | rfl, fun a => by first | exact h4 (by simpa using a) | rfl, fun _ => rfl, fun a => by first | exact h6 (by simpa using a) | rfl, fun a => by first | exact h7 (by simpa using a) | rfl, fun a => by first | exact h8 (by simpa using a) | rfl, fun a => (h9 (by simpa using a)).out.below hX, fun a => ⟨by simp [(h10 (by simpa using a)).1], (h10 (by simpa using a)).2.out.below hX⟩, fun a => by first | exact h11 (by simpa using a) | rfl⟩
      · obtain rfl := h5 (hdeps 5 (by simp))
        refine wpOp_step (o := ?os22) ?hos22 (fun K hK => ?_)
        case hos22 => simp only [zge]; rfl
        go_simp
        refine hK _ _ ?_
        clear hK K
        try simp only [zpt]
        exact ⟨_, _, _, _, _, _, _, _, _, _, rfl, BW, fun a => by first | exact h1 (by simpa using a) | rfl, fun a => by first | exact h2 (by simpa using a) | rfl, fun a => by first | exact h3 (by simpa using a) | rfl, fun a => by first | exact h4 (by simpa using a) | rfl, fun a => by first | exact h5 (by simpa using a) | rfl, fun _ => rfl, fun a => by first | exact h7 (by simpa using a) | rfl, fun a => by first | exact h8 (by simpa using a) | rfl, fun a => h9 (by simpa using a), fun a => ⟨by simp [(h10 (by simpa using a)).1], (h10 (by simpa using a)).2⟩, fun a => by first | exact h11 (by simpa using a) | rfl⟩
      · obtain rfl := h6 (hdeps 6 (by simp))
        refine wpOp_step (o := ?os23) ?hos23 (fun K hK => ?_)
        case hos23 => simp only [zge]; rfl
        go_simp
        refine hK _ _ ?_
        clear hK K
        try simp only [zpt]
        exact ⟨_, _, _, _, _, _, _, _, _, _, rfl, BW, fun a => by first | exact h1 (by simpa using a) | rfl, fun a => by first | exact h2 (by simpa using a) | rfl, fun a => by first | exact h3 (by simpa using a) | rfl, fun a => by first | exact h4 (by simpa using a) | rfl, fun a => by first | exact h5 (by simpa using a) | rfl, fun a => by first | exact h6 (by simpa using a) | rfl, fun _ => rfl, fun a => by first | exact h8 (by simpa using a) | rfl, fun a => h9 (by simpa using a), fun a => ⟨by simp [(h10 (by simpa using a)).1], (h10 (by simpa using a)).2⟩, fun a => by first | exact h11 (by simpa using a) | rfl⟩
      · obtain rfl := h6 (hdeps 6 (by simp))
        refine wpOp_step (o := ?os24) ?hos24 (fun K hK => ?_)
        case hos24 => simp only [zge]; rfl
        go_simp
        refine hK _ _ ?_
        clear hK K
        try simp only [zpt]
        exact ⟨_, _, _, _, _, _, _, _, _, _, rfl, BW, fun a => by first | exact h1 (by simpa using a) | rfl, fun a => by first | exact h2 (by simpa using a) | rfl, fun a => by first | exact h3 (by simpa using a) | rfl, fun a => by first | exact h4 (by simpa using a) | rfl, fun a => by first | exact h5 (by simpa using a) | rfl, fun a => by first | exact h6 (by simpa using a) | rfl, fun a => by first | exact h7 (by simpa using a) | rfl, fun _ => rfl, fun a => h9 (by simpa using a), fun a => ⟨by simp [(h10 (by simpa using a)).1], (h10 (by simpa using a)).2⟩, fun a => by first | exact h11 (by simpa using a) | rfl⟩
      · have hX := alloc_below v16 (.cells (List.replicate 32 (Value.int .u8 0)).toArray 30)
        refine wpOp_step (o := ?os25) ?hos25 (fun K hK => ?_)
        case hos25 => simp only [zge]; rfl
        go_simp
        refine hK _ _ ?_
        clear hK K
        try simp only [zpt]
        exact ⟨_, _, _, _, _, _, _, _, _, _, rfl, BW.out.trans (hX.mono hsw), fun a => by first | exact h1 (by simpa using a) | rfl, fun a => by first | exact h2 (by simpa using a) | rfl, fun a => by first | exact h3 (by simpa using a) | rfl, fun a => by first | exact h4 (by simpa using a) | rfl, fun a => by first | exact h5 (by simpa using a) | rfl, fun a => by first | exact h6 (by simpa using a) | rfl, fun a => by first | exact h7 (by simpa using a) | rfl, fun a => by first | exact h8 (by simpa using a) | rfl, fun _ => (At.new _ _ _ hsw).n rfl, fun a => absurd (h10 (by simpa using a)).1 (by simp [hdi]), fun a => by first | exact h11 (by simpa using a) | rfl⟩
      · obtain rfl := h7 (hdeps 7 (by simp))
        obtain ⟨qn, hqe, hqB, cs, hQ, hQl⟩ := (h9 (hdeps 9 (by simp))).out
        obtain rfl := hqe
        refine wpOp_step (o := ?os26) ?hos26 (fun K hK => ?_)
        case hos26 => simp only [zge]; rfl
        refine step_storeAll rfl 30 (.tmp 12) (.tmp 54) rfl qn rfl R5 rfl 30 cs hQ IR5.out (hQl.trans NR5.out.symm) OR5.out (hK _ _ ?_)
        clear hK K
        have hS : At (v16.setRow qn R5.toArray) we.heap.size (.pointer (some ⟨qn, 0, none⟩)) 30 R5 := ⟨qn, rfl, hqB, hQ.row⟩
        have hN := hS.n NR5.out
        try simp only [zpt]
        exact ⟨_, _, _, _, _, _, _, _, _, _, rfl, below_setRow BW.out hqB _, fun a => by first | exact h1 (by simpa using a) | rfl, fun a => by first | exact h2 (by simpa using a) | rfl, fun a => by first | exact h3 (by simpa using a) | rfl, fun a => by first | exact h4 (by simpa using a) | rfl, fun a => by first | exact h5 (by simpa using a) | rfl, fun a => by first | exact h6 (by simpa using a) | rfl, fun a => by first | exact h7 (by simpa using a) | rfl, fun a => by first | exact h8 (by simpa using a) | rfl, fun a => hN, fun _ => ⟨by simp [hdeps 9 (by simp)], hS⟩, fun a => by first | exact h11 (by simpa using a) | rfl⟩
      · obtain rfl := h8 (hdeps 8 (by simp))
        refine wpOp_step (o := ?os27) ?hos27 (fun K hK => ?_)
        case hos27 => simp only [zge]; rfl
        go_simp
        refine hK _ _ ?_
        clear hK K
        try simp only [zpt]
        exact ⟨_, _, _, _, _, _, _, _, _, _, rfl, BW, fun a => by first | exact h1 (by simpa using a) | rfl, fun a => by first | exact h2 (by simpa using a) | rfl, fun a => by first | exact h3 (by simpa using a) | rfl, fun a => by first | exact h4 (by simpa using a) | rfl, fun a => by first | exact h5 (by simpa using a) | rfl, fun a => by first | exact h6 (by simpa using a) | rfl, fun a => by first | exact h7 (by simpa using a) | rfl, fun a => by first | exact h8 (by simpa using a) | rfl, fun a => h9 (by simpa using a), fun a => ⟨by simp [(h10 (by simpa using a)).1], (h10 (by simpa using a)).2⟩, fun _ => rfl⟩
    case fin16 =>
      intro a v16 hI
      obtain ⟨x49, x50, x51, x52, x53, x47, x54, x55, x12, x13, rfl, BW, h1, h2, h3, h4, h5, h6, h7, h8, h9, h10, h11⟩ := hI
      obtain rfl := h1 (by decide)
      obtain rfl := h2 (by decide)
      obtain rfl := h3 (by decide)
      obtain rfl := h4 (by decide)
      obtain rfl := h5 (by decide)
      obtain rfl := h6 (by decide)
      obtain rfl := h7 (by decide)
      obtain rfl := h8 (by decide)
      obtain rfl := h11 (by decide)
      clear h1 h2 h3 h4 h5 h6 h7 h8 h11
      obtain ⟨q5, rfl, hq5, hQ⟩ := (h10 (by decide)).2.out
      have BN := Lib.hid hQ
      have hX := BW.out
      replace T := Lib.hid (T.out.low hX)
      replace BO := Lib.hid (BO.out.below hX BO.out.lt)
      replace BS := Lib.hid (BS.out.below hX BS.out.lt)
      replace BP := Lib.hid (BP.out.below hX BP.out.lt)
      replace PI := Lib.hid (PI.out.below hX)
      replace BC := Lib.hid (BC.out.below hX BC.out.lt)
      replace W := Lib.hid (W.out.trans (hX.mono W.out.size))
      clear hX BW hQ h9 h10 
      try dsimp only
      refine wpAny_done (by kernel_rfl) ?_ _
      clear PI
      go_upto_region 10 with (first
        | (go_at_call 20; refine (CN1.out v16).mono ?_; rintro e w21 ⟨rfl, hX⟩; replace T := Lib.hid (T.out.low hX); replace BO := Lib.hid (BO.out.below hX BO.out.lt); replace BS := Lib.hid (BS.out.below hX BS.out.lt); replace BP := Lib.hid (BP.out.below hX BP.out.lt); replace BC := Lib.hid (BC.out.below hX BC.out.lt); replace BN := Lib.hid (BN.out.below hX BN.out.lt); replace W := Lib.hid (W.out.trans (hX.mono W.out.size)); clear hX)
        | (go_at_call 27; refine (CS5.out w21).mono ?_; rintro e w22 ⟨rfl, hX⟩; replace T := Lib.hid (T.out.low hX); replace BO := Lib.hid (BO.out.below hX BO.out.lt); replace BS := Lib.hid (BS.out.below hX BS.out.lt); replace BP := Lib.hid (BP.out.below hX BP.out.lt); replace BC := Lib.hid (BC.out.below hX BC.out.lt); replace BN := Lib.hid (BN.out.below hX BN.out.lt); replace W := Lib.hid (W.out.trans (hX.mono W.out.size)); clear hX)
        | (go_at_call 26; refine (CP5.out w22 g W.out hgw T.out).mono ?_; rintro e w23 ⟨⟨bb, rfl⟩, hT, hG⟩; replace BO := Lib.hid (put_keeps T.out BO.out (by decide) hG); replace BS := Lib.hid (put_keeps T.out BS.out (by decide) hG); replace BP := Lib.hid (put_keeps T.out BP.out (by decide) hG); replace BC := Lib.hid (put_keeps T.out BC.out (by decide) hG); replace BN := Lib.hid (put_keeps T.out BN.out (by decide) hG); replace W : Hid (Below w.heap.size w _) := W.out.grown hG W.out.size (fun q hq => by have h : g = q := Option.some.inj hq; omega); replace T := Lib.hid hT; clear hT hG))
      have c0 := L0.out _ _ BP.out
      clear CP1 CP2 CP3 CP5 CR1 CR3 CG CV CK CA CN2 CS2 CS5
      have hX := (Below.refl w23.heap.size w23).drew
      replace T := Lib.hid (T.out.low hX)
      replace BO := Lib.hid (BO.out.below hX BO.out.lt)
      replace BS := Lib.hid (BS.out.below hX BS.out.lt)
      replace BP := Lib.hid (BP.out.below hX BP.out.lt)
      replace BC := Lib.hid (BC.out.below hX BC.out.lt)
      replace BN := Lib.hid (BN.out.below hX BN.out.lt)
      replace W := Lib.hid (W.out.trans (hX.mono W.out.size))
      clear hX
      refine wp_region_any (by kernel_rfl) ?_
      change wpAny _ _ _ _ _ _ _ (World.drew _)
      generalize w23.drew = wf at *
      refine wpAny_ready (rs := [0]) (by kernel_rfl) (by simp) ?_
      refine AllReady.cons (o := ?p29) ?q29 (fun K hK => ?_) AllReady.nil
      case q29 => simp only [zge]; rfl
      go_simp
      refine (CB.out wf W.out).mono ?_
      rintro e wg ⟨rfl, hX⟩
      replace T := Lib.hid (T.out.low hX)
      replace BO := Lib.hid (BO.out.below hX BO.out.lt)
      replace BS := Lib.hid (BS.out.below hX BS.out.lt)
      replace BP := Lib.hid (BP.out.below hX BP.out.lt)
      replace BC := Lib.hid (BC.out.below hX BC.out.lt)
      replace BN := Lib.hid (BN.out.below hX BN.out.lt)
      replace W := Lib.hid (W.out.trans (hX.mono W.out.size))
      clear hX
      refine hK _ _ ?_
      clear hK K
      try simp only [zpt]
      refine wpAny_take (i := 1) (oi := ?oi30) (v := .bool true) ?hi30 (by kernel_rfl) (by kernel_rfl) (by kernel_rfl) ?hQ30 ?hy30 ?rest30
      case hi30 => simp only [zge]; rfl
      case hQ30 => exact fun _ _ _ h => h
      case hy30 => exact Or.inl ⟨by rfl, by intro w; go_simp⟩
      try simp only [zpt]
      refine wpAny_take (i := 2) (oi := ?oi31) (v := .bool true) ?hi31 (by kernel_rfl) (by kernel_rfl) (by kernel_rfl) ?hQ31 ?hy31 ?rest31
      case hi31 => simp only [zge]; rfl
      case hQ31 => exact fun _ _ _ h => h
      case hy31 => exact Or.inl ⟨by rfl, by intro w; go_simp⟩
      try simp only [zpt]
      refine wpAny_take (i := 3) (oi := ?oi32) (v := .bool true) ?hi32 (by kernel_rfl) (by kernel_rfl) (by kernel_rfl) ?hQ32 ?hy32 ?rest32
      case hi32 => simp only [zge]; rfl
      case hQ32 => exact fun _ _ _ h => h
      case hy32 => exact Or.inl ⟨by rfl, by intro w; go_simp⟩
      try simp only [zpt]
      refine wpAny_take (i := 4) (oi := ?oi33) (v := .bool true) ?hi33 (by kernel_rfl) (by kernel_rfl) (by kernel_rfl) ?hQ33 ?hy33 ?rest33
      case hi33 => simp only [zge]; rfl
      case hQ33 => exact fun _ _ _ h => h
      case hy33 => exact Or.inl ⟨by rfl, by intro w; go_simp⟩
      try simp only [zpt]
      refine wpAny_take (i := 5) (oi := ?oi34) (v := .bool true) ?hi34 (by kernel_rfl) (by kernel_rfl) (by kernel_rfl) ?hQ34 ?hy34 ?rest34
      case hi34 => simp only [zge]; rfl
      case hQ34 => exact fun _ _ _ h => h
      case hy34 => exact Or.inl ⟨by rfl, by intro w; go_simp⟩
      try simp only [zpt]
      refine wpAny_take (i := 6) (oi := ?oi35) (v := .bool true) ?hi35 (by kernel_rfl) (by kernel_rfl) (by kernel_rfl) ?hQ35 ?hy35 ?rest35
      case hi35 => simp only [zge]; rfl
      case hQ35 => exact fun _ _ _ h => h
      case hy35 => exact Or.inl ⟨by rfl, by intro w; go_simp⟩
      try simp only [zpt]
      refine wpAny_take (i := 7) (oi := ?oi36) (v := .bool true) ?hi36 (by kernel_rfl) (by kernel_rfl) (by kernel_rfl) ?hQ36 ?hy36 ?rest36
      case hi36 => simp only [zge]; rfl
      case hQ36 => exact fun _ _ _ h => h
      case hy36 => exact Or.inl ⟨by rfl, by intro w; go_simp⟩
      try simp only [zpt]
      refine wpAny_take (i := 8) (oi := ?oi37) (v := .bool false) ?hi37 (by kernel_rfl) (by kernel_rfl) (by kernel_rfl) ?hQ37 ?hy37 ?rest37
      case hi37 => simp only [zge]; rfl
      case hQ37 => exact fun _ _ _ h => h
      case hy37 => exact Or.inl ⟨by rfl, by intro w; go_simp⟩
      try simp only [zpt]
      refine wpAny_take (i := 9) (oi := ?oi38) (v := .bool true) ?hi38 (by kernel_rfl) (by kernel_rfl) (by kernel_rfl) ?hQ38 ?hy38 ?rest38
      case hi38 => simp only [zge]; rfl
      case hQ38 => exact fun _ _ _ h => h
      case hy38 => exact Or.inl ⟨by rfl, by intro w; go_simp⟩
      try simp only [zpt]
      refine wpAny_take (i := 10) (oi := ?oi39) (v := .bool true) ?hi39 (by kernel_rfl) (by kernel_rfl) (by kernel_rfl) ?hQ39 ?hy39 ?rest39
      case hi39 => simp only [zge]; rfl
      case hQ39 => exact fun _ _ _ h => h
      case hy39 => exact Or.inl ⟨by rfl, by intro w; go_simp⟩
      try simp only [zpt]
      refine wpAny_take (i := 11) (oi := ?oi40) (v := .bool true) ?hi40 (by kernel_rfl) (by kernel_rfl) (by kernel_rfl) ?hQ40 ?hy40 ?rest40
      case hi40 => simp only [zge]; rfl
      case hQ40 => exact fun _ _ _ h => h
      case hy40 => exact Or.inl ⟨by rfl, by intro w; go_simp⟩
      try simp only [zpt]
      refine phaseL (fun i => if i = 14 then [13] else if i = 15 then [13, 14] else if i = 16 then [12, 15] else []) (fun d a w' => ∃ x72 x73 x74 x75 x76 : Value, a = { tmps := #[.bool false, .pointer (some ⟨g, 0, none⟩), .bool true, .pointer (some ⟨q1, 0, none⟩), .bool true, .bool false, .pointer (some ⟨q2, 0, none⟩), .bool true, .pointer (some ⟨q3, 0, none⟩), .pointer (some ⟨q4, 0, none⟩), .bool true, .bool true, .pointer (some ⟨q5, 0, none⟩), .bool true, .pointer (some ⟨g, 0, none⟩), .pointer (some ⟨g, 0, none⟩), .agg N1.toArray, .agg S1.toArray, .bool true, .pointer (some ⟨g, 0, none⟩), .agg LF.toArray, .pointer (some ⟨g, 0, none⟩), .agg N2.toArray, .agg S2.toArray, .bool true, .pointer (some ⟨g, 0, none⟩), .agg N2.toArray, .agg S3.toArray, .bool false, .tuple #[.agg S3.toArray, .bool true], .pointer (some ⟨g, 0, none⟩), .agg N2.toArray, .tuple #[.agg S3.toArray, .bool true], .agg S3.toArray, .bool true, .pointer (some ⟨g, 0, none⟩), .agg N1.toArray, .agg PP.toArray, .tuple #[.agg S1.toArray, .bool true, .bool true], .pointer (some ⟨g, 0, none⟩), .agg R3.toArray, .agg N1.toArray, .agg PP.toArray, .tuple #[.agg S1.toArray, .bool true, .bool true], .agg S1.toArray, .bool true, .bool true, .tuple #[.agg R5.toArray, .bool true], .pointer (some ⟨g, 0, none⟩), .agg R3.toArray, .agg N1.toArray, .agg S5.toArray, .agg PP.toArray, .tuple #[.agg R5.toArray, .bool true], .agg R5.toArray, .bool true, .pointer (some ⟨g, 0, none⟩), .agg N1.toArray, .agg S5.toArray, .bool bb, .bool true, .bool true, .bool true, .bool true, .bool true, .bool true, .bool true, .bool true, .bool false, .bool true, .bool true, .bool true, x72, x73, x74, x75, x76, undef, undef, undef, undef, undef, undef, undef, undef, undef, undef, undef, undef, undef, undef, undef, undef, undef, undef, undef, undef, undef, undef, undef, undef, undef, undef, undef, undef, undef, undef, undef, undef, undef, undef, undef, undef, undef, undef, undef, undef], defers := [] } ∧ Hid (Below wg.heap.size wg w') ∧ (d 12 = true → x72 = .agg LF.toArray) ∧ (d 13 = true → x73 = .agg N1.toArray) ∧ (d 14 = true → x74 = .agg S1.toArray) ∧ (d 15 = true → x75 = .agg LF.toArray) ∧ (d 16 = true → x76 = .bool true)) [12, 13, 14, 15, 16] ?step41 41 5 [12, 13, 14, 15, 16] _ _ _ rfl (by decide) (fun _ h => h) (Fits.of (by kernel_rfl)) ?init41 ?fin41
      case init41 => refine ⟨_, _, _, _, _, rfl, Below.refl _ _, ?_, ?_, ?_, ?_, ?_⟩ <;> (intro h; exact absurd h (by decide))
      case step41 =>
        intro i hi d a v41 hI hdi hdeps
        obtain ⟨x72, x73, x74, x75, x76, rfl, BW, h12, h13, h14, h15, h16⟩ := hI
        have hsw := BW.out.size
        simp only [List.mem_cons, List.not_mem_nil, or_false] at hi
        rcases hi with rfl | rfl | rfl | rfl | rfl
        · refine wpOp_step (o := ?os42) ?hos42 (fun K hK => ?_)
          case hos42 => simp only [zge]; rfl
          refine step_loadW (by kernel_rfl) 30 (.tmp 3) rfl q1 0 rfl LF _ Tryd.underlying30 rfl ILF.out (BO.out.below BW.out BO.out.lt |>.cells) (hK _ _ ?_)
          clear hK K
          try simp only [zpt]
          exact ⟨_, _, _, _, _, rfl, BW, fun _ => rfl, fun a => by first | exact h13 (by simpa using a) | rfl, fun a => by first | exact h14 (by simpa using a) | rfl, fun a => by first | exact h15 (by simpa using a) | rfl, fun a => by first | exact h16 (by simpa using a) | rfl⟩
        · refine wpOp_step (o := ?os43) ?hos43 (fun K hK => ?_)
          case hos43 => simp only [zge]; rfl
          go_simp
          refine (CN1.out v41).mono ?_
          rintro e u41 ⟨rfl, hX⟩
          refine hK _ _ ?_
          clear hK K
          try simp only [zpt]
          exact ⟨_, _, _, _, _, rfl, BW.out.trans (hX.mono hsw), fun a => by first | exact h12 (by simpa using a) | rfl, fun _ => rfl, fun a => by first | exact h14 (by simpa using a) | rfl, fun a => by first | exact h15 (by simpa using a) | rfl, fun a => by first | exact h16 (by simpa using a) | rfl⟩
        · refine wpOp_step (o := ?os44) ?hos44 (fun K hK => ?_)
          case hos44 => simp only [zge]; rfl
          go_simp
          refine (CS1.out v41).mono ?_
          rintro e u41 ⟨rfl, hX⟩
          refine hK _ _ ?_
          clear hK K
          try simp only [zpt]
          exact ⟨_, _, _, _, _, rfl, BW.out.trans (hX.mono hsw), fun a => by first | exact h12 (by simpa using a) | rfl, fun a => by first | exact h13 (by simpa using a) | rfl, fun _ => rfl, fun a => by first | exact h15 (by simpa using a) | rfl, fun a => by first | exact h16 (by simpa using a) | rfl⟩
        · obtain rfl := h13 (hdeps 13 (by simp))
          obtain rfl := h14 (hdeps 14 (by simp))
          refine wpOp_step (o := ?os45) ?hos45 (fun K hK => ?_)
          case hos45 => simp only [zge]; rfl
          go_simp
          refine (CLF.out v41 (W.out.trans (BW.out.mono W.out.size))).mono ?_
          rintro e u41 ⟨rfl, hX⟩
          refine hK _ _ ?_
          clear hK K
          try simp only [zpt]
          exact ⟨_, _, _, _, _, rfl, BW.out.trans (hX.mono hsw), fun a => by first | exact h12 (by simpa using a) | rfl, fun a => by first | exact h13 (by simpa using a) | rfl, fun a => by first | exact h14 (by simpa using a) | rfl, fun _ => rfl, fun a => by first | exact h16 (by simpa using a) | rfl⟩
        · obtain rfl := h12 (hdeps 12 (by simp))
          obtain rfl := h15 (hdeps 15 (by simp))
          have el := EL.out
          refine wpOp_step (o := ?os46) ?hos46 (fun K hK => ?_)
          case hos46 => simp only [zge]; rfl
          go_simp
          refine hK _ _ ?_
          clear hK K
          try simp only [zpt]
          exact ⟨_, _, _, _, _, rfl, BW, fun a => by first | exact h12 (by simpa using a) | rfl, fun a => by first | exact h13 (by simpa using a) | rfl, fun a => by first | exact h14 (by simpa using a) | rfl, fun a => by first | exact h15 (by simpa using a) | rfl, fun _ => rfl⟩
      case fin41 =>
        intro a v41 hI
        obtain ⟨x72, x73, x74, x75, x76, rfl, BW, h12, h13, h14, h15, h16⟩ := hI
        obtain rfl := h12 (by decide)
        obtain rfl := h13 (by decide)
        obtain rfl := h14 (by decide)
        obtain rfl := h15 (by decide)
        obtain rfl := h16 (by decide)
        clear h12 h13 h14 h15 h16
        have hX := BW.out
        replace T := Lib.hid (T.out.low hX)
        replace BO := Lib.hid (BO.out.below hX BO.out.lt)
        replace BS := Lib.hid (BS.out.below hX BS.out.lt)
        replace BP := Lib.hid (BP.out.below hX BP.out.lt)
        replace BC := Lib.hid (BC.out.below hX BC.out.lt)
        replace BN := Lib.hid (BN.out.below hX BN.out.lt)
        replace W := Lib.hid (W.out.trans (hX.mono W.out.size))
        clear hX BW
        try dsimp only
        refine wpAny_take (i := 17) (oi := ?oi47) (v := .bool true) ?hi47 (by kernel_rfl) (by kernel_rfl) (by kernel_rfl) ?hQ47 ?hy47 ?rest47
        case hi47 => simp only [zge]; rfl
        case hQ47 => exact fun _ _ _ h => h
        case hy47 => exact Or.inl ⟨by rfl, by intro w; go_simp⟩
        try simp only [zpt]
        refine wpAny_take (i := 18) (oi := ?oi48) (v := .bool true) ?hi48 (by kernel_rfl) (by kernel_rfl) (by kernel_rfl) ?hQ48 ?hy48 ?rest48
        case hi48 => simp only [zge]; rfl
        case hQ48 => exact fun _ _ _ h => h
        case hy48 => exact Or.inl ⟨by rfl, by intro w; go_simp⟩
        try simp only [zpt]
        refine phaseL (fun i => if i = 21 then [19, 20] else []) (fun d a w' => ∃ x79 x80 x81 : Value, a = { tmps := #[.bool false, .pointer (some ⟨g, 0, none⟩), .bool true, .pointer (some ⟨q1, 0, none⟩), .bool true, .bool false, .pointer (some ⟨q2, 0, none⟩), .bool true, .pointer (some ⟨q3, 0, none⟩), .pointer (some ⟨q4, 0, none⟩), .bool true, .bool true, .pointer (some ⟨q5, 0, none⟩), .bool true, .pointer (some ⟨g, 0, none⟩), .pointer (some ⟨g, 0, none⟩), .agg N1.toArray, .agg S1.toArray, .bool true, .pointer (some ⟨g, 0, none⟩), .agg LF.toArray, .pointer (some ⟨g, 0, none⟩), .agg N2.toArray, .agg S2.toArray, .bool true, .pointer (some ⟨g, 0, none⟩), .agg N2.toArray, .agg S3.toArray, .bool false, .tuple #[.agg S3.toArray, .bool true], .pointer (some ⟨g, 0, none⟩), .agg N2.toArray, .tuple #[.agg S3.toArray, .bool true], .agg S3.toArray, .bool true, .pointer (some ⟨g, 0, none⟩), .agg N1.toArray, .agg PP.toArray, .tuple #[.agg S1.toArray, .bool true, .bool true], .pointer (some ⟨g, 0, none⟩), .agg R3.toArray, .agg N1.toArray, .agg PP.toArray, .tuple #[.agg S1.toArray, .bool true, .bool true], .agg S1.toArray, .bool true, .bool true, .tuple #[.agg R5.toArray, .bool true], .pointer (some ⟨g, 0, none⟩), .agg R3.toArray, .agg N1.toArray, .agg S5.toArray, .agg PP.toArray, .tuple #[.agg R5.toArray, .bool true], .agg R5.toArray, .bool true, .pointer (some ⟨g, 0, none⟩), .agg N1.toArray, .agg S5.toArray, .bool bb, .bool true, .bool true, .bool true, .bool true, .bool true, .bool true, .bool true, .bool true, .bool false, .bool true, .bool true, .bool true, .agg LF.toArray, .agg N1.toArray, .agg S1.toArray, .agg LF.toArray, .bool true, .bool true, .bool true, x79, x80, x81, undef, undef, undef, undef, undef, undef, undef, undef, undef, undef, undef, undef, undef, undef, undef, undef, undef, undef, undef, undef, undef, undef, undef, undef, undef, undef, undef, undef, undef, undef, undef, undef, undef, undef, undef], defers := [] } ∧ Hid (Below v41.heap.size v41 w') ∧ (d 19 = true → x79 = .agg S3.toArray) ∧ (d 20 = true → x80 = .agg S3.toArray) ∧ (d 21 = true → x81 = .bool true)) [19, 20, 21] ?step49 36 3 [19, 20, 21] _ _ _ rfl (by decide) (fun _ h => h) (Fits.of (by kernel_rfl)) ?init49 ?fin49
        case init49 => refine ⟨_, _, _, rfl, Below.refl _ _, ?_, ?_, ?_⟩ <;> (intro h; exact absurd h (by decide))
        case step49 =>
          intro i hi d a v49 hI hdi hdeps
          obtain ⟨x79, x80, x81, rfl, BW, h19, h20, h21⟩ := hI
          have hsw := BW.out.size
          simp only [List.mem_cons, List.not_mem_nil, or_false] at hi
          rcases hi with rfl | rfl | rfl
          · refine wpOp_step (o := ?os50) ?hos50 (fun K hK => ?_)
            case hos50 => simp only [zge]; rfl
            refine step_loadW (by kernel_rfl) 30 (.tmp 6) rfl q2 0 rfl S3 _ Tryd.underlying30 rfl IS3.out (BS.out.below BW.out BS.out.lt |>.cells) (hK _ _ ?_)
            clear hK K
            try simp only [zpt]
            exact ⟨_, _, _, rfl, BW, fun _ => rfl, fun a => by first | exact h20 (by simpa using a) | rfl, fun a => by first | exact h21 (by simpa using a) | rfl⟩
          · refine wpOp_step (o := ?os51) ?hos51 (fun K hK => ?_)
            case hos51 => simp only [zge]; rfl
            go_simp
            refine (CS3.out v49).mono ?_
            rintro e u49 ⟨rfl, hX⟩
            refine hK _ _ ?_
            clear hK K
            try simp only [zpt]
            exact ⟨_, _, _, rfl, BW.out.trans (hX.mono hsw), fun a => by first | exact h19 (by simpa using a) | rfl, fun _ => rfl, fun a => by first | exact h21 (by simpa using a) | rfl⟩
          · obtain rfl := h19 (hdeps 19 (by simp))
            obtain rfl := h20 (hdeps 20 (by simp))
            have el := E3.out
            refine wpOp_step (o := ?os52) ?hos52 (fun K hK => ?_)
            case hos52 => simp only [zge]; rfl
            go_simp
            refine hK _ _ ?_
            clear hK K
            try simp only [zpt]
            exact ⟨_, _, _, rfl, BW, fun a => by first | exact h19 (by simpa using a) | rfl, fun a => by first | exact h20 (by simpa using a) | rfl, fun _ => rfl⟩
        case fin49 =>
          intro a v49 hI
          obtain ⟨x79, x80, x81, rfl, BW, h19, h20, h21⟩ := hI
          obtain rfl := h19 (by decide)
          obtain rfl := h20 (by decide)
          obtain rfl := h21 (by decide)
          clear h19 h20 h21
          have hX := BW.out
          replace T := Lib.hid (T.out.low hX)
          replace BO := Lib.hid (BO.out.below hX BO.out.lt)
          replace BS := Lib.hid (BS.out.below hX BS.out.lt)
          replace BP := Lib.hid (BP.out.below hX BP.out.lt)
          replace BC := Lib.hid (BC.out.below hX BC.out.lt)
          replace BN := Lib.hid (BN.out.below hX BN.out.lt)
          replace W := Lib.hid (W.out.trans (hX.mono W.out.size))
          clear hX BW
          try dsimp only
          refine wpAny_take (i := 22) (oi := ?oi53) (v := .bool true) ?hi53 (by kernel_rfl) (by kernel_rfl) (by kernel_rfl) ?hQ53 ?hy53 ?rest53
          case hi53 => simp only [zge]; rfl
          case hQ53 => exact fun _ _ _ h => h
          case hy53 => exact Or.inl ⟨by rfl, by intro w; go_simp⟩
          try simp only [zpt]
          refine wpAny_take (i := 23) (oi := ?oi54) (v := .bool true) ?hi54 (by kernel_rfl) (by kernel_rfl) (by kernel_rfl) ?hQ54 ?hy54 ?rest54
          case hi54 => simp only [zge]; rfl
          case hQ54 => exact fun _ _ _ h => h
          case hy54 => exact Or.inl ⟨by rfl, by intro w; go_simp⟩
          try simp only [zpt]
          refine wpAny_take (i := 24) (oi := ?oi55) (v := .bool true) ?hi55 (by kernel_rfl) (by kernel_rfl) (by kernel_rfl) ?hQ55 ?hy55 ?rest55
          case hi55 => simp only [zge]; rfl
          case hQ55 => exact fun _ _ _ h => h
          case hy55 => exact Or.inl ⟨by rfl, by intro w; go_simp⟩
          try simp only [zpt]
          refine wpAny_take (i := 25) (oi := ?oi56) (v := .bool true) ?hi56 (by kernel_rfl) (by kernel_rfl) (by kernel_rfl) ?hQ56 ?hy56 ?rest56
          case hi56 => simp only [zge]; rfl
          case hQ56 => exact fun _ _ _ h => h
          case hy56 => exact Or.inl ⟨by rfl, by intro w; go_simp⟩
          try simp only [zpt]
          refine wpAny_take (i := 26) (oi := ?oi57) (v := .bool true) ?hi57 (by kernel_rfl) (by kernel_rfl) (by kernel_rfl) ?hQ57 ?hy57 ?rest57
          case hi57 => simp only [zge]; rfl
          case hQ57 => exact fun _ _ _ h => h
          case hy57 => exact Or.inl ⟨by rfl, by intro w; go_simp⟩
          try simp only [zpt]
          refine wpAny_take (i := 27) (oi := ?oi58) (v := .pointer (some ⟨g, 0, none⟩)) ?hi58 (by kernel_rfl) (by kernel_rfl) (by kernel_rfl) ?hQ58 ?hy58 ?rest58
          case hi58 => simp only [zge]; rfl
          case hQ58 => exact fun _ _ _ h => h
          case hy58 => exact Or.inl ⟨by rfl, by intro w; go_simp⟩
          try simp only [zpt]
          refine wpAny_ready (rs := [28]) (by kernel_rfl) (by simp) ?_
          refine AllReady.cons (o := ?p59) ?q59 (fun K hK => ?_) AllReady.nil
          case q59 => simp only [zge]; rfl
          go_simp
          refine (CLN.out v49 g T.out).mono ?_
          rintro e wh ⟨rfl, rfl⟩
          refine hK _ _ ?_
          clear hK K
          try simp only [zpt]
          refine wpAny_take (i := 29) (oi := ?oi60) (v := .bool true) ?hi60 (by kernel_rfl) (by kernel_rfl) (by kernel_rfl) ?hQ60 ?hy60 ?rest60
          case hi60 => simp only [zge]; rfl
          case hQ60 => exact fun _ _ _ h => h
          case hy60 => exact Or.inl ⟨by rfl, by intro w; go_simp⟩
          try simp only [zpt]
          refine wpAny_take (i := 30) (oi := ?oi61) (v := .bool true) ?hi61 (by kernel_rfl) (by kernel_rfl) (by kernel_rfl) ?hQ61 ?hy61 ?rest61
          case hi61 => simp only [zge]; rfl
          case hQ61 => exact fun _ _ _ h => h
          case hy61 => exact Or.inl ⟨by rfl, by intro w; go_simp⟩
          try simp only [zpt]
          refine wpAny_take (i := 31) (oi := ?oi62) (v := .bool true) ?hi62 (by kernel_rfl) (by kernel_rfl) (by kernel_rfl) ?hQ62 ?hy62 ?rest62
          case hi62 => simp only [zge]; rfl
          case hQ62 => exact fun _ _ _ h => h
          case hy62 => exact Or.inl ⟨by rfl, by intro w; go_simp⟩
          try simp only [zpt]
          refine phaseL (fun i => if i = 34 then [32, 33] else []) (fun d a w' => ∃ x92 x93 x94 : Value, a = { tmps := #[.bool false, .pointer (some ⟨g, 0, none⟩), .bool true, .pointer (some ⟨q1, 0, none⟩), .bool true, .bool false, .pointer (some ⟨q2, 0, none⟩), .bool true, .pointer (some ⟨q3, 0, none⟩), .pointer (some ⟨q4, 0, none⟩), .bool true, .bool true, .pointer (some ⟨q5, 0, none⟩), .bool true, .pointer (some ⟨g, 0, none⟩), .pointer (some ⟨g, 0, none⟩), .agg N1.toArray, .agg S1.toArray, .bool true, .pointer (some ⟨g, 0, none⟩), .agg LF.toArray, .pointer (some ⟨g, 0, none⟩), .agg N2.toArray, .agg S2.toArray, .bool true, .pointer (some ⟨g, 0, none⟩), .agg N2.toArray, .agg S3.toArray, .bool false, .tuple #[.agg S3.toArray, .bool true], .pointer (some ⟨g, 0, none⟩), .agg N2.toArray, .tuple #[.agg S3.toArray, .bool true], .agg S3.toArray, .bool true, .pointer (some ⟨g, 0, none⟩), .agg N1.toArray, .agg PP.toArray, .tuple #[.agg S1.toArray, .bool true, .bool true], .pointer (some ⟨g, 0, none⟩), .agg R3.toArray, .agg N1.toArray, .agg PP.toArray, .tuple #[.agg S1.toArray, .bool true, .bool true], .agg S1.toArray, .bool true, .bool true, .tuple #[.agg R5.toArray, .bool true], .pointer (some ⟨g, 0, none⟩), .agg R3.toArray, .agg N1.toArray, .agg S5.toArray, .agg PP.toArray, .tuple #[.agg R5.toArray, .bool true], .agg R5.toArray, .bool true, .pointer (some ⟨g, 0, none⟩), .agg N1.toArray, .agg S5.toArray, .bool bb, .bool true, .bool true, .bool true, .bool true, .bool true, .bool true, .bool true, .bool true, .bool false, .bool true, .bool true, .bool true, .agg LF.toArray, .agg N1.toArray, .agg S1.toArray, .agg LF.toArray, .bool true, .bool true, .bool true, .agg S3.toArray, .agg S3.toArray, .bool true, .bool true, .bool true, .bool true, .bool true, .bool true, .pointer (some ⟨g, 0, none⟩), .int .i64 2, .bool true, .bool true, .bool true, x92, x93, x94, undef, undef, undef, undef, undef, undef, undef, undef, undef, undef, undef, undef, undef, undef, undef, undef, undef, undef, undef, undef, undef, undef], defers := [] } ∧ Hid (Below v49.heap.size v49 w') ∧ (d 32 = true → x92 = .agg S1.toArray) ∧ (d 33 = true → x93 = .agg S1.toArray) ∧ (d 34 = true → x94 = .bool true)) [32, 33, 34] ?step63 23 3 [32, 33, 34] _ _ _ rfl (by decide) (fun _ h => h) (Fits.of (by kernel_rfl)) ?init63 ?fin63
          case init63 => refine ⟨_, _, _, rfl, Below.refl _ _, ?_, ?_, ?_⟩ <;> (intro h; exact absurd h (by decide))
          case step63 =>
            intro i hi d a v63 hI hdi hdeps
            obtain ⟨x92, x93, x94, rfl, BW, h32, h33, h34⟩ := hI
            have hsw := BW.out.size
            simp only [List.mem_cons, List.not_mem_nil, or_false] at hi
            rcases hi with rfl | rfl | rfl
            · refine wpOp_step (o := ?os64) ?hos64 (fun K hK => ?_)
              case hos64 => simp only [zge]; rfl
              refine step_loadW (by kernel_rfl) 30 (.tmp 9) rfl q4 0 rfl S1 _ Tryd.underlying30 rfl IS1.out (BC.out.below BW.out BC.out.lt |>.cells) (hK _ _ ?_)
              clear hK K
              try simp only [zpt]
              exact ⟨_, _, _, rfl, BW, fun _ => rfl, fun a => by first | exact h33 (by simpa using a) | rfl, fun a => by first | exact h34 (by simpa using a) | rfl⟩
            · refine wpOp_step (o := ?os65) ?hos65 (fun K hK => ?_)
              case hos65 => simp only [zge]; rfl
              go_simp
              refine (CS1.out v63).mono ?_
              rintro e u63 ⟨rfl, hX⟩
              refine hK _ _ ?_
              clear hK K
              try simp only [zpt]
              exact ⟨_, _, _, rfl, BW.out.trans (hX.mono hsw), fun a => by first | exact h32 (by simpa using a) | rfl, fun _ => rfl, fun a => by first | exact h34 (by simpa using a) | rfl⟩
            · obtain rfl := h32 (hdeps 32 (by simp))
              obtain rfl := h33 (hdeps 33 (by simp))
              have el := E1.out
              refine wpOp_step (o := ?os66) ?hos66 (fun K hK => ?_)
              case hos66 => simp only [zge]; rfl
              go_simp
              refine hK _ _ ?_
              clear hK K
              try simp only [zpt]
              exact ⟨_, _, _, rfl, BW, fun a => by first | exact h32 (by simpa using a) | rfl, fun a => by first | exact h33 (by simpa using a) | rfl, fun _ => rfl⟩
          case fin63 =>
            intro a v63 hI
            obtain ⟨x92, x93, x94, rfl, BW, h32, h33, h34⟩ := hI
            obtain rfl := h32 (by decide)
            obtain rfl := h33 (by decide)
            obtain rfl := h34 (by decide)
            clear h32 h33 h34
            have hX := BW.out
            replace T := Lib.hid (T.out.low hX)
            replace BO := Lib.hid (BO.out.below hX BO.out.lt)
            replace BS := Lib.hid (BS.out.below hX BS.out.lt)
            replace BP := Lib.hid (BP.out.below hX BP.out.lt)
            replace BC := Lib.hid (BC.out.below hX BC.out.lt)
            replace BN := Lib.hid (BN.out.below hX BN.out.lt)
            replace W := Lib.hid (W.out.trans (hX.mono W.out.size))
            clear hX BW
            try dsimp only
            refine wpAny_take (i := 35) (oi := ?oi67) (v := .bool true) ?hi67 (by kernel_rfl) (by kernel_rfl) (by kernel_rfl) ?hQ67 ?hy67 ?rest67
            case hi67 => simp only [zge]; rfl
            case hQ67 => exact fun _ _ _ h => h
            case hy67 => exact Or.inl ⟨by rfl, by intro w; go_simp⟩
            try simp only [zpt]
            refine wpAny_take (i := 36) (oi := ?oi68) (v := .bool true) ?hi68 (by kernel_rfl) (by kernel_rfl) (by kernel_rfl) ?hQ68 ?hy68 ?rest68
            case hi68 => simp only [zge]; rfl
            case hQ68 => exact fun _ _ _ h => h
            case hy68 => exact Or.inl ⟨by rfl, by intro w; go_simp⟩
            try simp only [zpt]
            refine wpAny_take (i := 37) (oi := ?oi69) (v := .bool true) ?hi69 (by kernel_rfl) (by kernel_rfl) (by kernel_rfl) ?hQ69 ?hy69 ?rest69
            case hi69 => simp only [zge]; rfl
            case hQ69 => exact fun _ _ _ h => h
            case hy69 => exact Or.inl ⟨by rfl, by intro w; go_simp⟩
            try simp only [zpt]
            refine wpAny_take (i := 38) (oi := ?oi70) (v := .bool true) ?hi70 (by kernel_rfl) (by kernel_rfl) (by kernel_rfl) ?hQ70 ?hy70 ?rest70
            case hi70 => simp only [zge]; rfl
            case hQ70 => exact fun _ _ _ h => h
            case hy70 => exact Or.inl ⟨by rfl, by intro w; go_simp⟩
            try simp only [zpt]
            refine wpAny_take (i := 39) (oi := ?oi71) (v := .bool true) ?hi71 (by kernel_rfl) (by kernel_rfl) (by kernel_rfl) ?hQ71 ?hy71 ?rest71
            case hi71 => simp only [zge]; rfl
            case hQ71 => exact fun _ _ _ h => h
            case hy71 => exact Or.inl ⟨by rfl, by intro w; go_simp⟩
            try simp only [zpt]
            refine wpAny_take (i := 40) (oi := ?oi72) (v := .bool true) ?hi72 (by kernel_rfl) (by kernel_rfl) (by kernel_rfl) ?hQ72 ?hy72 ?rest72
            case hi72 => simp only [zge]; rfl
            case hQ72 => exact fun _ _ _ h => h
            case hy72 => exact Or.inl ⟨by rfl, by intro w; go_simp⟩
            try simp only [zpt]
            refine wpAny_take (i := 41) (oi := ?oi73) (v := .bool true) ?hi73 (by kernel_rfl) (by kernel_rfl) (by kernel_rfl) ?hQ73 ?hy73 ?rest73
            case hi73 => simp only [zge]; rfl
            case hQ73 => exact fun _ _ _ h => h
            case hy73 => exact Or.inl ⟨by rfl, by intro w; go_simp⟩
            try simp only [zpt]
            refine wpAny_take (i := 42) (oi := ?oi74) (v := .bool true) ?hi74 (by kernel_rfl) (by kernel_rfl) (by kernel_rfl) ?hQ74 ?hy74 ?rest74
            case hi74 => simp only [zge]; rfl
            case hQ74 => exact fun _ _ _ h => h
            case hy74 => exact Or.inl ⟨by rfl, by intro w; go_simp⟩
            try simp only [zpt]
            refine wpAny_take (i := 43) (oi := ?oi75) (v := .bool true) ?hi75 (by kernel_rfl) (by kernel_rfl) (by kernel_rfl) ?hQ75 ?hy75 ?rest75
            case hi75 => simp only [zge]; rfl
            case hQ75 => exact fun _ _ _ h => h
            case hy75 => exact Or.inl ⟨by rfl, by intro w; go_simp⟩
            try simp only [zpt]
            refine wpAny_take (i := 44) (oi := ?oi76) (v := .bool true) ?hi76 (by kernel_rfl) (by kernel_rfl) (by kernel_rfl) ?hQ76 ?hy76 ?rest76
            case hi76 => simp only [zge]; rfl
            case hQ76 => exact fun _ _ _ h => h
            case hy76 => exact Or.inl ⟨by rfl, by intro w; go_simp⟩
            try simp only [zpt]
            refine wpAny_take (i := 45) (oi := ?oi77) (v := .bool true) ?hi77 (by kernel_rfl) (by kernel_rfl) (by kernel_rfl) ?hQ77 ?hy77 ?rest77
            case hi77 => simp only [zge]; rfl
            case hQ77 => exact fun _ _ _ h => h
            case hy77 => exact Or.inl ⟨by rfl, by intro w; go_simp⟩
            try simp only [zpt]
            refine wpAny_take (i := 47) (oi := ?oi78) (v := .pointer (some ⟨g, 0, none⟩)) ?hi78 (by kernel_rfl) (by kernel_rfl) (by kernel_rfl) ?hQ78 ?hy78 ?rest78
            case hi78 => simp only [zge]; rfl
            case hQ78 => exact fun _ _ _ h => h
            case hy78 => exact Or.inl ⟨by rfl, by intro w; go_simp⟩
            try simp only [zpt]
            refine phaseL (fun i => if i = 49 then [46, 48] else []) (fun d a w' => ∃ x106 x108 x109 : Value, a = { tmps := #[.bool false, .pointer (some ⟨g, 0, none⟩), .bool true, .pointer (some ⟨q1, 0, none⟩), .bool true, .bool false, .pointer (some ⟨q2, 0, none⟩), .bool true, .pointer (some ⟨q3, 0, none⟩), .pointer (some ⟨q4, 0, none⟩), .bool true, .bool true, .pointer (some ⟨q5, 0, none⟩), .bool true, .pointer (some ⟨g, 0, none⟩), .pointer (some ⟨g, 0, none⟩), .agg N1.toArray, .agg S1.toArray, .bool true, .pointer (some ⟨g, 0, none⟩), .agg LF.toArray, .pointer (some ⟨g, 0, none⟩), .agg N2.toArray, .agg S2.toArray, .bool true, .pointer (some ⟨g, 0, none⟩), .agg N2.toArray, .agg S3.toArray, .bool false, .tuple #[.agg S3.toArray, .bool true], .pointer (some ⟨g, 0, none⟩), .agg N2.toArray, .tuple #[.agg S3.toArray, .bool true], .agg S3.toArray, .bool true, .pointer (some ⟨g, 0, none⟩), .agg N1.toArray, .agg PP.toArray, .tuple #[.agg S1.toArray, .bool true, .bool true], .pointer (some ⟨g, 0, none⟩), .agg R3.toArray, .agg N1.toArray, .agg PP.toArray, .tuple #[.agg S1.toArray, .bool true, .bool true], .agg S1.toArray, .bool true, .bool true, .tuple #[.agg R5.toArray, .bool true], .pointer (some ⟨g, 0, none⟩), .agg R3.toArray, .agg N1.toArray, .agg S5.toArray, .agg PP.toArray, .tuple #[.agg R5.toArray, .bool true], .agg R5.toArray, .bool true, .pointer (some ⟨g, 0, none⟩), .agg N1.toArray, .agg S5.toArray, .bool bb, .bool true, .bool true, .bool true, .bool true, .bool true, .bool true, .bool true, .bool true, .bool false, .bool true, .bool true, .bool true, .agg LF.toArray, .agg N1.toArray, .agg S1.toArray, .agg LF.toArray, .bool true, .bool true, .bool true, .agg S3.toArray, .agg S3.toArray, .bool true, .bool true, .bool true, .bool true, .bool true, .bool true, .pointer (some ⟨g, 0, none⟩), .int .i64 2, .bool true, .bool true, .bool true, .agg S1.toArray, .agg S1.toArray, .bool true, .bool true, .bool true, .bool true, .bool true, .bool true, .bool true, .bool true, .bool true, .bool true, .bool true, .bool true, x106, .pointer (some ⟨g, 0, none⟩), x108, x109, undef, undef, undef, undef, undef, undef, undef], defers := [] } ∧ Hid (Below v63.heap.size v63 w') ∧ (d 46 = true → x106 = .agg R5.toArray) ∧ (d 48 = true → x108 = .agg R5.toArray) ∧ (d 49 = true → x109 = .bool true)) [46, 48, 49] ?step79 8 3 [46, 48, 49] _ _ _ rfl (by decide) (fun _ h => h) (Fits.of (by kernel_rfl)) ?init79 ?fin79
            case init79 => refine ⟨_, _, _, rfl, Below.refl _ _, ?_, ?_, ?_⟩ <;> (intro h; exact absurd h (by decide))
            case step79 =>
              intro i hi d a v79 hI hdi hdeps
              obtain ⟨x106, x108, x109, rfl, BW, h46, h48, h49⟩ := hI
              have hsw := BW.out.size
              simp only [List.mem_cons, List.not_mem_nil, or_false] at hi
              rcases hi with rfl | rfl | rfl
              · refine wpOp_step (o := ?os80) ?hos80 (fun K hK => ?_)
                case hos80 => simp only [zge]; rfl
                refine step_loadW (by kernel_rfl) 30 (.tmp 12) rfl q5 0 rfl R5 _ Tryd.underlying30 rfl IR5.out (BN.out.below BW.out BN.out.lt |>.cells) (hK _ _ ?_)
                clear hK K
                try simp only [zpt]
                exact ⟨_, _, _, rfl, BW, fun _ => rfl, fun a => by first | exact h48 (by simpa using a) | rfl, fun a => by first | exact h49 (by simpa using a) | rfl⟩
              · refine wpOp_step (o := ?os81) ?hos81 (fun K hK => ?_)
                case hos81 => simp only [zge]; rfl
                go_simp
                refine (CR5.out v79 g (T.out.low BW.out)).mono ?_
                rintro e u79 ⟨rfl, hX⟩
                refine hK _ _ ?_
                clear hK K
                try simp only [zpt]
                exact ⟨_, _, _, rfl, BW.out.trans (hX.mono hsw), fun a => by first | exact h46 (by simpa using a) | rfl, fun _ => rfl, fun a => by first | exact h49 (by simpa using a) | rfl⟩
              · obtain rfl := h46 (hdeps 46 (by simp))
                obtain rfl := h48 (hdeps 48 (by simp))
                have el := E5.out
                refine wpOp_step (o := ?os82) ?hos82 (fun K hK => ?_)
                case hos82 => simp only [zge]; rfl
                go_simp
                refine hK _ _ ?_
                clear hK K
                try simp only [zpt]
                exact ⟨_, _, _, rfl, BW, fun a => by first | exact h46 (by simpa using a) | rfl, fun a => by first | exact h48 (by simpa using a) | rfl, fun _ => rfl⟩
            case fin79 =>
              intro a v79 hI
              obtain ⟨x106, x108, x109, rfl, BW, h46, h48, h49⟩ := hI
              obtain rfl := h46 (by decide)
              obtain rfl := h48 (by decide)
              obtain rfl := h49 (by decide)
              clear h46 h48 h49
              have hX := BW.out
              replace T := Lib.hid (T.out.low hX)
              replace BO := Lib.hid (BO.out.below hX BO.out.lt)
              replace BS := Lib.hid (BS.out.below hX BS.out.lt)
              replace BP := Lib.hid (BP.out.below hX BP.out.lt)
              replace BC := Lib.hid (BC.out.below hX BC.out.lt)
              replace BN := Lib.hid (BN.out.below hX BN.out.lt)
              replace W := Lib.hid (W.out.trans (hX.mono W.out.size))
              clear hX BW
              try dsimp only
              refine wpAny_take (i := 50) (oi := ?oi83) (v := .bool true) ?hi83 (by kernel_rfl) (by kernel_rfl) (by kernel_rfl) ?hQ83 ?hy83 ?rest83
              case hi83 => simp only [zge]; rfl
              case hQ83 => exact fun _ _ _ h => h
              case hy83 => exact Or.inl ⟨by rfl, by intro w; go_simp⟩
              try simp only [zpt]
              refine wpAny_take (i := 51) (oi := ?oi84) (v := .bool true) ?hi84 (by kernel_rfl) (by kernel_rfl) (by kernel_rfl) ?hQ84 ?hy84 ?rest84
              case hi84 => simp only [zge]; rfl
              case hQ84 => exact fun _ _ _ h => h
              case hy84 => exact Or.inl ⟨by rfl, by intro w; go_simp⟩
              try simp only [zpt]
              refine wpAny_take (i := 52) (oi := ?oi85) (v := .pointer (some ⟨q3, 0, none⟩)) ?hi85 (by kernel_rfl) (by kernel_rfl) (by kernel_rfl) ?hQ85 ?hy85 ?rest85
              case hi85 => simp only [zge]; rfl
              case hQ85 => exact fun _ _ _ h => h
              case hy85 => exact Or.inl ⟨by rfl, by intro w; go_simp⟩
              try simp only [zpt]
              refine wpAny_ready (rs := [53]) (by kernel_rfl) (by simp) ?_
              refine AllReady.cons (o := ?p86) ?q86 (fun K hK => ?_) AllReady.nil
              case q86 => simp only [zge]; rfl
              have c0 := L0.out _ _ BP.out
              go_simp
              refine hK _ _ ?_
              clear hK K
              try simp only [zpt]
              have dn : decide ((0 : Int) < (n : Int)) = true := decide_eq_true (by omega)
              refine wpAny_take (i := 54) (oi := ?oi87) (v := .int .i64 (n : Int)) ?hi87 (by kernel_rfl) (by kernel_rfl) (by kernel_rfl) ?hQ87 ?hy87 ?rest87
              case hi87 => simp only [zge]; rfl
              case hQ87 => exact fun _ _ _ h => h
              case hy87 => exact Or.inl ⟨by rfl, by intro w; go_simp⟩
              try simp only [zpt]
              refine wpAny_take (i := 55) (oi := ?oi88) (v := .bool true) ?hi88 (by kernel_rfl) (by kernel_rfl) (by kernel_rfl) ?hQ88 ?hy88 ?rest88
              case hi88 => simp only [zge]; rfl
              case hQ88 => exact fun _ _ _ h => h
              case hy88 => exact Or.inl ⟨by rfl, by intro w; go_simp⟩
              try simp only [zpt]
              refine wpAny_take (i := 56) (oi := ?oi89) (v := .bool true) ?hi89 (by kernel_rfl) (by kernel_rfl) (by kernel_rfl) ?hQ89 ?hy89 ?rest89
              case hi89 => simp only [zge]; rfl
              case hQ89 => exact fun _ _ _ h => h
              case hy89 => exact Or.inl ⟨by rfl, by intro w; go_simp⟩
              try simp only [zpt]
              refine wpAny_take (i := 57) (oi := ?oi90) (v := .bool true) ?hi90 (by kernel_rfl) (by kernel_rfl) (by kernel_rfl) ?hQ90 ?hy90 ?rest90
              case hi90 => simp only [zge]; rfl
              case hQ90 => exact fun _ _ _ h => h
              case hy90 => exact Or.inl ⟨by rfl, by intro w; go_simp⟩
              try simp only [zpt]
              refine wpAny_done (by kernel_rfl) ?_ _
              go_wp2_with fail
              go_ret
              exact ⟨rfl, W.out⟩
end Go.Proofs.YtmidbpjdpakkoaaDoor
