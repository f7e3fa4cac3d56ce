import Derived.Deep.DeepCutAuto
import Derived.Test.YtmidbpjdpakkoaaDoorSTbg
namespace Go.Proofs.YtmidbpjdpakkoaaDoor.proofDeep
set_option linter.unusedVariables false
set_option linter.unusedSimpArgs false
set_option maxRecDepth 100000
open Go.RowKit
def sh (r : Nat) : UInt8 := UInt8.ofNat (128 / 2 ^ r)
theorem sh_nat : ∀ r : Fin 8, (sh r.val).toNat = 128 / 2 ^ r.val := by decide
theorem sh_bit : ∀ r i : Fin 8, (sh r.val).toNat / 2 ^ (7 - i.val) % 2 = if i = r then 1 else 0 := by decide
def la (x : UInt8) : List UInt8 := List.replicate 32 x
def lb (x : UInt8) (n : Nat) : List UInt8 := (la x).set (n / 8) (x ^^^ sh (n % 8))
theorem la_length (x : UInt8) : (la x).length = 32 := by simp [la]
theorem lb_length (x : UInt8) (n : Nat) : (lb x n).length = 32 := by simp [lb, la]
theorem la_get (x : UInt8) {j : Nat} (hj : j < 32) : (la x).getD j 0 = x := by unfold la; rw [List.getD_eq_getElem?_getD, List.getElem?_replicate, if_pos hj]; rfl
theorem lb_get (x : UInt8) (n : Nat) {j : Nat} (hj : j < 32) : (lb x n).getD j 0 = if n / 8 = j then x ^^^ sh (n % 8) else x := by
  unfold lb
  rw [List.getD_eq_getElem?_getD, List.getElem?_set]
  by_cases h : n / 8 = j
  · rw [if_pos h, if_pos (by rw [la_length]; omega), if_pos h]; rfl
  · rw [if_neg h, if_neg h, ← List.getD_eq_getElem?_getD, la_get x hj]
theorem deep_bits (x : UInt8) {n i : Nat} (hn : n < 256) (hi : i < 256) : Tm.bit (la x) i = Tm.bit (lb x n) i ↔ i ≠ n := by
  unfold Tm.bit
  rw [la_get x (by omega), lb_get x n (by omega)]
  by_cases h : n / 8 = i / 8
  · rw [if_pos h, xor_bit]
    have hs := sh_bit ⟨n % 8, by omega⟩ ⟨i % 8, by omega⟩
    dsimp only at hs
    rw [hs]
    have h2 := Nat.mod_lt (x.toNat / 2 ^ (7 - i % 8)) (show 0 < 2 by decide)
    by_cases h3 : i % 8 = n % 8
    · rw [if_pos (by simp [Fin.ext_iff, h3])]
      have : i = n := by omega
      constructor
      · intro he
        rcases Nat.mod_two_eq_zero_or_one (x.toNat / 2 ^ (7 - i % 8)) with h4 | h4 <;> rw [h4] at he <;> simp at he
      · intro hne; exact absurd this hne
    · rw [if_neg (by simp [Fin.ext_iff, h3]), Nat.add_zero, Nat.mod_mod]
      exact ⟨fun _ e => h3 (by rw [e]), fun _ => rfl⟩
  · rw [if_neg h]
    exact ⟨fun _ e => h (by rw [e]), fun _ => rfl⟩
theorem deep_ne (x : UInt8) {n : Nat} (hn : n < 256) : ¬ la x = lb x n := fun e => by
  have := (deep_bits x hn hn).1 (by rw [← e])
  exact this rfl
theorem sides_two {k s lab sum : List UInt8} : ∀ (m d : Nat), d + m < 256 → (∀ i, d ≤ i → i < d + m → Tm.bit k i = Tm.bit lab i) → Tm.bit k (d + m) ≠ Tm.bit lab (d + m) → (Tm.sides d k [(k, s), (lab, sum)]).length = m + 1
  | 0, d, hd, _, hn => by
    rw [Nat.add_zero] at hn
    rw [Tm.sides_more (by simp) (by omega), List.length_cons, Tm.half_cons, if_pos rfl, Tm.half_cons, if_neg (fun e => hn e.symm)]
    rw [Tm.sides_one (by simp [Tm.half])]
    rfl
  | m + 1, d, hd, hs, hn => by
    have h0 := hs d (Nat.le_refl _) (by omega)
    rw [Tm.sides_more (by simp) (by omega), List.length_cons, Tm.half_cons, if_pos rfl, Tm.half_cons, if_pos h0.symm]
    rw [show Tm.half (Tm.bit k d) d [] = [] from rfl]
    rw [sides_two m (d + 1) (by omega) (fun i h1 h2 => hs i (by omega) (by omega)) (by rw [show d + 1 + m = d + (m + 1) by omega]; exact hn)]
theorem deep_facts (x : UInt8) {n : Nat} (hn : n < 256) : ∃ l1 l2 : List Tm.P, Tm.put (la x, sm 1) [] = l1 ∧ Tm.put (lb x n, sm 2) l1 = l2 ∧ l1.length = 1 ∧ l2.length = 2 ∧ Tm.Fit 0 l1 ∧ Tm.Fit 0 l2 ∧
    (Tm.prove l1 (lb x n)).after (Tm.root 0 l1) (lb x n) (sm 2) = Tm.root 0 l2 ∧ (Tm.prove l1 (lb x n)).holds (Tm.root 0 l1) (lb x n) = true ∧
    (Tm.prove l2 (la x)).told (Tm.root 0 l2) (la x) = sm 1 ∧ ((Tm.prove l2 (la x)).holds (Tm.root 0 l2) (la x) && (Tm.prove l2 (la x)).there (la x)) = true ∧ (Tm.prove l2 (la x)).holds (Tm.root 0 l2) (la x) = true ∧ (Tm.prove l2 (la x)).sides.length = n + 1 := by
  have hne := deep_ne x hn
  have e2 : Tm.put (lb x n, sm 2) [(la x, sm 1)] = [(la x, sm 1), (lb x n, sm 2)] := by rw [Tm.put, if_neg hne]; rfl
  have hf1 : Tm.Fit 0 [(la x, sm 1)] := Tm.Fit.one 0 (p := (la x, sm 1)) (la_length x) (sm_length 1)
  have hf2 : Tm.Fit 0 [(la x, sm 1), (lb x n, sm 2)] := by rw [← e2]; exact hf1.more0 (lb_length x n) (sm_length 2)
  have hg : Tm.get (la x) [(la x, sm 1), (lb x n, sm 2)] = some (sm 1) := by rw [Tm.get, if_pos rfl]
  refine ⟨[(la x, sm 1)], _, rfl, e2, rfl, rfl, hf1, hf2, ?_, Tm.prove_holds hf1 _, ?_, ?_, Tm.prove_holds hf2 _, ?_⟩
  · rw [Tm.prove_after hf1, e2]
  · rw [Tm.prove_told hf2, hg]; rfl
  · rw [Tm.prove_holds hf2, Tm.prove_there hf2, hg]; rfl
  · unfold Tm.prove
    rw [Tm.sides_of]
    exact sides_two n 0 (by omega) (fun i _ h => (deep_bits x hn (by omega)).2 (by omega)) (by rw [Nat.zero_add]; exact fun e => (deep_bits x hn hn).1 e rfl)
theorem prove_len {W : World} {g : Nat} {l : List Tm.P} (hT : TreeAt W g l) {k : List UInt8} (hk : k.length = 32) : Calls Tryd.prog 21 #[.pointer (some ⟨g, 0, none⟩), hv k] W fun e w' => ∃ (A : Option Addr) (c : Nat) (PP : List Value), e = .returned (.agg PP.toArray) ∧ PrfAt w' W.heap.size (.agg PP.toArray) (Tm.prove l k) ∧ (Tryd.prog.info? 38).map (·.size) = some PP.length ∧ (∀ v ∈ PP, v.oneCell' = true) ∧ PP.length = 66 ∧ (∀ W q, Blk W q 38 PP → W.cell? ⟨q, 0, none⟩ = some (.slice A (Tm.prove l k).sides.length c)) ∧ Below W.heap.size W w' := by
  refine (tprove_any hT hk).mono ?_
  rintro e w' ⟨x, rfl, hP, hX⟩
  have hI := prove_in hT.fit hP
  obtain ⟨A, n, c, rfl, hR, _⟩ := hI.at_
  have hl : (Tm.prove l k).sides.length = n := by rw [← hR.len]; simp [hashes]
  exact ⟨A, c, _, rfl, hP, proofL_info (by simpa using hI.lab) (by simpa using hI.sum), proofL_one rfl (cells_u8 _) (cells_u8 _), proofL_length (by simpa using hI.lab) (by simpa using hI.sum), fun W q h => by rw [hl]; exact h.cell 0, hX⟩
set_option maxRecDepth 100000 in
set_option maxHeartbeats 4000000 in
theorem walk (hB : BegunOk) (n0 : Int) (x : UInt8) (w : World) (hg : Gl w) (hn1 : -9223372036854775808 ≤ n0) (hn2 : n0 ≤ 9223372036854775807) : Calls Tryd.prog 9 #[.int .i64 n0, .int .u8 (x.toNat : Int)] w fun e w' => e = .returned (.bool true) ∧ Below w.heap.size w w' := by
  have HG := Lib.hid hg
  have hsz := hg.size
  have CG : Hid (∀ W, Below w.heap.size w W → Calls Tryd.prog 14 #[] W fun e w' => e = .returned (.bool true) ∧ Below W.heap.size W w') := fun W hW => hB (hg.below hW hsz)
  have BZ0 := Lib.hid zero_built
  have IZ := Lib.hid zero_info
  have OZ := Lib.hid zero_one
  have HZL : Hid ((List.replicate 32 (Value.int .u8 0)).length = 32) := rfl
  have HZN : Hid (Tm.none32.map cellOf = (List.replicate 32 (Value.int .u8 0))) := rfl
  have ZB0 : Hid (∀ W : World, Blk (W.alloc (.cells (List.replicate 32 (Value.int .u8 0)).toArray 30)) W.heap.size 30 (List.replicate 32 (Value.int .u8 0))) := fun W => Blk.new W 30 _
  have ZPB : Hid (∀ W : World, Blk (W.alloc (.cells (proofL (.slice none 0 0) false (List.replicate 32 (Value.int .u8 0)) (List.replicate 32 (Value.int .u8 0))).toArray 38)) W.heap.size 38 (proofL (.slice none 0 0) false (List.replicate 32 (Value.int .u8 0)) (List.replicate 32 (Value.int .u8 0)))) := fun W => Blk.new W 38 _
  have HZP : Hid ((proofL (.slice none 0 0) false (List.replicate 32 (Value.int .u8 0)) (List.replicate 32 (Value.int .u8 0))).length = 66) := rfl
  obtain ⟨Z, hZ⟩ : ∃ Z, Z = List.replicate 32 (Value.int .u8 0) := ⟨_, rfl⟩
  rw [← hZ] at BZ0 IZ OZ HZL HZN
  have ZB : Hid (∀ W : World, Blk (W.alloc (.cells (List.replicate 32 (Value.int .u8 0)).toArray 30)) W.heap.size 30 Z) := fun W => by rw [hZ]; exact ZB0.out W
  have HZE : Hid ((List.replicate 32 (Value.int .u8 0)) = Z) := hZ.symm
  obtain ⟨ZP, hZP⟩ : ∃ Z, Z = (proofL (.slice none 0 0) false (List.replicate 32 (Value.int .u8 0)) (List.replicate 32 (Value.int .u8 0))) := ⟨_, rfl⟩
  have ZPB' : Hid (∀ W : World, Blk (W.alloc (.cells (proofL (.slice none 0 0) false (List.replicate 32 (Value.int .u8 0)) (List.replicate 32 (Value.int .u8 0))).toArray 38)) W.heap.size 38 ZP) := fun W => by rw [hZP]; exact ZPB.out W
  have HZPE : Hid ((proofL (.slice none 0 0) false (List.replicate 32 (Value.int .u8 0)) (List.replicate 32 (Value.int .u8 0))) = ZP) := hZP.symm
  rw [← hZP] at HZP
  have W := Lib.hid (Below.refl w.heap.size w)
  clear hg hZ hZP ZB0 ZPB
  go_enter Tryd.func9, Tryd.ntmps9
  go_upto_region 4 with (first
    | (go_at_call 14; refine (CG.out w W.out).mono ?_; rintro e w1 ⟨rfl, hX⟩; replace W := Lib.hid (W.out.trans (hX.mono W.out.size)); clear hX))
  by_cases hlo : n0 < 0
  case pos =>
    have d1 : decide (n0 < 0) = true := decide_eq_true hlo
    go_wp2_with fail
    go_ret
    exact ⟨rfl, W.out⟩
  have d1 : decide (n0 < 0) = false := decide_eq_false hlo
  by_cases hhi : 255 < n0
  case pos =>
    have d2 : decide (255 < n0) = true := decide_eq_true hhi
    go_wp2_with fail
    go_ret
    exact ⟨rfl, W.out⟩
  have d2 : decide (255 < n0) = false := decide_eq_false hhi
  obtain ⟨n, rfl⟩ := Int.eq_ofNat_of_zero_le (show 0 ≤ n0 by omega)
  have hn : n < 256 := by omega
  clear hlo hhi hn1 hn2
  go_upto_region 6 with (fail)
  clear d1 d2
  obtain ⟨l1, l2, e1, e2, hl1, hl2, hf1, hf2, haf, hh1, htd, hth, hh2, hsd⟩ := deep_facts x hn
  have hal := la_length x
  have hbl := lb_length x n
  have hrl1 := Tm.root_length 0 l1
  have hrl2 := Tm.root_length 0 l2
  have hs1 := sm_length 1
  have hs2 := sm_length 2
  have CS1 : Hid (∀ W, Calls Tryd.prog 27 #[.int .i64 1] W fun e w' => e = .returned (hv (sm 1)) ∧ Below W.heap.size W w') := fun W => sm_any 1 W
  have CS2 : Hid (∀ W, Calls Tryd.prog 27 #[.int .i64 2] W fun e w' => e = .returned (hv (sm 2)) ∧ Below W.heap.size W w') := fun W => sm_any 2 W
  have CP1 : Hid (∀ W g, Below w.heap.size w W → w.heap.size ≤ g → TreeAt W g [] → Calls Tryd.prog 26 #[.pointer (some ⟨g, 0, none⟩), hv (la x), hv (sm 1)] W fun e w' => (∃ b, e = .returned (.bool b)) ∧ TreeAt w' g l1 ∧ W.grownBy w' (some g)) := fun W g h hgw hT => by
    have := tput_any (HG.out.below h hsz) hT (Nat.le_trans hsz hgw) (by simp) hal hs1
    rw [e1] at this
    exact this.mono fun e w' ⟨h1, h2⟩ => ⟨⟨_, h1⟩, h2⟩
  have CP2 : Hid (∀ W g, Below w.heap.size w W → w.heap.size ≤ g → TreeAt W g l1 → Calls Tryd.prog 26 #[.pointer (some ⟨g, 0, none⟩), hv (lb x n), hv (sm 2)] W fun e w' => (∃ b, e = .returned (.bool b)) ∧ TreeAt w' g l2 ∧ W.grownBy w' (some g)) := fun W g h hgw hT => by
    have := tput_any (HG.out.below h hsz) hT (Nat.le_trans hsz hgw) (by omega) hbl hs2
    rw [e2] at this
    exact this.mono fun e w' ⟨h1, h2⟩ => ⟨⟨_, h1⟩, h2⟩
  have CR1 : Hid (∀ W g, TreeAt W g l1 → Calls Tryd.prog 17 #[.pointer (some ⟨g, 0, none⟩)] W fun e w' => e = .returned (hv (Tm.root 0 l1)) ∧ Below W.heap.size W w') := fun W g hT => troot_any hT
  have CR2 : Hid (∀ W g, TreeAt W g l2 → Calls Tryd.prog 17 #[.pointer (some ⟨g, 0, none⟩)] W fun e w' => e = .returned (hv (Tm.root 0 l2)) ∧ Below W.heap.size W w') := fun W g hT => troot_any hT
  obtain ⟨P1, hP1⟩ : ∃ P, P = Tm.prove l1 (lb x n) := ⟨_, rfl⟩
  obtain ⟨P2, hP2⟩ : ∃ P, P = Tm.prove l2 (la x) := ⟨_, rfl⟩
  have CV1 : Hid (∀ W g, TreeAt W g l1 → Calls Tryd.prog 21 #[.pointer (some ⟨g, 0, none⟩), hv (lb x n)] W fun e w' => ∃ PP : List Value, e = .returned (.agg PP.toArray) ∧ PrfAt w' W.heap.size (.agg PP.toArray) P1 ∧ (Tryd.prog.info? 38).map (·.size) = some PP.length ∧ (∀ v ∈ PP, v.oneCell' = true) ∧ PP.length = 66 ∧ Below W.heap.size W w') := fun W g hT => by rw [hP1]; exact prove_row hT hbl
  have CV2 : Hid (∀ W g, TreeAt W g l2 → Calls Tryd.prog 21 #[.pointer (some ⟨g, 0, none⟩), hv (la x)] W fun e w' => ∃ (A : Option Addr) (c : Nat) (PP : List Value), e = .returned (.agg PP.toArray) ∧ PrfAt w' W.heap.size (.agg PP.toArray) P2 ∧ (Tryd.prog.info? 38).map (·.size) = some PP.length ∧ (∀ v ∈ PP, v.oneCell' = true) ∧ PP.length = 66 ∧ (∀ W q, Blk W q 38 PP → W.cell? ⟨q, 0, none⟩ = some (.slice A (n + 1) c)) ∧ Below W.heap.size W w') := fun W g hT => by
    have := prove_len hT hal
    rw [hsd] at this
    rw [hP2]
    exact this
  have CA : Hid (∀ W B y, Below w.heap.size w W → PrfAt W B y P1 → Calls Tryd.prog 30 #[hv (Tm.root 0 l1), hv (lb x n), hv (sm 2), y] W fun e w' => e = .returned (.tuple #[hv (Tm.root 0 l2), .bool true]) ∧ Below W.heap.size W w') := fun W B y h hQ => by
    have := pafter_any (HG.out.below h hsz) (show PrfIn W y P1 by rw [hP1] at hQ ⊢; exact prove_in hf1 hQ) hrl1 hbl hs2
    rw [hP1, haf, hh1] at this
    exact this
  have CK : Hid (∀ W B y, Below w.heap.size w W → PrfAt W B y P2 → Calls Tryd.prog 29 #[hv (Tm.root 0 l2), hv (la x), y] W fun e w' => e = .returned (.tuple #[hv (sm 1), .bool true, .bool true]) ∧ Below W.heap.size W w') := fun W B y h hQ => by
    have := pcheck_any (HG.out.below h hsz) (show PrfIn W y P2 by rw [hP2] at hQ ⊢; exact prove_in hf2 hQ) hrl2 hal
    rw [hP2, htd, hth, hh2] at this
    exact this
  have E1 := Lib.hid (hash_eq (sm 1) (sm 1) hs1 hs1)
  have E2 := Lib.hid (hash_eq (Tm.root 0 l2) (Tm.root 0 l2) hrl2 hrl2)
  rw [decide_eq_true rfl] at E1 E2
  unfold hv at CS1 CS2 CP1 CP2 CR1 CR2 CV1 CV2 CA CK
  have HLA : Hid ((la x).map cellOf = List.replicate 32 (cellOf x)) := by unfold Hid la; rw [List.map_replicate]
  have HLB : Hid ((lb x n).map cellOf = ((la x).map cellOf).set (n / 8) (cellOf (x ^^^ sh (n % 8)))) := by unfold Hid lb; rw [List.map_set]
  have IAC := Lib.hid (hash_info (hal))
  have OAC := Lib.hid (cells_u8 (la x))
  have LAC : Hid (Z.length = ((la x).map cellOf).length) := by unfold Hid; rw [List.length_map, hal, HZL.out]
  obtain ⟨AC, hAC⟩ : ∃ L, L = (la x).map cellOf := ⟨_, rfl⟩
  have NAC : Hid (AC.length = 32) := by unfold Hid; rw [hAC, List.length_map, hal]
  rw [← hAC] at IAC OAC LAC CP1 CV2 CK HLA HLB
  have EAC := Lib.hid hAC
  clear hAC
  have IBC := Lib.hid (hash_info (hbl))
  have OBC := Lib.hid (cells_u8 (lb x n))
  have LBC : Hid (Z.length = ((lb x n).map cellOf).length) := by unfold Hid; rw [List.length_map, hbl, HZL.out]
  obtain ⟨BC, hBC⟩ : ∃ L, L = (lb x n).map cellOf := ⟨_, rfl⟩
  have NBC : Hid (BC.length = 32) := by unfold Hid; rw [hBC, List.length_map, hbl]
  rw [← hBC] at IBC OBC LBC CP2 CV1 CA HLB
  have EBC := Lib.hid hBC
  clear hBC
  have IS1 := Lib.hid (hash_info (hs1))
  have OS1 := Lib.hid (cells_u8 (sm 1))
  have LS1 : Hid (Z.length = ((sm 1).map cellOf).length) := by unfold Hid; rw [List.length_map, hs1, HZL.out]
  obtain ⟨S1, hS1⟩ : ∃ L, L = (sm 1).map cellOf := ⟨_, rfl⟩
  have NS1 : Hid (S1.length = 32) := by unfold Hid; rw [hS1, List.length_map, hs1]
  rw [← hS1] at IS1 OS1 LS1 CS1 CP1 CK E1
  have ES1 := Lib.hid hS1
  clear hS1
  have IS2 := Lib.hid (hash_info (hs2))
  have OS2 := Lib.hid (cells_u8 (sm 2))
  have LS2 : Hid (Z.length = ((sm 2).map cellOf).length) := by unfold Hid; rw [List.length_map, hs2, HZL.out]
  obtain ⟨S2, hS2⟩ : ∃ L, L = (sm 2).map cellOf := ⟨_, rfl⟩
  have NS2 : Hid (S2.length = 32) := by unfold Hid; rw [hS2, List.length_map, hs2]
  rw [← hS2] at IS2 OS2 LS2 CS2 CP2 CA
  have ES2 := Lib.hid hS2
  clear hS2
  have IR1 := Lib.hid (hash_info (hrl1))
  have OR1 := Lib.hid (cells_u8 (Tm.root 0 l1))
  have LR1 : Hid (Z.length = ((Tm.root 0 l1).map cellOf).length) := by unfold Hid; rw [List.length_map, hrl1, HZL.out]
  obtain ⟨R1, hR1⟩ : ∃ L, L = (Tm.root 0 l1).map cellOf := ⟨_, rfl⟩
  have NR1 : Hid (R1.length = 32) := by unfold Hid; rw [hR1, List.length_map, hrl1]
  rw [← hR1] at IR1 OR1 LR1 CR1 CA
  have ER1 := Lib.hid hR1
  clear hR1
  have IR2 := Lib.hid (hash_info (hrl2))
  have OR2 := Lib.hid (cells_u8 (Tm.root 0 l2))
  have LR2 : Hid (Z.length = ((Tm.root 0 l2).map cellOf).length) := by unfold Hid; rw [List.length_map, hrl2, HZL.out]
  obtain ⟨R2, hR2⟩ : ∃ L, L = (Tm.root 0 l2).map cellOf := ⟨_, rfl⟩
  have NR2 : Hid (R2.length = 32) := by unfold Hid; rw [hR2, List.length_map, hrl2]
  rw [← hR2] at IR2 OR2 LR2 CR2 CA CK E2
  have ER2 := Lib.hid hR2
  clear hR2
  clear e1 e2 hl1 hl2 hf1 hf2 haf hh1 htd hth hh2 hsd hal hbl hrl1 hrl2 hs1 hs2 hP1 hP2
  obtain ⟨w2, hw2⟩ : ∃ w2, w2 = w1.alloc (.cells (List.replicate 32 (Value.int .u8 0)).toArray 30) := ⟨_, rfl⟩
  obtain ⟨q0, hq0⟩ : ∃ q, q = w1.heap.size := ⟨_, rfl⟩
  have hwq : w.heap.size ≤ q0 := by rw [hq0]; exact W.out.size
  have B0 : Hid (Blk w2 q0 30 (List.replicate 0 (cellOf x) ++ List.replicate (32 - 0) (.int .u8 0))) := by unfold Hid; rw [hw2, hq0]; exact Blk.new w1 30 _
  have W2 : Hid (Below w.heap.size w w2) := by unfold Hid; rw [hw2]; exact W.out.alloc W.out.size _
  go_upto_region 7 with (fail)
  change Code.wp _ _ _ _ (w1.alloc (.cells (List.replicate 32 (Value.int .u8 0)).toArray 30))
  rw [← hw2, ← hq0]
  clear hw2 hq0 W
  have hxl := x.toNat_lt
  go_wp2_with fail
  go_loopw [7, 26] (fun lv iv wr => ∃ m : Nat, m ≤ 32 ∧ iv = .int .i64 (m : Int) ∧ Hid (Blk wr q0 30 (List.replicate m (cellOf x) ++ List.replicate (32 - m) (.int .u8 0))) ∧ Hid (Below w.heap.size w wr)) (fun _ i _ => 32 - (intOf i).toNat)
  case atStart => exact ⟨0, Nat.zero_le _, rfl, B0, W2⟩
  case round =>
    clear B0 W2
    obtain ⟨m, hm, rfl, BA, W⟩ := hrel
    by_cases hm32 : m < 32
    · have f0 : wr.frozen? ⟨q0, m, none⟩ = false := BA.out.frozen m
      have c0 : wr.cell? ⟨q0, m, none⟩ = some (.int .u8 0) := by rw [BA.out.cell, List.getElem?_append_right (by simp), List.length_replicate, Nat.sub_self, List.getElem?_replicate, if_pos (by omega)]
      have HN : Hid (Blk (wr.setCell ⟨q0, m, none⟩ (.int .u8 (x.toNat : Int))) q0 30 (List.replicate (m + 1) (cellOf x) ++ List.replicate (32 - (m + 1)) (.int .u8 0))) := by
        have := BA.out.set_ m (cellOf x)
        rw [List.set_append_right _ _ (by simp), List.length_replicate, Nat.sub_self, show 32 - m = (32 - (m + 1)) + 1 by omega, List.replicate_succ, List.set_cons_zero, show List.replicate m (cellOf x) ++ cellOf x :: List.replicate (32 - (m + 1)) (.int .u8 0) = List.replicate (m + 1) (cellOf x) ++ List.replicate (32 - (m + 1)) (.int .u8 0) by rw [List.replicate_succ', List.append_assoc]; rfl] at this
        exact this
      have hni : ¬ (32 : Int) ≤ (m : Int) := by omega
      clear BA
      go_wp2_with fail
      go_roundw
      case rel => exact ⟨m + 1, by omega, by go_num, HN, W.out.setCell hwq _⟩
      case measure => simp [intOf]; omega
    · obtain rfl : m = 32 := by omega
      have BO : Hid (Blk wr q0 30 AC) := by unfold Hid; rw [HLA.out]; exact BA.out
      clear BA
      have hq0l := BO.out.lt
      go_upto_region 13 with (first
        | (with_reducible refine load_law rfl 30 (.tmp 6) rfl q0 0 rfl AC _ Tryd.underlying30 rfl IAC.out BO.out.cells ?_)
        | ((with_reducible refine storeGen_law rfl 30 (.tmp 8) (.tmp 33) rfl wr.heap.size rfl AC rfl 30 Z IAC.out LAC.out OAC.out wr.heap.size wr ?_ ?_ (Nat.le_refl _) ?_)
           · exact ZB.out wr
           · exact alloc_below wr _
           intro w3 BX hX'; have hX := hX'.out; clear hX'; replace BO := Lib.hid (BO.out.below hX BO.out.lt); replace W := Lib.hid (W.out.trans (hX.mono W.out.size)); clear hX))
      obtain ⟨q1, hq1⟩ : ∃ q, q = wr.heap.size := ⟨_, rfl⟩
      have h01 : q0 < q1 := by rw [hq1]; exact hq0l
      rw [← hq1] at BX ⊢
      clear hq1 hq0l
      have hj32 : n / 8 < 32 := by omega
      have hr8 : n % 8 < 8 := by omega
      have c0 : w3.cell? ⟨q1, n / 8, none⟩ = some (.int .u8 (x.toNat : Int)) := by rw [BX.out.cell, HLA.out, List.getElem?_replicate, if_pos hj32]; rfl
      have f0 : w3.frozen? ⟨q1, n / 8, none⟩ = false := BX.out.frozen (n / 8)
      have hni : ¬ (32 : Int) ≤ (n : Int) / 8 := by omega
      go_upto_region 14 with (fail)
      clear c0 f0 hni
      have hsh : (128 : Int) / 2 ^ (n % 8) = ((sh (n % 8)).toNat : Int) := by
        have := sh_nat ⟨n % 8, hr8⟩
        dsimp only at this
        rw [this]
        simp
      obtain ⟨s1, hs1'⟩ : ∃ z : Int, z = 128 / 2 ^ (n % 8) := ⟨_, rfl⟩
      rw [← hs1']
      obtain ⟨s2, hs2'⟩ : ∃ z : Int, z = bits .xor .u8 (x.toNat : Int) s1 := ⟨_, rfl⟩
      rw [← hs2']
      have BB : Hid (Blk (w3.setCell ⟨q1, n / 8, none⟩ (.int .u8 s2)) q1 30 BC) := by
        have := BX.out.set_ (n / 8) (cellOf (x ^^^ sh (n % 8)))
        rw [← HLB.out] at this
        unfold Hid
        rw [hs2', hs1', hsh, xor_cell]
        exact this
      have hX : Below q1 w3 (w3.setCell ⟨q1, n / 8, none⟩ (.int .u8 s2)) := (Below.refl q1 w3).setCell (p := ⟨q1, n / 8, none⟩) (Nat.le_refl _) _
      have BA : Hid (Blk (w3.setCell ⟨q1, n / 8, none⟩ (.int .u8 s2)) q0 30 AC) := BO.out.below hX h01
      have W' : Hid (Below w.heap.size w (w3.setCell ⟨q1, n / 8, none⟩ (.int .u8 s2))) := W.out.trans (hX.mono (by omega))
      generalize w3.setCell ⟨q1, n / 8, none⟩ (.int .u8 s2) = w4 at *
      clear hX hs1' hs2' hsh BO BX W hj32 hr8 HLA HLB
      have W := Lib.hid W'.out
      clear W'
      go_upto_region 15 with (first
        | (go_at_call 25; refine (tnew_any w4).mono ?_; rintro e w5 ⟨g, rfl, hT, hgw0, hX⟩; have hgw := Nat.le_trans W.out.size hgw0; replace BA := Lib.hid (BA.out.below hX BA.out.lt); replace BB := Lib.hid (BB.out.below hX BB.out.lt); replace W := Lib.hid (W.out.trans (hX.mono W.out.size)); have T := Lib.hid hT; clear hT hX hgw0))
      have hX := (Below.refl w5.heap.size w5).drew
      replace BA := Lib.hid (BA.out.below hX BA.out.lt)
      replace BB := Lib.hid (BB.out.below hX BB.out.lt)
      replace T := Lib.hid (T.out.low hX)
      replace W := Lib.hid (W.out.trans (hX.mono W.out.size))
      clear hX
      refine wp_region_any (by kernel_rfl) ?_
      change wpAny _ _ _ _ _ _ _ (World.drew _)
      generalize w5.drew = wd at *
      refine wpAny_take (i := 0) (oi := ?oi1) (v := .pointer (some ⟨g, 0, none⟩)) ?hi1 (by kernel_rfl) (by kernel_rfl) (by kernel_rfl) ?hQ1 ?hy1 ?rest1
      case hi1 => simp only [zge]; rfl
      case hQ1 => exact fun _ _ _ h => h
      case hy1 => exact Or.inl ⟨by rfl, by intro w; go_simp⟩
      try simp only [zpt]
      refine phaseL (fun i => []) (fun d a w' => ∃ x46 x47 : Value, a = { tmps := #[.int .i64 (n : Int), .int .u8 (x.toNat : Int), undef, undef, .bool false, .bool true, .pointer (some ⟨q0, 0, none⟩), u7, .pointer (some ⟨q1, 0, none⟩), .pointer (some ⟨g, 0, none⟩), undef, undef, undef, undef, undef, undef, undef, .bool true, .bool true, .bool false, .int .i64 (n : Int), .bool false, .bool false, .int .i64 (n : Int), .bool false, .bool false, .int .i64 32, .bool false, u28, u29, u30, u31, u32, .agg AC.toArray, .int .i64 (n : Int), .int .i64 ((n : Int) / 8), .pointer (some ⟨q1, n / 8, none⟩), .int .u8 (x.toNat : Int), .int .i64 (n : Int), .int .i64 ((n : Int) % 8), .int .u64 ((n : Int) % 8), .int .u8 s1, .int .u8 s2, .pointer (some ⟨q1, n / 8, none⟩), .pointer (some ⟨g, 0, none⟩), .pointer (some ⟨g, 0, none⟩), x46, x47, undef, undef, undef, undef, undef, undef, undef, undef, undef, undef, undef, undef, undef, undef, undef, undef, undef, undef, undef, undef, undef, undef, undef, undef, undef, undef, undef, undef, undef, undef, undef, undef, undef, undef, undef, undef, undef, undef, undef, undef, undef, undef, undef, undef, undef, undef, undef, undef, undef, undef, undef, undef, undef, undef, undef], defers := [] } ∧ Hid (Below wd.heap.size wd w') ∧ (d 1 = true → x46 = .agg AC.toArray) ∧ (d 2 = true → x47 = .agg S1.toArray)) [1, 2] ?step2 1 2 [1, 2] _ _ _ rfl (by decide) (fun _ h => h) (Fits.of (by kernel_rfl)) ?init2 ?fin2
      case init2 => refine ⟨_, _, rfl, Below.refl _ _, ?_, ?_⟩ <;> (intro h; exact absurd h (by decide))
      case step2 =>
        intro i hi d a v2 hI hdi hdeps
        obtain ⟨x46, x47, rfl, BW, h1, h2⟩ := hI
        have hsw := BW.out.size
        simp only [List.mem_cons, List.not_mem_nil, or_false] at hi
        rcases hi with rfl | rfl
        · refine wpOp_step (o := ?os3) ?hos3 (fun K hK => ?_)
          case hos3 => simp only [zge]; rfl
          refine step_loadW rfl 30 (.tmp 6) rfl q0 0 rfl AC _ Tryd.underlying30 rfl IAC.out (BA.out.below BW.out BA.out.lt).cells (hK _ _ ?_)
          clear hK K
          try simp only [zpt]
          exact ⟨_, _, rfl, BW, fun _ => rfl, fun a => by first | exact h2 (by simpa using a) | rfl⟩
        · refine wpOp_step (o := ?os4) ?hos4 (fun K hK => ?_)
          case hos4 => simp only [zge]; rfl
          go_simp
          refine (CS1.out v2 ).mono ?_
          rintro e u2 ⟨rfl, hX⟩
          refine hK _ _ ?_
          clear hK K
          try simp only [zpt]
          exact ⟨_, _, rfl, BW.out.trans (hX.mono hsw), fun a => by first | exact h1 (by simpa using a) | rfl, fun _ => rfl⟩
      case fin2 =>
        intro a v2 hI
        obtain ⟨x46, x47, rfl, BW, h1, h2⟩ := hI
        obtain rfl := h1 (by decide)
        obtain rfl := h2 (by decide)
        clear h1 h2
        have hX := BW.out
        replace BA := Lib.hid (BA.out.below hX BA.out.lt)
        replace BB := Lib.hid (BB.out.below hX BB.out.lt)
        replace T := Lib.hid (T.out.low hX)
        replace W := Lib.hid (W.out.trans (hX.mono W.out.size))
        clear hX BW
        try dsimp only
        refine wpAny_ready (rs := [3]) (by kernel_rfl) (by simp) ?_
        refine AllReady.cons (o := ?p5) ?q5 (fun K hK => ?_) AllReady.nil
        case q5 => simp only [zge]; rfl
        go_simp
        refine (CP1.out v2 g W.out hgw T.out).mono ?_
        rintro e w6 ⟨⟨bw6, rfl⟩, hT, hG⟩
        replace BA := Lib.hid (put_keeps T.out BA.out (by decide) hG)
        replace BB := Lib.hid (put_keeps T.out BB.out (by decide) hG)
        replace W : Hid (Below w.heap.size w _) := W.out.grown hG W.out.size (fun q hq => by have h : g = q := Option.some.inj hq; omega)
        replace T := Lib.hid hT
        clear hT hG
        refine hK _ _ ?_
        clear hK K
        try simp only [zpt]
        refine wpAny_done (by kernel_rfl) ?_ _
        go_upto_region 17 with (first
          | (with_reducible refine load_law rfl 30 (.tmp 8) rfl q1 0 rfl BC _ Tryd.underlying30 rfl IBC.out BB.out.cells ?_)
          | (go_at_call 21; refine (CV1.out w6 g T.out).mono ?_; rintro e w7 ⟨Pa, rfl, hPI, hp1, hp2, hp3, hX⟩; replace BA := Lib.hid (BA.out.below hX BA.out.lt); replace BB := Lib.hid (BB.out.below hX BB.out.lt); replace T := Lib.hid (T.out.low hX); replace W := Lib.hid (W.out.trans (hX.mono W.out.size)); clear hX; have PIa := Lib.hid hPI; have IPa := Lib.hid hp1; have OPa := Lib.hid hp2; have LPa : Hid (ZP.length = Pa.length) := HZP.out.trans hp3.symm; clear hPI hp1 hp2 hp3)
          | ((with_reducible refine storeGen_law rfl 38 (.tmp 10) (.tmp 51) rfl w7.heap.size rfl Pa rfl 38 ZP IPa.out LPa.out OPa.out w7.heap.size w7 ?_ ?_ (Nat.le_refl _) ?_)
             · exact ZPB'.out w7
             · exact alloc_below w7 _
             intro w8 BPa hX'; have hX := hX'.out; clear hX'; replace BA := Lib.hid (BA.out.below hX BA.out.lt); replace BB := Lib.hid (BB.out.below hX BB.out.lt); replace T := Lib.hid (T.out.low hX); replace W := Lib.hid (W.out.trans (hX.mono W.out.size)); replace PIa := Lib.hid (PIa.out.below hX); clear hX))
        obtain ⟨q2, hq2⟩ : ∃ q, q = w7.heap.size := ⟨_, rfl⟩
        rw [← hq2] at BPa ⊢
        clear hq2 CV1
        have hX := (Below.refl w8.heap.size w8).drew
        replace BA := Lib.hid (BA.out.below hX BA.out.lt)
        replace BB := Lib.hid (BB.out.below hX BB.out.lt)
        replace T := Lib.hid (T.out.low hX)
        replace BPa := Lib.hid (BPa.out.below hX BPa.out.lt)
        replace PIa := Lib.hid (PIa.out.below hX)
        replace W := Lib.hid (W.out.trans (hX.mono W.out.size))
        clear hX
        refine wp_region_any (by kernel_rfl) ?_
        change wpAny _ _ _ _ _ _ _ (World.drew _)
        generalize w8.drew = we at *
        refine wpAny_take (i := 0) (oi := ?oi6) (v := .pointer (some ⟨g, 0, none⟩)) ?hi6 (by kernel_rfl) (by kernel_rfl) (by kernel_rfl) ?hQ6 ?hy6 ?rest6
        case hi6 => simp only [zge]; rfl
        case hQ6 => exact fun _ _ _ h => h
        case hy6 => exact Or.inl ⟨by rfl, by intro w; go_simp⟩
        try simp only [zpt]
        refine phaseL (fun i => if i = 3 then [1] else if i = 5 then [1, 2, 3, 4] else if i = 6 then [5] else if i = 7 then [6] else if i = 8 then [6] else if i = 10 then [9, 7, 5, 1, 2, 3, 4, 6] else if i = 11 then [8, 10, 1, 2, 3, 4, 5, 6, 7, 9] else []) (fun d a w' => ∃ x54 x55 x56 x57 x58 x52 x59 x60 x11 x12 : Value, a = { tmps := #[.int .i64 (n : Int), .int .u8 (x.toNat : Int), undef, undef, .bool false, .bool true, .pointer (some ⟨q0, 0, none⟩), u7, .pointer (some ⟨q1, 0, none⟩), .pointer (some ⟨g, 0, none⟩), .pointer (some ⟨q2, 0, none⟩), x11, x12, undef, undef, undef, undef, .bool true, .bool true, .bool false, .int .i64 (n : Int), .bool false, .bool false, .int .i64 (n : Int), .bool false, .bool false, .int .i64 32, .bool false, u28, u29, u30, u31, u32, .agg AC.toArray, .int .i64 (n : Int), .int .i64 ((n : Int) / 8), .pointer (some ⟨q1, n / 8, none⟩), .int .u8 (x.toNat : Int), .int .i64 (n : Int), .int .i64 ((n : Int) % 8), .int .u64 ((n : Int) % 8), .int .u8 s1, .int .u8 s2, .pointer (some ⟨q1, n / 8, none⟩), .pointer (some ⟨g, 0, none⟩), .pointer (some ⟨g, 0, none⟩), .agg AC.toArray, .agg S1.toArray, .bool bw6, .pointer (some ⟨g, 0, none⟩), .agg BC.toArray, .agg Pa.toArray, x52, .pointer (some ⟨g, 0, none⟩), x54, x55, x56, x57, x58, x59, x60, undef, undef, undef, undef, undef, undef, undef, undef, undef, undef, undef, undef, undef, undef, undef, undef, undef, undef, undef, undef, undef, undef, undef, undef, undef, undef, undef, undef, undef, undef, undef, undef, undef, undef, undef, undef, undef, undef, undef, undef, undef, undef], defers := [] } ∧ Hid (Below we.heap.size we w') ∧ (d 1 = true → x54 = .agg R1.toArray) ∧ (d 2 = true → x55 = .agg BC.toArray) ∧ (d 3 = true → x56 = .agg S2.toArray) ∧ (d 4 = true → x57 = .agg Pa.toArray) ∧ (d 5 = true → x58 = .tuple #[.agg R2.toArray, .bool true]) ∧ (d 6 = true → x52 = .tuple #[.agg R2.toArray, .bool true]) ∧ (d 7 = true → x59 = .agg R2.toArray) ∧ (d 8 = true → x60 = .bool true) ∧ (d 9 = true → Hid (AtN w' we.heap.size x11 30 32)) ∧ (d 10 = true → (d 9 = true ∧ Hid (At w' we.heap.size x11 30 R2))) ∧ (d 11 = true → x12 = .bool true)) [1, 2, 3, 4, 5, 6, 7, 8, 9, 10, 11] ?step7 0 11 [1, 2, 3, 4, 5, 6, 7, 8, 9, 10, 11] _ _ _ rfl (by decide) (fun _ h => h) (Fits.of (by kernel_rfl)) ?init7 ?fin7
        case init7 => refine ⟨_, _, _, _, _, _, _, _, _, _, rfl, Below.refl _ _, ?_, ?_, ?_, ?_, ?_, ?_, ?_, ?_, ?_, ?_, ?_⟩ <;> (intro h; exact absurd h (by decide))
        case step7 =>
          intro i hi d a v7 hI hdi hdeps
          obtain ⟨x54, x55, x56, x57, x58, x52, x59, x60, x11, x12, rfl, BW, h1, h2, h3, h4, h5, h6, h7, h8, h9, h10, h11⟩ := hI
          have hsw := BW.out.size
          simp only [List.mem_cons, List.not_mem_nil, or_false] at hi
          rcases hi with rfl | rfl | rfl | rfl | rfl | rfl | rfl | rfl | rfl | rfl | rfl
          · refine wpOp_step (o := ?os8) ?hos8 (fun K hK => ?_)
            case hos8 => simp only [zge]; rfl
            go_simp
            refine (CR1.out v7 g (T.out.low BW.out)).mono ?_
            rintro e u7 ⟨rfl, hX⟩
            refine hK _ _ ?_
            clear hK K
            try simp only [zpt]
            exact ⟨_, _, _, _, _, _, _, _, _, _, rfl, BW.out.trans (hX.mono hsw), fun _ => rfl, fun a => by first | exact h2 (by simpa using a) | rfl, fun a => by first | exact h3 (by simpa using a) | rfl, fun a => by first | exact h4 (by simpa using a) | rfl, fun a => by first | exact h5 (by simpa using a) | rfl, fun a => by first | exact h6 (by simpa using a) | rfl, fun a => by first | exact h7 (by simpa using a) | rfl, fun a => by first | exact h8 (by simpa using a) | rfl, fun a => (h9 (by simpa using a)).out.below hX, fun a => ⟨by simp [(h10 (by simpa using a)).1], (h10 (by simpa using a)).2.out.below hX⟩, fun a => by first | exact h11 (by simpa using a) | rfl⟩
          · refine wpOp_step (o := ?os9) ?hos9 (fun K hK => ?_)
            case hos9 => simp only [zge]; rfl
            refine step_loadW rfl 30 (.tmp 8) rfl q1 0 rfl BC _ Tryd.underlying30 rfl IBC.out (BB.out.below BW.out BB.out.lt).cells (hK _ _ ?_)
            clear hK K
            try simp only [zpt]
            exact ⟨_, _, _, _, _, _, _, _, _, _, rfl, BW, fun a => by first | exact h1 (by simpa using a) | rfl, fun _ => rfl, fun a => by first | exact h3 (by simpa using a) | rfl, fun a => by first | exact h4 (by simpa using a) | rfl, fun a => by first | exact h5 (by simpa using a) | rfl, fun a => by first | exact h6 (by simpa using a) | rfl, fun a => by first | exact h7 (by simpa using a) | rfl, fun a => by first | exact h8 (by simpa using a) | rfl, fun a => h9 (by simpa using a), fun a => ⟨by simp [(h10 (by simpa using a)).1], (h10 (by simpa using a)).2⟩, fun a => by first | exact h11 (by simpa using a) | rfl⟩
          · refine wpOp_step (o := ?os10) ?hos10 (fun K hK => ?_)
            case hos10 => simp only [zge]; rfl
            go_simp
            refine (CS2.out v7 ).mono ?_
            rintro e u7 ⟨rfl, hX⟩
            refine hK _ _ ?_
            clear hK K
            try simp only [zpt]
            exact ⟨_, _, _, _, _, _, _, _, _, _, rfl, BW.out.trans (hX.mono hsw), fun a => by first | exact h1 (by simpa using a) | rfl, fun a => by first | exact h2 (by simpa using a) | rfl, fun _ => rfl, fun a => by first | exact h4 (by simpa using a) | rfl, fun a => by first | exact h5 (by simpa using a) | rfl, fun a => by first | exact h6 (by simpa using a) | rfl, fun a => by first | exact h7 (by simpa using a) | rfl, fun a => by first | exact h8 (by simpa using a) | rfl, fun a => (h9 (by simpa using a)).out.below hX, fun a => ⟨by simp [(h10 (by simpa using a)).1], (h10 (by simpa using a)).2.out.below hX⟩, fun a => by first | exact h11 (by simpa using a) | rfl⟩
          · refine wpOp_step (o := ?os11) ?hos11 (fun K hK => ?_)
            case hos11 => simp only [zge]; rfl
            refine step_loadW rfl 38 (.tmp 10) rfl q2 0 rfl Pa _ Tryd.underlying38 rfl IPa.out (BPa.out.below BW.out BPa.out.lt).cells (hK _ _ ?_)
            clear hK K
            try simp only [zpt]
            exact ⟨_, _, _, _, _, _, _, _, _, _, rfl, BW, fun a => by first | exact h1 (by simpa using a) | rfl, fun a => by first | exact h2 (by simpa using a) | rfl, fun a => by first | exact h3 (by simpa using a) | rfl, fun _ => rfl, fun a => by first | exact h5 (by simpa using a) | rfl, fun a => by first | exact h6 (by simpa using a) | rfl, fun a => by first | exact h7 (by simpa using a) | rfl, fun a => by first | exact h8 (by simpa using a) | rfl, fun a => h9 (by simpa using a), fun a => ⟨by simp [(h10 (by simpa using a)).1], (h10 (by simpa using a)).2⟩, fun a => by first | exact h11 (by simpa using a) | rfl⟩
          · obtain rfl := h1 (hdeps 1 (by simp))
            obtain rfl := h2 (hdeps 2 (by simp))
            obtain rfl := h3 (hdeps 3 (by simp))
            obtain rfl := h4 (hdeps 4 (by simp))
            refine wpOp_step (o := ?os12) ?hos12 (fun K hK => ?_)
            case hos12 => simp only [zge]; rfl
            go_simp
            refine (CA.out v7 _ _ (W.out.trans (BW.out.mono W.out.size)) (PIa.out.below BW.out)).mono ?_
            rintro e u7 ⟨rfl, hX⟩
            refine hK _ _ ?_
            clear hK K
            try simp only [zpt]
            exact ⟨_, _, _, _, _, _, _, _, _, _, rfl, BW.out.trans (hX.mono hsw), fun a => by first | exact h1 (by simpa using a) | rfl, fun a => by first | exact h2 (by simpa using a) | rfl, fun a => by first | exact h3 (by simpa using a) | rfl, fun a => by first | exact h4 (by simpa using a) | rfl, fun _ => rfl, fun a => by first | exact h6 (by simpa using a) | rfl, fun a => by first | exact h7 (by simpa using a) | rfl, fun a => by first | exact h8 (by simpa using a) | rfl, fun a => (h9 (by simpa using a)).out.below hX, fun a => ⟨by simp [(h10 (by simpa using a)).1], (h10 (by simpa using a)).2.out.below hX⟩, fun a => by first | exact h11 (by simpa using a) | rfl⟩
          · obtain rfl := h5 (hdeps 5 (by simp))
            refine wpOp_step (o := ?os13) ?hos13 (fun K hK => ?_)
            case hos13 => simp only [zge]; rfl
            go_simp
            refine hK _ _ ?_
            clear hK K
            try simp only [zpt]
            exact ⟨_, _, _, _, _, _, _, _, _, _, rfl, BW, fun a => by first | exact h1 (by simpa using a) | rfl, fun a => by first | exact h2 (by simpa using a) | rfl, fun a => by first | exact h3 (by simpa using a) | rfl, fun a => by first | exact h4 (by simpa using a) | rfl, fun a => by first | exact h5 (by simpa using a) | rfl, fun _ => rfl, fun a => by first | exact h7 (by simpa using a) | rfl, fun a => by first | exact h8 (by simpa using a) | rfl, fun a => h9 (by simpa using a), fun a => ⟨by simp [(h10 (by simpa using a)).1], (h10 (by simpa using a)).2⟩, fun a => by first | exact h11 (by simpa using a) | rfl⟩
          · obtain rfl := h6 (hdeps 6 (by simp))
            refine wpOp_step (o := ?os14) ?hos14 (fun K hK => ?_)
            case hos14 => simp only [zge]; rfl
            go_simp
            refine hK _ _ ?_
            clear hK K
            try simp only [zpt]
            exact ⟨_, _, _, _, _, _, _, _, _, _, rfl, BW, fun a => by first | exact h1 (by simpa using a) | rfl, fun a => by first | exact h2 (by simpa using a) | rfl, fun a => by first | exact h3 (by simpa using a) | rfl, fun a => by first | exact h4 (by simpa using a) | rfl, fun a => by first | exact h5 (by simpa using a) | rfl, fun a => by first | exact h6 (by simpa using a) | rfl, fun _ => rfl, fun a => by first | exact h8 (by simpa using a) | rfl, fun a => h9 (by simpa using a), fun a => ⟨by simp [(h10 (by simpa using a)).1], (h10 (by simpa using a)).2⟩, fun a => by first | exact h11 (by simpa using a) | rfl⟩
          · obtain rfl := h6 (hdeps 6 (by simp))
            refine wpOp_step (o := ?os15) ?hos15 (fun K hK => ?_)
            case hos15 => simp only [zge]; rfl
            go_simp
            refine hK _ _ ?_
            clear hK K
            try simp only [zpt]
            exact ⟨_, _, _, _, _, _, _, _, _, _, rfl, BW, fun a => by first | exact h1 (by simpa using a) | rfl, fun a => by first | exact h2 (by simpa using a) | rfl, fun a => by first | exact h3 (by simpa using a) | rfl, fun a => by first | exact h4 (by simpa using a) | rfl, fun a => by first | exact h5 (by simpa using a) | rfl, fun a => by first | exact h6 (by simpa using a) | rfl, fun a => by first | exact h7 (by simpa using a) | rfl, fun _ => rfl, fun a => h9 (by simpa using a), fun a => ⟨by simp [(h10 (by simpa using a)).1], (h10 (by simpa using a)).2⟩, fun a => by first | exact h11 (by simpa using a) | rfl⟩
          · have hX := alloc_below v7 (.cells (List.replicate 32 (Value.int .u8 0)).toArray 30)
            refine wpOp_step (o := ?os16) ?hos16 (fun K hK => ?_)
            case hos16 => simp only [zge]; rfl
            go_simp
            refine hK _ _ ?_
            clear hK K
            try simp only [zpt]
            exact ⟨_, _, _, _, _, _, _, _, _, _, rfl, BW.out.trans (hX.mono hsw), fun a => by first | exact h1 (by simpa using a) | rfl, fun a => by first | exact h2 (by simpa using a) | rfl, fun a => by first | exact h3 (by simpa using a) | rfl, fun a => by first | exact h4 (by simpa using a) | rfl, fun a => by first | exact h5 (by simpa using a) | rfl, fun a => by first | exact h6 (by simpa using a) | rfl, fun a => by first | exact h7 (by simpa using a) | rfl, fun a => by first | exact h8 (by simpa using a) | rfl, fun _ => (At.new _ _ _ hsw).n rfl, fun a => absurd (h10 (by simpa using a)).1 (by simp [hdi]), fun a => by first | exact h11 (by simpa using a) | rfl⟩
          · obtain rfl := h7 (hdeps 7 (by simp))
            obtain ⟨qn, hqe, hqB, cs, hQ, hQl⟩ := (h9 (hdeps 9 (by simp))).out
            obtain rfl := hqe
            refine wpOp_step (o := ?os17) ?hos17 (fun K hK => ?_)
            case hos17 => simp only [zge]; rfl
            refine step_storeAll rfl 30 (.tmp 11) (.tmp 59) rfl qn rfl R2 rfl 30 cs hQ IR2.out (hQl.trans NR2.out.symm) OR2.out (hK _ _ ?_)
            clear hK K
            have hS : At (v7.setRow qn R2.toArray) we.heap.size (.pointer (some ⟨qn, 0, none⟩)) 30 R2 := ⟨qn, rfl, hqB, hQ.row⟩
            have hN := hS.n NR2.out
            try simp only [zpt]
            exact ⟨_, _, _, _, _, _, _, _, _, _, rfl, below_setRow BW.out hqB _, fun a => by first | exact h1 (by simpa using a) | rfl, fun a => by first | exact h2 (by simpa using a) | rfl, fun a => by first | exact h3 (by simpa using a) | rfl, fun a => by first | exact h4 (by simpa using a) | rfl, fun a => by first | exact h5 (by simpa using a) | rfl, fun a => by first | exact h6 (by simpa using a) | rfl, fun a => by first | exact h7 (by simpa using a) | rfl, fun a => by first | exact h8 (by simpa using a) | rfl, fun a => hN, fun _ => ⟨by simp [hdeps 9 (by simp)], hS⟩, fun a => by first | exact h11 (by simpa using a) | rfl⟩
          · obtain rfl := h8 (hdeps 8 (by simp))
            refine wpOp_step (o := ?os18) ?hos18 (fun K hK => ?_)
            case hos18 => simp only [zge]; rfl
            go_simp
            refine hK _ _ ?_
            clear hK K
            try simp only [zpt]
            exact ⟨_, _, _, _, _, _, _, _, _, _, rfl, BW, fun a => by first | exact h1 (by simpa using a) | rfl, fun a => by first | exact h2 (by simpa using a) | rfl, fun a => by first | exact h3 (by simpa using a) | rfl, fun a => by first | exact h4 (by simpa using a) | rfl, fun a => by first | exact h5 (by simpa using a) | rfl, fun a => by first | exact h6 (by simpa using a) | rfl, fun a => by first | exact h7 (by simpa using a) | rfl, fun a => by first | exact h8 (by simpa using a) | rfl, fun a => h9 (by simpa using a), fun a => ⟨by simp [(h10 (by simpa using a)).1], (h10 (by simpa using a)).2⟩, fun _ => rfl⟩
        case fin7 =>
          intro a v7 hI
          obtain ⟨x54, x55, x56, x57, x58, x52, x59, x60, x11, x12, rfl, BW, h1, h2, h3, h4, h5, h6, h7, h8, h9, h10, h11⟩ := hI
          obtain rfl := h1 (by decide)
          obtain rfl := h2 (by decide)
          obtain rfl := h3 (by decide)
          obtain rfl := h4 (by decide)
          obtain rfl := h5 (by decide)
          obtain rfl := h6 (by decide)
          obtain rfl := h7 (by decide)
          obtain rfl := h8 (by decide)
          obtain rfl := h11 (by decide)
          clear h1 h2 h3 h4 h5 h6 h7 h8 h11
          obtain ⟨q3, rfl, hq3, hQ⟩ := (h10 (by decide)).2.out
          have BR := Lib.hid hQ
          have hX := BW.out
          replace BA := Lib.hid (BA.out.below hX BA.out.lt)
          replace BB := Lib.hid (BB.out.below hX BB.out.lt)
          replace T := Lib.hid (T.out.low hX)
          replace BPa := Lib.hid (BPa.out.below hX BPa.out.lt)
          replace PIa := Lib.hid (PIa.out.below hX)
          replace W := Lib.hid (W.out.trans (hX.mono W.out.size))
          clear hX BW hQ h9 h10 
          try dsimp only
          refine wpAny_done (by kernel_rfl) ?_ _
          clear PIa BPa CA CR1
          go_upto_region 18 with (fail)
          have hX := (Below.refl v7.heap.size v7).drew
          replace BA := Lib.hid (BA.out.below hX BA.out.lt)
          replace BB := Lib.hid (BB.out.below hX BB.out.lt)
          replace T := Lib.hid (T.out.low hX)
          replace BR := Lib.hid (BR.out.below hX BR.out.lt)
          replace W := Lib.hid (W.out.trans (hX.mono W.out.size))
          clear hX
          refine wp_region_any (by kernel_rfl) ?_
          change wpAny _ _ _ _ _ _ _ (World.drew _)
          generalize v7.drew = wf at *
          refine wpAny_take (i := 0) (oi := ?oi19) (v := .pointer (some ⟨g, 0, none⟩)) ?hi19 (by kernel_rfl) (by kernel_rfl) (by kernel_rfl) ?hQ19 ?hy19 ?rest19
          case hi19 => simp only [zge]; rfl
          case hQ19 => exact fun _ _ _ h => h
          case hy19 => exact Or.inl ⟨by rfl, by intro w; go_simp⟩
          try simp only [zpt]
          refine phaseL (fun i => []) (fun d a w' => ∃ x62 x63 : Value, a = { tmps := #[.int .i64 (n : Int), .int .u8 (x.toNat : Int), undef, undef, .bool false, .bool true, .pointer (some ⟨q0, 0, none⟩), u7, .pointer (some ⟨q1, 0, none⟩), .pointer (some ⟨g, 0, none⟩), .pointer (some ⟨q2, 0, none⟩), .pointer (some ⟨q3, 0, none⟩), .bool true, undef, undef, undef, undef, .bool true, .bool true, .bool false, .int .i64 (n : Int), .bool false, .bool false, .int .i64 (n : Int), .bool false, .bool false, .int .i64 32, .bool false, u28, u29, u30, u31, u32, .agg AC.toArray, .int .i64 (n : Int), .int .i64 ((n : Int) / 8), .pointer (some ⟨q1, n / 8, none⟩), .int .u8 (x.toNat : Int), .int .i64 (n : Int), .int .i64 ((n : Int) % 8), .int .u64 ((n : Int) % 8), .int .u8 s1, .int .u8 s2, .pointer (some ⟨q1, n / 8, none⟩), .pointer (some ⟨g, 0, none⟩), .pointer (some ⟨g, 0, none⟩), .agg AC.toArray, .agg S1.toArray, .bool bw6, .pointer (some ⟨g, 0, none⟩), .agg BC.toArray, .agg Pa.toArray, .tuple #[.agg R2.toArray, .bool true], .pointer (some ⟨g, 0, none⟩), .agg R1.toArray, .agg BC.toArray, .agg S2.toArray, .agg Pa.toArray, .tuple #[.agg R2.toArray, .bool true], .agg R2.toArray, .bool true, .pointer (some ⟨g, 0, none⟩), x62, x63, undef, undef, undef, undef, undef, undef, undef, undef, undef, undef, undef, undef, undef, undef, undef, undef, undef, undef, undef, undef, undef, undef, undef, undef, undef, undef, undef, undef, undef, undef, undef, undef, undef, undef, undef, undef, undef, undef, undef], defers := [] } ∧ Hid (Below wf.heap.size wf w') ∧ (d 1 = true → x62 = .agg BC.toArray) ∧ (d 2 = true → x63 = .agg S2.toArray)) [1, 2] ?step20 1 2 [1, 2] _ _ _ rfl (by decide) (fun _ h => h) (Fits.of (by kernel_rfl)) ?init20 ?fin20
          case init20 => refine ⟨_, _, rfl, Below.refl _ _, ?_, ?_⟩ <;> (intro h; exact absurd h (by decide))
          case step20 =>
            intro i hi d a v20 hI hdi hdeps
            obtain ⟨x62, x63, rfl, BW, h1, h2⟩ := hI
            have hsw := BW.out.size
            simp only [List.mem_cons, List.not_mem_nil, or_false] at hi
            rcases hi with rfl | rfl
            · refine wpOp_step (o := ?os21) ?hos21 (fun K hK => ?_)
              case hos21 => simp only [zge]; rfl
              refine step_loadW rfl 30 (.tmp 8) rfl q1 0 rfl BC _ Tryd.underlying30 rfl IBC.out (BB.out.below BW.out BB.out.lt).cells (hK _ _ ?_)
              clear hK K
              try simp only [zpt]
              exact ⟨_, _, rfl, BW, fun _ => rfl, fun a => by first | exact h2 (by simpa using a) | rfl⟩
            · refine wpOp_step (o := ?os22) ?hos22 (fun K hK => ?_)
              case hos22 => simp only [zge]; rfl
              go_simp
              refine (CS2.out v20 ).mono ?_
              rintro e u20 ⟨rfl, hX⟩
              refine hK _ _ ?_
              clear hK K
              try simp only [zpt]
              exact ⟨_, _, rfl, BW.out.trans (hX.mono hsw), fun a => by first | exact h1 (by simpa using a) | rfl, fun _ => rfl⟩
          case fin20 =>
            intro a v20 hI
            obtain ⟨x62, x63, rfl, BW, h1, h2⟩ := hI
            obtain rfl := h1 (by decide)
            obtain rfl := h2 (by decide)
            clear h1 h2
            have hX := BW.out
            replace BA := Lib.hid (BA.out.below hX BA.out.lt)
            replace BB := Lib.hid (BB.out.below hX BB.out.lt)
            replace T := Lib.hid (T.out.low hX)
            replace BR := Lib.hid (BR.out.below hX BR.out.lt)
            replace W := Lib.hid (W.out.trans (hX.mono W.out.size))
            clear hX BW
            try dsimp only
            refine wpAny_ready (rs := [3]) (by kernel_rfl) (by simp) ?_
            refine AllReady.cons (o := ?p23) ?q23 (fun K hK => ?_) AllReady.nil
            case q23 => simp only [zge]; rfl
            go_simp
            refine (CP2.out v20 g W.out hgw T.out).mono ?_
            rintro e w9 ⟨⟨bw9, rfl⟩, hT, hG⟩
            replace BA := Lib.hid (put_keeps T.out BA.out (by decide) hG)
            replace BB := Lib.hid (put_keeps T.out BB.out (by decide) hG)
            replace BR := Lib.hid (put_keeps T.out BR.out (by decide) hG)
            replace W : Hid (Below w.heap.size w _) := W.out.grown hG W.out.size (fun q hq => by have h : g = q := Option.some.inj hq; omega)
            replace T := Lib.hid hT
            clear hT hG
            refine hK _ _ ?_
            clear hK K
            try simp only [zpt]
            refine wpAny_done (by kernel_rfl) ?_ _
            go_upto_region 20 with (first
              | (with_reducible refine load_law rfl 30 (.tmp 6) rfl q0 0 rfl AC _ Tryd.underlying30 rfl IAC.out BA.out.cells ?_)
              | (go_at_call 21; refine (CV2.out w9 g T.out).mono ?_; rintro e wa ⟨A2, c2, Pb, rfl, hPI, hp1, hp2, hp3, hL0, hX⟩; replace BA := Lib.hid (BA.out.below hX BA.out.lt); replace BB := Lib.hid (BB.out.below hX BB.out.lt); replace T := Lib.hid (T.out.low hX); replace BR := Lib.hid (BR.out.below hX BR.out.lt); replace W := Lib.hid (W.out.trans (hX.mono W.out.size)); clear hX; have PIb := Lib.hid hPI; have IPb := Lib.hid hp1; have OPb := Lib.hid hp2; have LPb : Hid (ZP.length = Pb.length) := HZP.out.trans hp3.symm; clear hPI hp1 hp2 hp3; have L0 := Lib.hid hL0; clear hL0)
              | ((with_reducible refine storeGen_law rfl 38 (.tmp 13) (.tmp 67) rfl wa.heap.size rfl Pb rfl 38 ZP IPb.out LPb.out OPb.out wa.heap.size wa ?_ ?_ (Nat.le_refl _) ?_)
                 · exact ZPB'.out wa
                 · exact alloc_below wa _
                 intro wb BPb hX'; have hX := hX'.out; clear hX'; replace BA := Lib.hid (BA.out.below hX BA.out.lt); replace BB := Lib.hid (BB.out.below hX BB.out.lt); replace T := Lib.hid (T.out.low hX); replace BR := Lib.hid (BR.out.below hX BR.out.lt); replace W := Lib.hid (W.out.trans (hX.mono W.out.size)); replace PIb := Lib.hid (PIb.out.below hX); clear hX))
            obtain ⟨q4, hq4⟩ : ∃ q, q = wa.heap.size := ⟨_, rfl⟩
            rw [← hq4] at BPb ⊢
            clear hq4 CV2
            have hX := (Below.refl wb.heap.size wb).drew
            replace BA := Lib.hid (BA.out.below hX BA.out.lt)
            replace BB := Lib.hid (BB.out.below hX BB.out.lt)
            replace T := Lib.hid (T.out.low hX)
            replace BR := Lib.hid (BR.out.below hX BR.out.lt)
            replace BPb := Lib.hid (BPb.out.below hX BPb.out.lt)
            replace PIb := Lib.hid (PIb.out.below hX)
            replace W := Lib.hid (W.out.trans (hX.mono W.out.size))
            clear hX
            refine wp_region_any (by kernel_rfl) ?_
            change wpAny _ _ _ _ _ _ _ (World.drew _)
            generalize wb.drew = wg at *
            refine wpAny_take (i := 0) (oi := ?oi24) (v := .pointer (some ⟨g, 0, none⟩)) ?hi24 (by kernel_rfl) (by kernel_rfl) (by kernel_rfl) ?hQ24 ?hy24 ?rest24
            case hi24 => simp only [zge]; rfl
            case hQ24 => exact fun _ _ _ h => h
            case hy24 => exact Or.inl ⟨by rfl, by intro w; go_simp⟩
            try simp only [zpt]
            refine phaseL (fun i => if i = 4 then [1, 2, 3] else if i = 5 then [4] else if i = 6 then [5] else if i = 7 then [5] else if i = 8 then [5] else if i = 10 then [9, 6, 4, 1, 2, 3, 5] else if i = 11 then [7, 10, 1, 2, 3, 4, 5, 6, 9] else if i = 12 then [8, 11, 1, 2, 3, 4, 5, 6, 7, 9, 10] else []) (fun d a w' => ∃ x70 x71 x72 x73 x68 x74 x75 x76 x14 x15 x16 : Value, a = { tmps := #[.int .i64 (n : Int), .int .u8 (x.toNat : Int), undef, undef, .bool false, .bool true, .pointer (some ⟨q0, 0, none⟩), u7, .pointer (some ⟨q1, 0, none⟩), .pointer (some ⟨g, 0, none⟩), .pointer (some ⟨q2, 0, none⟩), .pointer (some ⟨q3, 0, none⟩), .bool true, .pointer (some ⟨q4, 0, none⟩), x14, x15, x16, .bool true, .bool true, .bool false, .int .i64 (n : Int), .bool false, .bool false, .int .i64 (n : Int), .bool false, .bool false, .int .i64 32, .bool false, u28, u29, u30, u31, u32, .agg AC.toArray, .int .i64 (n : Int), .int .i64 ((n : Int) / 8), .pointer (some ⟨q1, n / 8, none⟩), .int .u8 (x.toNat : Int), .int .i64 (n : Int), .int .i64 ((n : Int) % 8), .int .u64 ((n : Int) % 8), .int .u8 s1, .int .u8 s2, .pointer (some ⟨q1, n / 8, none⟩), .pointer (some ⟨g, 0, none⟩), .pointer (some ⟨g, 0, none⟩), .agg AC.toArray, .agg S1.toArray, .bool bw6, .pointer (some ⟨g, 0, none⟩), .agg BC.toArray, .agg Pa.toArray, .tuple #[.agg R2.toArray, .bool true], .pointer (some ⟨g, 0, none⟩), .agg R1.toArray, .agg BC.toArray, .agg S2.toArray, .agg Pa.toArray, .tuple #[.agg R2.toArray, .bool true], .agg R2.toArray, .bool true, .pointer (some ⟨g, 0, none⟩), .agg BC.toArray, .agg S2.toArray, .bool bw9, .pointer (some ⟨g, 0, none⟩), .agg AC.toArray, .agg Pb.toArray, x68, .pointer (some ⟨g, 0, none⟩), x70, x71, x72, x73, x74, x75, x76, undef, undef, undef, undef, undef, undef, undef, undef, undef, undef, undef, undef, undef, undef, undef, undef, undef, undef, undef, undef, undef, undef, undef, undef, undef, undef], defers := [] } ∧ Hid (Below wg.heap.size wg w') ∧ (d 1 = true → x70 = .agg R2.toArray) ∧ (d 2 = true → x71 = .agg AC.toArray) ∧ (d 3 = true → x72 = .agg Pb.toArray) ∧ (d 4 = true → x73 = .tuple #[.agg S1.toArray, .bool true, .bool true]) ∧ (d 5 = true → x68 = .tuple #[.agg S1.toArray, .bool true, .bool true]) ∧ (d 6 = true → x74 = .agg S1.toArray) ∧ (d 7 = true → x75 = .bool true) ∧ (d 8 = true → x76 = .bool true) ∧ (d 9 = true → Hid (AtN w' wg.heap.size x14 30 32)) ∧ (d 10 = true → (d 9 = true ∧ Hid (At w' wg.heap.size x14 30 S1))) ∧ (d 11 = true → x15 = .bool true) ∧ (d 12 = true → x16 = .bool true)) [1, 2, 3, 4, 5, 6, 7, 8, 9, 10, 11, 12] ?step25 0 12 [1, 2, 3, 4, 5, 6, 7, 8, 9, 10, 11, 12] _ _ _ rfl (by decide) (fun _ h => h) (Fits.of (by kernel_rfl)) ?init25 ?fin25
            case init25 => refine ⟨_, _, _, _, _, _, _, _, _, _, _, rfl, Below.refl _ _, ?_, ?_, ?_, ?_, ?_, ?_, ?_, ?_, ?_, ?_, ?_, ?_⟩ <;> (intro h; exact absurd h (by decide))
            case step25 =>
              intro i hi d a v25 hI hdi hdeps
              obtain ⟨x70, x71, x72, x73, x68, x74, x75, x76, x14, x15, x16, rfl, BW, h1, h2, h3, h4, h5, h6, h7, h8, h9, h10, h11, h12⟩ := hI
              have hsw := BW.out.size
              simp only [List.mem_cons, List.not_mem_nil, or_false] at hi
              rcases hi with rfl | rfl | rfl | rfl | rfl | rfl | rfl | rfl | rfl | rfl | rfl | rfl
              · refine wpOp_step (o := ?os26) ?hos26 (fun K hK => ?_)
                case hos26 => simp only [zge]; rfl
                go_simp
                refine (CR2.out v25 g (T.out.low BW.out)).mono ?_
                rintro e u25 ⟨rfl, hX⟩
                refine hK _ _ ?_
                clear hK K
                try simp only [zpt]
                exact ⟨_, _, _, _, _, _, _, _, _, _, _, rfl, BW.out.trans (hX.mono hsw), fun _ => rfl, fun a => by first | exact h2 (by simpa using a) | rfl, fun a => by first | exact h3 (by simpa using a) | rfl, fun a => by first | exact h4 (by simpa using a) | rfl, fun a => by first | exact h5 (by simpa using a) | rfl, fun a => by first | exact h6 (by simpa using a) | rfl, fun a => by first | exact h7 (by simpa using a) | rfl, fun a => by first | exact h8 (by simpa using a) | rfl, fun a => (h9 (by simpa using a)).out.below hX, fun a => ⟨by simp [(h10 (by simpa using a)).1], (h10 (by simpa using a)).2.out.below hX⟩, fun a => by first | exact h11 (by simpa using a) | rfl, fun a => by first | exact h12 (by simpa using a) | rfl⟩
              · refine wpOp_step (o := ?os27) ?hos27 (fun K hK => ?_)
                case hos27 => simp only [zge]; rfl
                refine step_loadW rfl 30 (.tmp 6) rfl q0 0 rfl AC _ Tryd.underlying30 rfl IAC.out (BA.out.below BW.out BA.out.lt).cells (hK _ _ ?_)
                clear hK K
                try simp only [zpt]
                exact ⟨_, _, _, _, _, _, _, _, _, _, _, rfl, BW, fun a => by first | exact h1 (by simpa using a) | rfl, fun _ => rfl, fun a => by first | exact h3 (by simpa using a) | rfl, fun a => by first | exact h4 (by simpa using a) | rfl, fun a => by first | exact h5 (by simpa using a) | rfl, fun a => by first | exact h6 (by simpa using a) | rfl, fun a => by first | exact h7 (by simpa using a) | rfl, fun a => by first | exact h8 (by simpa using a) | rfl, fun a => h9 (by simpa using a), fun a => ⟨by simp [(h10 (by simpa using a)).1], (h10 (by simpa using a)).2⟩, fun a => by first | exact h11 (by simpa using a) | rfl, fun a => by first | exact h12 (by simpa using a) | rfl⟩
              · refine wpOp_step (o := ?os28) ?hos28 (fun K hK => ?_)
                case hos28 => simp only [zge]; rfl
                refine step_loadW rfl 38 (.tmp 13) rfl q4 0 rfl Pb _ Tryd.underlying38 rfl IPb.out (BPb.out.below BW.out BPb.out.lt).cells (hK _ _ ?_)
                clear hK K
                try simp only [zpt]
                exact ⟨_, _, _, _, _, _, _, _, _, _, _, rfl, BW, fun a => by first | exact h1 (by simpa using a) | rfl, fun a => by first | exact h2 (by simpa using a) | rfl, fun _ => rfl, fun a => by first | exact h4 (by simpa using a) | rfl, fun a => by first | exact h5 (by simpa using a) | rfl, fun a => by first | exact h6 (by simpa using a) | rfl, fun a => by first | exact h7 (by simpa using a) | rfl, fun a => by first | exact h8 (by simpa using a) | rfl, fun a => h9 (by simpa using a), fun a => ⟨by simp [(h10 (by simpa using a)).1], (h10 (by simpa using a)).2⟩, fun a => by first | exact h11 (by simpa using a) | rfl, fun a => by first | exact h12 (by simpa using a) | rfl⟩
              · obtain rfl := h1 (hdeps 1 (by simp))
                obtain rfl := h2 (hdeps 2 (by simp))
                obtain rfl := h3 (hdeps 3 (by simp))
                refine wpOp_step (o := ?os29) ?hos29 (fun K hK => ?_)
                case hos29 => simp only [zge]; rfl
                go_simp
                refine (CK.out v25 _ _ (W.out.trans (BW.out.mono W.out.size)) (PIb.out.below BW.out)).mono ?_
                rintro e u25 ⟨rfl, hX⟩
                refine hK _ _ ?_
                clear hK K
                try simp only [zpt]
                exact ⟨_, _, _, _, _, _, _, _, _, _, _, rfl, BW.out.trans (hX.mono hsw), fun a => by first | exact h1 (by simpa using a) | rfl, fun a => by first | exact h2 (by simpa using a) | rfl, fun a => by first | exact h3 (by simpa using a) | rfl, fun _ => rfl, fun a => by first | exact h5 (by simpa using a) | rfl, fun a => by first | exact h6 (by simpa using a) | rfl, fun a => by first | exact h7 (by simpa using a) | rfl, fun a => by first | exact h8 (by simpa using a) | rfl, fun a => (h9 (by simpa using a)).out.below hX, fun a => ⟨by simp [(h10 (by simpa using a)).1], (h10 (by simpa using a)).2.out.below hX⟩, fun a => by first | exact h11 (by simpa using a) | rfl, fun a => by first | exact h12 (by simpa using a) | rfl⟩
              · obtain rfl := h4 (hdeps 4 (by simp))
                refine wpOp_step (o := ?os30) ?hos30 (fun K hK => ?_)
                case hos30 => simp only [zge]; rfl
                go_simp
                refine hK _ _ ?_
                clear hK K
                try simp only [zpt]
                exact ⟨_, _, _, _, _, _, _, _, _, _, _, rfl, BW, fun a => by first | exact h1 (by simpa using a) | rfl, fun a => by first | exact h2 (by simpa using a) | rfl, fun a => by first | exact h3 (by simpa using a) | rfl, fun a => by first | exact h4 (by simpa using a) | rfl, fun _ => rfl, fun a => by first | exact h6 (by simpa using a) | rfl, fun a => by first | exact h7 (by simpa using a) | rfl, fun a => by first | exact h8 (by simpa using a) | rfl, fun a => h9 (by simpa using a), fun a => ⟨by simp [(h10 (by simpa using a)).1], (h10 (by simpa using a)).2⟩, fun a => by first | exact h11 (by simpa using a) | rfl, fun a => by first | exact h12 (by simpa using a) | rfl⟩
              · obtain rfl := h5 (hdeps 5 (by simp))
                refine wpOp_step (o := ?os31) ?hos31 (fun K hK => ?_)
                case hos31 => simp only [zge]; rfl
                go_simp
                refine hK _ _ ?_
                clear hK K
                try simp only [zpt]
                exact ⟨_, _, _, _, _, _, _, _, _, _, _, rfl, BW, fun a => by first | exact h1 (by simpa using a) | rfl, fun a => by first | exact h2 (by simpa using a) | rfl, fun a => by first | exact h3 (by simpa using a) | rfl, fun a => by first | exact h4 (by simpa using a) | rfl, fun a => by first | exact h5 (by simpa using a) | rfl, fun _ => rfl, fun a => by first | exact h7 (by simpa using a) | rfl, fun a => by first | exact h8 (by simpa using a) | rfl, fun a => h9 (by simpa using a), fun a => ⟨by simp [(h10 (by simpa using a)).1], (h10 (by simpa using a)).2⟩, fun a => by first | exact h11 (by simpa using a) | rfl, fun a => by first | exact h12 (by simpa using a) | rfl⟩
              · obtain rfl := h5 (hdeps 5 (by simp))
                refine wpOp_step (o := ?os32) ?hos32 (fun K hK => ?_)
                case hos32 => simp only [zge]; rfl
                go_simp
                refine hK _ _ ?_
                clear hK K
                try simp only [zpt]
                exact ⟨_, _, _, _, _, _, _, _, _, _, _, rfl, BW, fun a => by first | exact h1 (by simpa using a) | rfl, fun a => by first | exact h2 (by simpa using a) | rfl, fun a => by first | exact h3 (by simpa using a) | rfl, fun a => by first | exact h4 (by simpa using a) | rfl, fun a => by first | exact h5 (by simpa using a) | rfl, fun a => by first | exact h6 (by simpa using a) | rfl, fun _ => rfl, fun a => by first | exact h8 (by simpa using a) | rfl, fun a => h9 (by simpa using a), fun a => ⟨by simp [(h10 (by simpa using a)).1], (h10 (by simpa using a)).2⟩, fun a => by first | exact h11 (by simpa using a) | rfl, fun a => by first | exact h12 (by simpa using a) | rfl⟩
              · obtain rfl := h5 (hdeps 5 (by simp))
                refine wpOp_step (o := ?os33) ?hos33 (fun K hK => ?_)
                case hos33 => simp only [zge]; rfl
                go_simp
                refine hK _ _ ?_
                clear hK K
                try simp only [zpt]
                exact ⟨_, _, _, _, _, _, _, _, _, _, _, rfl, BW, fun a => by first | exact h1 (by simpa using a) | rfl, fun a => by first | exact h2 (by simpa using a) | rfl, fun a => by first | exact h3 (by simpa using a) | rfl, fun a => by first | exact h4 (by simpa using a) | rfl, fun a => by first | exact h5 (by simpa using a) | rfl, fun a => by first | exact h6 (by simpa using a) | rfl, fun a => by first | exact h7 (by simpa using a) | rfl, fun _ => rfl, fun a => h9 (by simpa using a), fun a => ⟨by simp [(h10 (by simpa using a)).1], (h10 (by simpa using a)).2⟩, fun a => by first | exact h11 (by simpa using a) | rfl, fun a => by first | exact h12 (by simpa using a) | rfl⟩
              · have hX := alloc_below v25 (.cells (List.replicate 32 (Value.int .u8 0)).toArray 30)
                refine wpOp_step (o := ?os34) ?hos34 (fun K hK => ?_)
                case hos34 => simp only [zge]; rfl
                go_simp
                refine hK _ _ ?_
                clear hK K
                try simp only [zpt]
                exact ⟨_, _, _, _, _, _, _, _, _, _, _, rfl, BW.out.trans (hX.mono hsw), fun a => by first | exact h1 (by simpa using a) | rfl, fun a => by first | exact h2 (by simpa using a) | rfl, fun a => by first | exact h3 (by simpa using a) | rfl, fun a => by first | exact h4 (by simpa using a) | rfl, fun a => by first | exact h5 (by simpa using a) | rfl, fun a => by first | exact h6 (by simpa using a) | rfl, fun a => by first | exact h7 (by simpa using a) | rfl, fun a => by first | exact h8 (by simpa using a) | rfl, fun _ => (At.new _ _ _ hsw).n rfl, fun a => absurd (h10 (by simpa using a)).1 (by simp [hdi]), fun a => by first | exact h11 (by simpa using a) | rfl, fun a => by first | exact h12 (by simpa using a) | rfl⟩
              · obtain rfl := h6 (hdeps 6 (by simp))
                obtain ⟨qn, hqe, hqB, cs, hQ, hQl⟩ := (h9 (hdeps 9 (by simp))).out
                obtain rfl := hqe
                refine wpOp_step (o := ?os35) ?hos35 (fun K hK => ?_)
                case hos35 => simp only [zge]; rfl
                refine step_storeAll rfl 30 (.tmp 14) (.tmp 74) rfl qn rfl S1 rfl 30 cs hQ IS1.out (hQl.trans NS1.out.symm) OS1.out (hK _ _ ?_)
                clear hK K
                have hS : At (v25.setRow qn S1.toArray) wg.heap.size (.pointer (some ⟨qn, 0, none⟩)) 30 S1 := ⟨qn, rfl, hqB, hQ.row⟩
                have hN := hS.n NS1.out
                try simp only [zpt]
                exact ⟨_, _, _, _, _, _, _, _, _, _, _, rfl, below_setRow BW.out hqB _, fun a => by first | exact h1 (by simpa using a) | rfl, fun a => by first | exact h2 (by simpa using a) | rfl, fun a => by first | exact h3 (by simpa using a) | rfl, fun a => by first | exact h4 (by simpa using a) | rfl, fun a => by first | exact h5 (by simpa using a) | rfl, fun a => by first | exact h6 (by simpa using a) | rfl, fun a => by first | exact h7 (by simpa using a) | rfl, fun a => by first | exact h8 (by simpa using a) | rfl, fun a => hN, fun _ => ⟨by simp [hdeps 9 (by simp)], hS⟩, fun a => by first | exact h11 (by simpa using a) | rfl, fun a => by first | exact h12 (by simpa using a) | rfl⟩
              · obtain rfl := h7 (hdeps 7 (by simp))
                refine wpOp_step (o := ?os36) ?hos36 (fun K hK => ?_)
                case hos36 => simp only [zge]; rfl
                go_simp
                refine hK _ _ ?_
                clear hK K
                try simp only [zpt]
                exact ⟨_, _, _, _, _, _, _, _, _, _, _, rfl, BW, fun a => by first | exact h1 (by simpa using a) | rfl, fun a => by first | exact h2 (by simpa using a) | rfl, fun a => by first | exact h3 (by simpa using a) | rfl, fun a => by first | exact h4 (by simpa using a) | rfl, fun a => by first | exact h5 (by simpa using a) | rfl, fun a => by first | exact h6 (by simpa using a) | rfl, fun a => by first | exact h7 (by simpa using a) | rfl, fun a => by first | exact h8 (by simpa using a) | rfl, fun a => h9 (by simpa using a), fun a => ⟨by simp [(h10 (by simpa using a)).1], (h10 (by simpa using a)).2⟩, fun _ => rfl, fun a => by first | exact h12 (by simpa using a) | rfl⟩
              · obtain rfl := h8 (hdeps 8 (by simp))
                refine wpOp_step (o := ?os37) ?hos37 (fun K hK => ?_)
                case hos37 => simp only [zge]; rfl
                go_simp
                refine hK _ _ ?_
                clear hK K
                try simp only [zpt]
                exact ⟨_, _, _, _, _, _, _, _, _, _, _, rfl, BW, fun a => by first | exact h1 (by simpa using a) | rfl, fun a => by first | exact h2 (by simpa using a) | rfl, fun a => by first | exact h3 (by simpa using a) | rfl, fun a => by first | exact h4 (by simpa using a) | rfl, fun a => by first | exact h5 (by simpa using a) | rfl, fun a => by first | exact h6 (by simpa using a) | rfl, fun a => by first | exact h7 (by simpa using a) | rfl, fun a => by first | exact h8 (by simpa using a) | rfl, fun a => h9 (by simpa using a), fun a => ⟨by simp [(h10 (by simpa using a)).1], (h10 (by simpa using a)).2⟩, fun a => by first | exact h11 (by simpa using a) | rfl, fun _ => rfl⟩
            case fin25 =>
              intro a v25 hI
              obtain ⟨x70, x71, x72, x73, x68, x74, x75, x76, x14, x15, x16, rfl, BW, h1, h2, h3, h4, h5, h6, h7, h8, h9, h10, h11, h12⟩ := hI
              obtain rfl := h1 (by decide)
              obtain rfl := h2 (by decide)
              obtain rfl := h3 (by decide)
              obtain rfl := h4 (by decide)
              obtain rfl := h5 (by decide)
              obtain rfl := h6 (by decide)
              obtain rfl := h7 (by decide)
              obtain rfl := h8 (by decide)
              obtain rfl := h11 (by decide)
              obtain rfl := h12 (by decide)
              clear h1 h2 h3 h4 h5 h6 h7 h8 h11 h12
              obtain ⟨q5, rfl, hq5, hQ⟩ := (h10 (by decide)).2.out
              have BS := Lib.hid hQ
              have hX := BW.out
              replace BA := Lib.hid (BA.out.below hX BA.out.lt)
              replace BB := Lib.hid (BB.out.below hX BB.out.lt)
              replace T := Lib.hid (T.out.low hX)
              replace BR := Lib.hid (BR.out.below hX BR.out.lt)
              replace BPb := Lib.hid (BPb.out.below hX BPb.out.lt)
              replace PIb := Lib.hid (PIb.out.below hX)
              replace W := Lib.hid (W.out.trans (hX.mono W.out.size))
              clear hX BW hQ h9 h10 
              try dsimp only
              refine wpAny_done (by kernel_rfl) ?_ _
              clear PIb CK
              obtain ⟨n1, hn1'⟩ : ∃ z, z = n + 1 := ⟨_, rfl⟩
              rw [← hn1'] at L0
              have hni : (n1 : Int) = (n : Int) + 1 := by omega
              have hwn : IntKind.i64.wrap ((n : Int) + 1) = (n : Int) + 1 := by rw [IntKind.wrap_i64]; omega
              clear hn1'
              go_upto_region 21 with (fail)
              have hX := (Below.refl v25.heap.size v25).drew
              replace BA := Lib.hid (BA.out.below hX BA.out.lt)
              replace BB := Lib.hid (BB.out.below hX BB.out.lt)
              replace T := Lib.hid (T.out.low hX)
              replace BR := Lib.hid (BR.out.below hX BR.out.lt)
              replace BPb := Lib.hid (BPb.out.below hX BPb.out.lt)
              replace BS := Lib.hid (BS.out.below hX BS.out.lt)
              replace W := Lib.hid (W.out.trans (hX.mono W.out.size))
              clear hX
              refine wp_region_any (by kernel_rfl) ?_
              change wpAny _ _ _ _ _ _ _ (World.drew _)
              generalize v25.drew = wh at *
              refine wpAny_take (i := 0) (oi := ?oi38) (v := .bool true) ?hi38 (by kernel_rfl) (by kernel_rfl) (by kernel_rfl) ?hQ38 ?hy38 ?rest38
              case hi38 => simp only [zge]; rfl
              case hQ38 => exact fun _ _ _ h => h
              case hy38 => exact Or.inl ⟨by rfl, by intro w; go_simp⟩
              try simp only [zpt]
              refine wpAny_take (i := 1) (oi := ?oi39) (v := .bool true) ?hi39 (by kernel_rfl) (by kernel_rfl) (by kernel_rfl) ?hQ39 ?hy39 ?rest39
              case hi39 => simp only [zge]; rfl
              case hQ39 => exact fun _ _ _ h => h
              case hy39 => exact Or.inl ⟨by rfl, by intro w; go_simp⟩
              try simp only [zpt]
              refine wpAny_take (i := 3) (oi := ?oi40) (v := .pointer (some ⟨g, 0, none⟩)) ?hi40 (by kernel_rfl) (by kernel_rfl) (by kernel_rfl) ?hQ40 ?hy40 ?rest40
              case hi40 => simp only [zge]; rfl
              case hQ40 => exact fun _ _ _ h => h
              case hy40 => exact Or.inl ⟨by rfl, by intro w; go_simp⟩
              try simp only [zpt]
              refine phaseL (fun i => if i = 5 then [2, 4] else []) (fun d a w' => ∃ x79 x81 x82 : Value, a = { tmps := #[.int .i64 (n : Int), .int .u8 (x.toNat : Int), undef, undef, .bool false, .bool true, .pointer (some ⟨q0, 0, none⟩), u7, .pointer (some ⟨q1, 0, none⟩), .pointer (some ⟨g, 0, none⟩), .pointer (some ⟨q2, 0, none⟩), .pointer (some ⟨q3, 0, none⟩), .bool true, .pointer (some ⟨q4, 0, none⟩), .pointer (some ⟨q5, 0, none⟩), .bool true, .bool true, .bool true, .bool true, .bool false, .int .i64 (n : Int), .bool false, .bool false, .int .i64 (n : Int), .bool false, .bool false, .int .i64 32, .bool false, u28, u29, u30, u31, u32, .agg AC.toArray, .int .i64 (n : Int), .int .i64 ((n : Int) / 8), .pointer (some ⟨q1, n / 8, none⟩), .int .u8 (x.toNat : Int), .int .i64 (n : Int), .int .i64 ((n : Int) % 8), .int .u64 ((n : Int) % 8), .int .u8 s1, .int .u8 s2, .pointer (some ⟨q1, n / 8, none⟩), .pointer (some ⟨g, 0, none⟩), .pointer (some ⟨g, 0, none⟩), .agg AC.toArray, .agg S1.toArray, .bool bw6, .pointer (some ⟨g, 0, none⟩), .agg BC.toArray, .agg Pa.toArray, .tuple #[.agg R2.toArray, .bool true], .pointer (some ⟨g, 0, none⟩), .agg R1.toArray, .agg BC.toArray, .agg S2.toArray, .agg Pa.toArray, .tuple #[.agg R2.toArray, .bool true], .agg R2.toArray, .bool true, .pointer (some ⟨g, 0, none⟩), .agg BC.toArray, .agg S2.toArray, .bool bw9, .pointer (some ⟨g, 0, none⟩), .agg AC.toArray, .agg Pb.toArray, .tuple #[.agg S1.toArray, .bool true, .bool true], .pointer (some ⟨g, 0, none⟩), .agg R2.toArray, .agg AC.toArray, .agg Pb.toArray, .tuple #[.agg S1.toArray, .bool true, .bool true], .agg S1.toArray, .bool true, .bool true, .bool true, .bool true, x79, .pointer (some ⟨g, 0, none⟩), x81, x82, undef, undef, undef, undef, undef, undef, undef, undef, undef, undef, undef, undef, undef, undef, undef, undef, undef, undef, undef, undef], defers := [] } ∧ Hid (Below wh.heap.size wh w') ∧ (d 2 = true → x79 = .agg R2.toArray) ∧ (d 4 = true → x81 = .agg R2.toArray) ∧ (d 5 = true → x82 = .bool true)) [2, 4, 5] ?step41 21 3 [2, 4, 5] _ _ _ rfl (by decide) (fun _ h => h) (Fits.of (by kernel_rfl)) ?init41 ?fin41
              case init41 => refine ⟨_, _, _, rfl, Below.refl _ _, ?_, ?_, ?_⟩ <;> (intro h; exact absurd h (by decide))
              case step41 =>
                intro i hi d a v41 hI hdi hdeps
                obtain ⟨x79, x81, x82, rfl, BW, h2, h4, h5⟩ := hI
                have hsw := BW.out.size
                simp only [List.mem_cons, List.not_mem_nil, or_false] at hi
                rcases hi with rfl | rfl | rfl
                · refine wpOp_step (o := ?os42) ?hos42 (fun K hK => ?_)
                  case hos42 => simp only [zge]; rfl
                  refine step_loadW (by kernel_rfl) 30 (.tmp 11) rfl q3 0 rfl R2 _ Tryd.underlying30 rfl IR2.out (BR.out.below BW.out BR.out.lt |>.cells) (hK _ _ ?_)
                  clear hK K
                  try simp only [zpt]
                  exact ⟨_, _, _, rfl, BW, fun _ => rfl, fun a => by first | exact h4 (by simpa using a) | rfl, fun a => by first | exact h5 (by simpa using a) | rfl⟩
                · refine wpOp_step (o := ?os43) ?hos43 (fun K hK => ?_)
                  case hos43 => simp only [zge]; rfl
                  go_simp
                  refine (CR2.out v41 g (T.out.low BW.out)).mono ?_
                  rintro e u41 ⟨rfl, hX⟩
                  refine hK _ _ ?_
                  clear hK K
                  try simp only [zpt]
                  exact ⟨_, _, _, rfl, BW.out.trans (hX.mono hsw), fun a => by first | exact h2 (by simpa using a) | rfl, fun _ => rfl, fun a => by first | exact h5 (by simpa using a) | rfl⟩
                · obtain rfl := h2 (hdeps 2 (by simp))
                  obtain rfl := h4 (hdeps 4 (by simp))
                  have e0 := E2.out
                  refine wpOp_step (o := ?os44) ?hos44 (fun K hK => ?_)
                  case hos44 => simp only [zge]; rfl
                  go_simp
                  refine hK _ _ ?_
                  clear hK K
                  try simp only [zpt]
                  exact ⟨_, _, _, rfl, BW, fun a => by first | exact h2 (by simpa using a) | rfl, fun a => by first | exact h4 (by simpa using a) | rfl, fun _ => rfl⟩
              case fin41 =>
                intro a v41 hI
                obtain ⟨x79, x81, x82, rfl, BW, h2, h4, h5⟩ := hI
                obtain rfl := h2 (by decide)
                obtain rfl := h4 (by decide)
                obtain rfl := h5 (by decide)
                clear h2 h4 h5
                have hX := BW.out
                replace BA := Lib.hid (BA.out.below hX BA.out.lt)
                replace BB := Lib.hid (BB.out.below hX BB.out.lt)
                replace T := Lib.hid (T.out.low hX)
                replace BR := Lib.hid (BR.out.below hX BR.out.lt)
                replace BPb := Lib.hid (BPb.out.below hX BPb.out.lt)
                replace BS := Lib.hid (BS.out.below hX BS.out.lt)
                replace W := Lib.hid (W.out.trans (hX.mono W.out.size))
                clear hX BW
                try dsimp only
                refine wpAny_take (i := 6) (oi := ?oi45) (v := .bool true) ?hi45 (by kernel_rfl) (by kernel_rfl) (by kernel_rfl) ?hQ45 ?hy45 ?rest45
                case hi45 => simp only [zge]; rfl
                case hQ45 => exact fun _ _ _ h => h
                case hy45 => exact Or.inl ⟨by rfl, by intro w; go_simp⟩
                try simp only [zpt]
                refine wpAny_take (i := 7) (oi := ?oi46) (v := .bool true) ?hi46 (by kernel_rfl) (by kernel_rfl) (by kernel_rfl) ?hQ46 ?hy46 ?rest46
                case hi46 => simp only [zge]; rfl
                case hQ46 => exact fun _ _ _ h => h
                case hy46 => exact Or.inl ⟨by rfl, by intro w; go_simp⟩
                try simp only [zpt]
                refine wpAny_take (i := 8) (oi := ?oi47) (v := .pointer (some ⟨q4, 0, none⟩)) ?hi47 (by kernel_rfl) (by kernel_rfl) (by kernel_rfl) ?hQ47 ?hy47 ?rest47
                case hi47 => simp only [zge]; rfl
                case hQ47 => exact fun _ _ _ h => h
                case hy47 => exact Or.inl ⟨by rfl, by intro w; go_simp⟩
                try simp only [zpt]
                refine wpAny_take (i := 11) (oi := ?oi48) (v := .int .i64 (n : Int)) ?hi48 (by kernel_rfl) (by kernel_rfl) (by kernel_rfl) ?hQ48 ?hy48 ?rest48
                case hi48 => simp only [zge]; rfl
                case hQ48 => exact fun _ _ _ h => h
                case hy48 => exact Or.inl ⟨by rfl, by intro w; go_simp⟩
                try simp only [zpt]
                refine wpAny_take (i := 12) (oi := ?oi49) (v := .int .i64 ((n : Int) + 1)) ?hi49 (by kernel_rfl) (by kernel_rfl) (by kernel_rfl) ?hQ49 ?hy49 ?rest49
                case hi49 => simp only [zge]; rfl
                case hQ49 => exact fun _ _ _ h => h
                case hy49 => exact Or.inl ⟨by rfl, by intro w; go_simp⟩
                try simp only [zpt]
                refine wpAny_ready (rs := [9]) (by kernel_rfl) (by simp) ?_
                refine AllReady.cons (o := ?p50) ?q50 (fun K hK => ?_) AllReady.nil
                case q50 => simp only [zge]; rfl
                have c0 := L0.out _ _ BPb.out
                go_simp
                refine hK _ _ ?_
                clear hK K
                try simp only [zpt]
                refine wpAny_take (i := 10) (oi := ?oi51) (v := .int .i64 ((n : Int) + 1)) ?hi51 (by kernel_rfl) (by kernel_rfl) (by kernel_rfl) ?hQ51 ?hy51 ?rest51
                case hi51 => simp only [zge]; rfl
                case hQ51 => exact fun _ _ _ h => h
                case hy51 => exact Or.inl ⟨by rfl, by intro w; go_simp⟩
                try simp only [zpt]
                refine wpAny_take (i := 13) (oi := ?oi52) (v := .bool true) ?hi52 (by kernel_rfl) (by kernel_rfl) (by kernel_rfl) ?hQ52 ?hy52 ?rest52
                case hi52 => simp only [zge]; rfl
                case hQ52 => exact fun _ _ _ h => h
                case hy52 => exact Or.inl ⟨by rfl, by intro w; go_simp⟩
                try simp only [zpt]
                refine wpAny_take (i := 14) (oi := ?oi53) (v := .bool true) ?hi53 (by kernel_rfl) (by kernel_rfl) (by kernel_rfl) ?hQ53 ?hy53 ?rest53
                case hi53 => simp only [zge]; rfl
                case hQ53 => exact fun _ _ _ h => h
                case hy53 => exact Or.inl ⟨by rfl, by intro w; go_simp⟩
                try simp only [zpt]
                refine wpAny_take (i := 15) (oi := ?oi54) (v := .bool true) ?hi54 (by kernel_rfl) (by kernel_rfl) (by kernel_rfl) ?hQ54 ?hy54 ?rest54
                case hi54 => simp only [zge]; rfl
                case hQ54 => exact fun _ _ _ h => h
                case hy54 => exact Or.inl ⟨by rfl, by intro w; go_simp⟩
                try simp only [zpt]
                refine phaseL (fun i => if i = 18 then [16, 17] else []) (fun d a w' => ∃ x93 x94 x95 : Value, a = { tmps := #[.int .i64 (n : Int), .int .u8 (x.toNat : Int), undef, undef, .bool false, .bool true, .pointer (some ⟨q0, 0, none⟩), u7, .pointer (some ⟨q1, 0, none⟩), .pointer (some ⟨g, 0, none⟩), .pointer (some ⟨q2, 0, none⟩), .pointer (some ⟨q3, 0, none⟩), .bool true, .pointer (some ⟨q4, 0, none⟩), .pointer (some ⟨q5, 0, none⟩), .bool true, .bool true, .bool true, .bool true, .bool false, .int .i64 (n : Int), .bool false, .bool false, .int .i64 (n : Int), .bool false, .bool false, .int .i64 32, .bool false, u28, u29, u30, u31, u32, .agg AC.toArray, .int .i64 (n : Int), .int .i64 ((n : Int) / 8), .pointer (some ⟨q1, n / 8, none⟩), .int .u8 (x.toNat : Int), .int .i64 (n : Int), .int .i64 ((n : Int) % 8), .int .u64 ((n : Int) % 8), .int .u8 s1, .int .u8 s2, .pointer (some ⟨q1, n / 8, none⟩), .pointer (some ⟨g, 0, none⟩), .pointer (some ⟨g, 0, none⟩), .agg AC.toArray, .agg S1.toArray, .bool bw6, .pointer (some ⟨g, 0, none⟩), .agg BC.toArray, .agg Pa.toArray, .tuple #[.agg R2.toArray, .bool true], .pointer (some ⟨g, 0, none⟩), .agg R1.toArray, .agg BC.toArray, .agg S2.toArray, .agg Pa.toArray, .tuple #[.agg R2.toArray, .bool true], .agg R2.toArray, .bool true, .pointer (some ⟨g, 0, none⟩), .agg BC.toArray, .agg S2.toArray, .bool bw9, .pointer (some ⟨g, 0, none⟩), .agg AC.toArray, .agg Pb.toArray, .tuple #[.agg S1.toArray, .bool true, .bool true], .pointer (some ⟨g, 0, none⟩), .agg R2.toArray, .agg AC.toArray, .agg Pb.toArray, .tuple #[.agg S1.toArray, .bool true, .bool true], .agg S1.toArray, .bool true, .bool true, .bool true, .bool true, .agg R2.toArray, .pointer (some ⟨g, 0, none⟩), .agg R2.toArray, .bool true, .bool true, .bool true, .pointer (some ⟨q4, 0, none⟩), .slice A2 n1 c2, .int .i64 ((n : Int) + 1), .int .i64 (n : Int), .int .i64 ((n : Int) + 1), .bool true, .bool true, .bool true, x93, x94, x95, undef, undef, undef, undef, undef, undef, undef], defers := [] } ∧ Hid (Below v41.heap.size v41 w') ∧ (d 16 = true → x93 = .agg S1.toArray) ∧ (d 17 = true → x94 = .agg S1.toArray) ∧ (d 18 = true → x95 = .bool true)) [16, 17, 18] ?step55 8 3 [16, 17, 18] _ _ _ rfl (by decide) (fun _ h => h) (Fits.of (by kernel_rfl)) ?init55 ?fin55
                case init55 => refine ⟨_, _, _, rfl, Below.refl _ _, ?_, ?_, ?_⟩ <;> (intro h; exact absurd h (by decide))
                case step55 =>
                  intro i hi d a v55 hI hdi hdeps
                  obtain ⟨x93, x94, x95, rfl, BW, h16, h17, h18⟩ := hI
                  have hsw := BW.out.size
                  simp only [List.mem_cons, List.not_mem_nil, or_false] at hi
                  rcases hi with rfl | rfl | rfl
                  · refine wpOp_step (o := ?os56) ?hos56 (fun K hK => ?_)
                    case hos56 => simp only [zge]; rfl
                    refine step_loadW (by kernel_rfl) 30 (.tmp 14) rfl q5 0 rfl S1 _ Tryd.underlying30 rfl IS1.out (BS.out.below BW.out BS.out.lt |>.cells) (hK _ _ ?_)
                    clear hK K
                    try simp only [zpt]
                    exact ⟨_, _, _, rfl, BW, fun _ => rfl, fun a => by first | exact h17 (by simpa using a) | rfl, fun a => by first | exact h18 (by simpa using a) | rfl⟩
                  · refine wpOp_step (o := ?os57) ?hos57 (fun K hK => ?_)
                    case hos57 => simp only [zge]; rfl
                    go_simp
                    refine (CS1.out v55 ).mono ?_
                    rintro e u55 ⟨rfl, hX⟩
                    refine hK _ _ ?_
                    clear hK K
                    try simp only [zpt]
                    exact ⟨_, _, _, rfl, BW.out.trans (hX.mono hsw), fun a => by first | exact h16 (by simpa using a) | rfl, fun _ => rfl, fun a => by first | exact h18 (by simpa using a) | rfl⟩
                  · obtain rfl := h16 (hdeps 16 (by simp))
                    obtain rfl := h17 (hdeps 17 (by simp))
                    have e0 := E1.out
                    refine wpOp_step (o := ?os58) ?hos58 (fun K hK => ?_)
                    case hos58 => simp only [zge]; rfl
                    go_simp
                    refine hK _ _ ?_
                    clear hK K
                    try simp only [zpt]
                    exact ⟨_, _, _, rfl, BW, fun a => by first | exact h16 (by simpa using a) | rfl, fun a => by first | exact h17 (by simpa using a) | rfl, fun _ => rfl⟩
                case fin55 =>
                  intro a v55 hI
                  obtain ⟨x93, x94, x95, rfl, BW, h16, h17, h18⟩ := hI
                  obtain rfl := h16 (by decide)
                  obtain rfl := h17 (by decide)
                  obtain rfl := h18 (by decide)
                  clear h16 h17 h18
                  have hX := BW.out
                  replace BA := Lib.hid (BA.out.below hX BA.out.lt)
                  replace BB := Lib.hid (BB.out.below hX BB.out.lt)
                  replace T := Lib.hid (T.out.low hX)
                  replace BR := Lib.hid (BR.out.below hX BR.out.lt)
                  replace BPb := Lib.hid (BPb.out.below hX BPb.out.lt)
                  replace BS := Lib.hid (BS.out.below hX BS.out.lt)
                  replace W := Lib.hid (W.out.trans (hX.mono W.out.size))
                  clear hX BW
                  try dsimp only
                  refine wpAny_take (i := 19) (oi := ?oi59) (v := .bool true) ?hi59 (by kernel_rfl) (by kernel_rfl) (by kernel_rfl) ?hQ59 ?hy59 ?rest59
                  case hi59 => simp only [zge]; rfl
                  case hQ59 => exact fun _ _ _ h => h
                  case hy59 => exact Or.inl ⟨by rfl, by intro w; go_simp⟩
                  try simp only [zpt]
                  refine wpAny_take (i := 20) (oi := ?oi60) (v := .bool true) ?hi60 (by kernel_rfl) (by kernel_rfl) (by kernel_rfl) ?hQ60 ?hy60 ?rest60
                  case hi60 => simp only [zge]; rfl
                  case hQ60 => exact fun _ _ _ h => h
                  case hy60 => exact Or.inl ⟨by rfl, by intro w; go_simp⟩
                  try simp only [zpt]
                  refine wpAny_take (i := 21) (oi := ?oi61) (v := .bool true) ?hi61 (by kernel_rfl) (by kernel_rfl) (by kernel_rfl) ?hQ61 ?hy61 ?rest61
                  case hi61 => simp only [zge]; rfl
                  case hQ61 => exact fun _ _ _ h => h
                  case hy61 => exact Or.inl ⟨by rfl, by intro w; go_simp⟩
                  try simp only [zpt]
                  refine wpAny_take (i := 22) (oi := ?oi62) (v := .bool true) ?hi62 (by kernel_rfl) (by kernel_rfl) (by kernel_rfl) ?hQ62 ?hy62 ?rest62
                  case hi62 => simp only [zge]; rfl
                  case hQ62 => exact fun _ _ _ h => h
                  case hy62 => exact Or.inl ⟨by rfl, by intro w; go_simp⟩
                  try simp only [zpt]
                  refine wpAny_take (i := 23) (oi := ?oi63) (v := .bool true) ?hi63 (by kernel_rfl) (by kernel_rfl) (by kernel_rfl) ?hQ63 ?hy63 ?rest63
                  case hi63 => simp only [zge]; rfl
                  case hQ63 => exact fun _ _ _ h => h
                  case hy63 => exact Or.inl ⟨by rfl, by intro w; go_simp⟩
                  try simp only [zpt]
                  refine wpAny_take (i := 24) (oi := ?oi64) (v := .bool true) ?hi64 (by kernel_rfl) (by kernel_rfl) (by kernel_rfl) ?hQ64 ?hy64 ?rest64
                  case hi64 => simp only [zge]; rfl
                  case hQ64 => exact fun _ _ _ h => h
                  case hy64 => exact Or.inl ⟨by rfl, by intro w; go_simp⟩
                  try simp only [zpt]
                  refine wpAny_take (i := 25) (oi := ?oi65) (v := .bool true) ?hi65 (by kernel_rfl) (by kernel_rfl) (by kernel_rfl) ?hQ65 ?hy65 ?rest65
                  case hi65 => simp only [zge]; rfl
                  case hQ65 => exact fun _ _ _ h => h
                  case hy65 => exact Or.inl ⟨by rfl, by intro w; go_simp⟩
                  try simp only [zpt]
                  refine wpAny_take (i := 26) (oi := ?oi66) (v := .bool true) ?hi66 (by kernel_rfl) (by kernel_rfl) (by kernel_rfl) ?hQ66 ?hy66 ?rest66
                  case hi66 => simp only [zge]; rfl
                  case hQ66 => exact fun _ _ _ h => h
                  case hy66 => exact Or.inl ⟨by rfl, by intro w; go_simp⟩
                  try simp only [zpt]
                  refine wpAny_done (by kernel_rfl) ?_ _
                  go_wp2_with fail
                  go_ret
                  exact ⟨rfl, W.out⟩
end Go.Proofs.YtmidbpjdpakkoaaDoor.proofDeep
