import Derived.Test.YtmidbpjdpakkoaaDoorSTup
import Derived.Test.YtmidbpjdpakkoaaDoorSTz
namespace Go.Proofs.YtmidbpjdpakkoaaDoor
set_option linter.unusedVariables false
set_option linter.unusedSimpArgs false
set_option maxRecDepth 100000
open Go.RowKit
theorem load_when {P : Program} {ops : Array Oper} {rest : List Oper} {o : Oper} {a : Act} {w : World} {Q : Exit → Act → World → Prop} (hgd : Region.wanted o (yielded ops a.tmps) = true) (ty : TypeId) (x : Operand) (ho : o.op = .load ty x)
    (b off : Nat) (hx : a.eval x = .pointer (some ⟨b, off, none⟩)) (l : List Value) (d : TypeDesc) (hu : P.underlying ty = some d) (hd : (match d with | .struct _ | .array _ _ => true | _ => false) = true)
    (hi : (P.info? ty).map (·.size) = some l.length) (h : ∀ j v, l[j]? = some v → w.cell? ⟨b, off + j, none⟩ = some v)
    (hk : wpList P ops Q rest (a.put o.dst (.agg l.toArray)) w) : wpList P ops Q (o :: rest) a w :=
  wpList_step fun K hK => step_loadW hgd ty x ho b off hx l d hu hd hi h (hK _ _ hk)
theorem build_when {P : Program} {ops : Array Oper} {rest : List Oper} {o : Oper} {a : Act} {w : World} {Q : Exit → Act → World → Prop} (hgd : Region.wanted o (yielded ops a.tmps) = true) (t : TypeId) (parts : Array (Nat × Operand)) (ho : o.op = .build t parts) (vs : List Value)
    (hb : P.built t (parts.map fun (i, x) => (i, a.eval x)).toList = some vs.toArray) (hk : wpList P ops Q rest (a.put o.dst (.agg vs.toArray)) w) : wpList P ops Q (o :: rest) a w :=
  wpList_step fun K hK => step_build hgd t parts ho vs hb (hK _ _ hk)
structure PrfIn (w : World) (x : Value) (p : Tm.Prf) : Prop where
  at_ : ∃ A n c, x = .agg (proofL (.slice A n c) p.has (p.lab.map cellOf) (p.sum.map cellOf)).toArray ∧ Rd2 w 32 A n c (hashes p.sides) ∧ n ≤ 1000
  lab : p.lab.length = 32
  sum : p.sum.length = 32
  each : ∀ x ∈ p.sides, x.length = 32
theorem PrfIn.below {w w' : World} {x : Value} {p : Tm.Prf} (h : PrfIn w x p) (hb : Below w.heap.size w w') : PrfIn w' x p := by
  obtain ⟨A, n, c, e, h1, h2⟩ := h.at_
  exact ⟨⟨A, n, c, e, h1.below hb, h2⟩, h.lab, h.sum, h.each⟩
theorem proof_lab {w : World} {g : Nat} {v : Value} {has : Bool} {lab sum : List Value} (hb : Blk w g 38 (proofL v has lab sum)) (h1 : lab.length = 32) : ∀ j x, lab[j]? = some x → w.cell? ⟨g, 2 + j, none⟩ = some x := fun j x hx => by
  have hj : j < 32 := by have := (List.getElem?_eq_some_iff.1 hx).1; omega
  rw [hb.cell, proofL, show 2 + j = j + 1 + 1 by omega, List.getElem?_cons_succ, List.getElem?_cons_succ, List.getElem?_append_left (by omega), hx]
theorem proof_sum {w : World} {g : Nat} {v : Value} {has : Bool} {lab sum : List Value} (hb : Blk w g 38 (proofL v has lab sum)) (h1 : lab.length = 32) : ∀ j x, sum[j]? = some x → w.cell? ⟨g, 34 + j, none⟩ = some x := fun j x hx => by
  rw [hb.cell, proofL, show 34 + j = (32 + j) + 1 + 1 by omega, List.getElem?_cons_succ, List.getElem?_cons_succ, List.getElem?_append_right (by omega), h1, Nat.add_sub_cancel_left, hx]
def ChkR (w : World) (a : List UInt8) (b c : Bool) : Ending → World → Prop := fun e w' => e = .returned (.tuple #[hv a, .bool b, .bool c]) ∧ Below w.heap.size w w'
set_option maxRecDepth 100000 in
set_option maxHeartbeats 1000000 in
theorem rchk_many {w : World} {A : Option Addr} {n c : Nat} {sides : List (List UInt8)} (hr : Rd2 w 32 A n c (hashes sides)) (he : ∀ x ∈ sides, x.length = 32) {r0 k lab sum : List UInt8} (hr0 : r0.length = 32) (hk : k.length = 32) (hlab : lab.length = 32) (hsum : sum.length = 32) {has : Bool} (hn : 256 < n) : Calls Tryd.prog 23 #[hv r0, hv k, .agg (proofL (.slice A n c) has (lab.map cellOf) (sum.map cellOf)).toArray] w (ChkR w Tm.none32 false false) := by
  have hln : sides.length = n := by rw [← hr.len]; simp [hashes]
  have HR := Lib.hid hr
  have HE := Lib.hid he
  have IR := Lib.hid (hash_info hr0)
  have IK := Lib.hid (hash_info hk)
  have IA := Lib.hid (hash_info hlab)
  have IS := Lib.hid (hash_info hsum)
  have IZ := Lib.hid zero_info
  have OZ := Lib.hid zero_one
  have BZ0 := Lib.hid zero_built
  have hzl : Tm.none32.length = 32 := rfl
  have EA := Lib.hid (hash_eq lab Tm.none32 hlab hzl)
  have ES := Lib.hid (hash_eq sum Tm.none32 hsum hzl)
  obtain ⟨w1, hw1⟩ : ∃ w1, w1 = (((w.alloc (.cells (r0.map cellOf).toArray 30)).alloc (.cells (k.map cellOf).toArray 30)).alloc (.cells (proofL (.slice A n c) has (lab.map cellOf) (sum.map cellOf)).toArray 38)).alloc (.cells (List.replicate 32 (Value.int .u8 0)).toArray 30) := ⟨_, rfl⟩
  have X1 : Hid (Below w.heap.size w w1) := by unfold Hid; rw [hw1]; exact ((((Below.refl _ _).alloc (Nat.le_refl _) _).alloc (by simp) _).alloc (by simp; omega) _).alloc (by simp; omega) _
  have BRT : Hid (Blk w1 w.heap.size 30 (r0.map cellOf)) := by unfold Hid; rw [hw1]; exact (((Blk.new w 30 _).alloc _).alloc _).alloc _
  have BLB : Hid (Blk w1 (w.heap.size + 1) 30 (k.map cellOf)) := by unfold Hid; rw [hw1]; exact ((Blk.at_new _ _ 30 _ _ rfl (by simp)).alloc _).alloc _
  have BPR : Hid (Blk w1 (w.heap.size + 1 + 1) 38 (proofL (.slice A n c) has (lab.map cellOf) (sum.map cellOf))) := by unfold Hid; rw [hw1]; exact (Blk.at_new _ _ 38 _ _ rfl (by simp)).alloc _
  have BRS : Hid (Blk w1 (w.heap.size + 1 + 1 + 1) 30 (List.replicate 32 (Value.int .u8 0))) := by unfold Hid; rw [hw1]; exact Blk.at_new _ _ 30 _ _ rfl (by simp)
  have R1 := Lib.hid (hr.below X1.out)
  have HZE : Hid (hv Tm.none32 = .agg (List.replicate 32 (Value.int .u8 0)).toArray) := rfl
  have hzm : Tm.none32.map cellOf = (List.replicate 32 (Value.int .u8 0)) := rfl
  rw [hzm] at EA ES
  obtain ⟨Z, hZ⟩ : ∃ Z, Z = List.replicate 32 (Value.int .u8 0) := ⟨_, rfl⟩
  have HZV : Hid (hv Tm.none32 = .agg Z.toArray) := by unfold Hid; rw [hZ]; rfl
  have HZM : Hid (Tm.none32.map cellOf = Z) := by unfold Hid; rw [hZ]; rfl
  have HZL : Hid (Z.length = 32) := by unfold Hid; rw [hZ]; rfl
  rw [← hZ] at IZ OZ BZ0 EA ES BRS
  have hle : w.heap.size ≤ w.heap.size + 1 + 1 + 1 := by omega
  have HAL : Hid ((lab.map cellOf).length = 32) := by unfold Hid; rw [List.length_map, hlab]
  have HSL : Hid ((sum.map cellOf).length = 32) := by unfold Hid; rw [List.length_map, hsum]
  unfold ChkR
  obtain ⟨RC, hRC⟩ : ∃ L, L = r0.map cellOf := ⟨_, rfl⟩
  obtain ⟨KC, hKC⟩ : ∃ L, L = k.map cellOf := ⟨_, rfl⟩
  obtain ⟨AC, hAC⟩ : ∃ L, L = lab.map cellOf := ⟨_, rfl⟩
  obtain ⟨SC, hSC⟩ : ∃ L, L = sum.map cellOf := ⟨_, rfl⟩
  have ERC := Lib.hid hRC
  have EKC := Lib.hid hKC
  have EAC := Lib.hid hAC
  have ESC := Lib.hid hSC
  rw [← hAC] at HAL IA EA BPR hw1 ⊢
  rw [← hSC] at HSL IS ES BPR hw1 ⊢
  rw [← hRC] at IR BRT hw1
  rw [← hKC] at IK BLB hw1
  unfold hv
  rw [← hRC, ← hKC]
  have LA1 := Lib.hid (proof_lab BPR.out HAL.out)
  have LS1 := Lib.hid (proof_sum BPR.out HAL.out)
  have p0 : w1.cell? ⟨w.heap.size + 1 + 1, 0, none⟩ = some (.slice A n c) := BPR.out.cell 0
  have p1 : w1.cell? ⟨w.heap.size + 1 + 1, 1, none⟩ = some (.bool has) := BPR.out.cell 1
  clear hr he hRC hKC hAC hSC
  go_enter Tryd.func23, Tryd.ntmps23
  go_upto_region 1 with (fail)
  change Code.wp _ _ _ _ ((((w.alloc (.cells RC.toArray 30)).alloc (.cells KC.toArray 30)).alloc (.cells (proofL (.slice A n c) has AC SC).toArray 38)).alloc (.cells (List.replicate 32 (Value.int .u8 0)).toArray 30))
  rw [← hw1]
  clear hZ hw1 hzm
  have hnb : decide ((256 : Int) < (n : Int)) = true := decide_eq_true (by omega)
  go_wp2_with (first
    | (with_reducible refine load_when (by kernel_rfl) 30 (.tmp 20) rfl (w.heap.size + 1 + 1) 2 rfl AC _ Tryd.underlying30 rfl IA.out LA1.out ?_)
    | (with_reducible refine load_when (by kernel_rfl) 30 (.tmp 25) rfl (w.heap.size + 1 + 1) 34 rfl SC _ Tryd.underlying30 rfl IS.out LS1.out ?_)
    | (with_reducible refine build_when (by kernel_rfl) 30 #[] rfl Z (by simp only [List.map_toArray, List.map_nil]; exact BZ0.out) ?_)
    | (with_reducible refine build_law rfl 30 #[] rfl Z (by simp only [List.map_toArray, List.map_nil]; exact BZ0.out) ?_)
    | ((with_reducible refine storeGen_law rfl 30 (.tmp 6) (.tmp 32) rfl (w.heap.size + 1 + 1 + 1) rfl Z rfl 30 Z IZ.out rfl OZ.out w.heap.size w BRS.out X1.out hle ?_); intro w9 B9 W9))
  exact bodyPost_ret (results_row_tmp2 rfl _ _ (w.heap.size + 1 + 1 + 1) 30 Z.toArray (0, 0) _ _ _ rfl rfl rfl B9.out Tryd.underlying30 rfl (by rw [IZ.out]; simp)) rfl ⟨by rw [HZM.out]; rfl, W9.out⟩
set_option maxRecDepth 100000 in
set_option maxHeartbeats 1000000 in
theorem rchk_lab {w : World} {A : Option Addr} {n c : Nat} {sides : List (List UInt8)} (hr : Rd2 w 32 A n c (hashes sides)) (he : ∀ x ∈ sides, x.length = 32) {r0 k lab sum : List UInt8} (hr0 : r0.length = 32) (hk : k.length = 32) (hlab : lab.length = 32) (hsum : sum.length = 32) (hn : n ≤ 256) (hz : lab ≠ Tm.none32) : Calls Tryd.prog 23 #[hv r0, hv k, .agg (proofL (.slice A n c) false (lab.map cellOf) (sum.map cellOf)).toArray] w (ChkR w Tm.none32 false false) := by
  have hln : sides.length = n := by rw [← hr.len]; simp [hashes]
  have HR := Lib.hid hr
  have HE := Lib.hid he
  have IR := Lib.hid (hash_info hr0)
  have IK := Lib.hid (hash_info hk)
  have IA := Lib.hid (hash_info hlab)
  have IS := Lib.hid (hash_info hsum)
  have IZ := Lib.hid zero_info
  have OZ := Lib.hid zero_one
  have BZ0 := Lib.hid zero_built
  have hzl : Tm.none32.length = 32 := rfl
  have EA := Lib.hid (hash_eq lab Tm.none32 hlab hzl)
  have ES := Lib.hid (hash_eq sum Tm.none32 hsum hzl)
  obtain ⟨w1, hw1⟩ : ∃ w1, w1 = (((w.alloc (.cells (r0.map cellOf).toArray 30)).alloc (.cells (k.map cellOf).toArray 30)).alloc (.cells (proofL (.slice A n c) false (lab.map cellOf) (sum.map cellOf)).toArray 38)).alloc (.cells (List.replicate 32 (Value.int .u8 0)).toArray 30) := ⟨_, rfl⟩
  have X1 : Hid (Below w.heap.size w w1) := by unfold Hid; rw [hw1]; exact ((((Below.refl _ _).alloc (Nat.le_refl _) _).alloc (by simp) _).alloc (by simp; omega) _).alloc (by simp; omega) _
  have BRT : Hid (Blk w1 w.heap.size 30 (r0.map cellOf)) := by unfold Hid; rw [hw1]; exact (((Blk.new w 30 _).alloc _).alloc _).alloc _
  have BLB : Hid (Blk w1 (w.heap.size + 1) 30 (k.map cellOf)) := by unfold Hid; rw [hw1]; exact ((Blk.at_new _ _ 30 _ _ rfl (by simp)).alloc _).alloc _
  have BPR : Hid (Blk w1 (w.heap.size + 1 + 1) 38 (proofL (.slice A n c) false (lab.map cellOf) (sum.map cellOf))) := by unfold Hid; rw [hw1]; exact (Blk.at_new _ _ 38 _ _ rfl (by simp)).alloc _
  have BRS : Hid (Blk w1 (w.heap.size + 1 + 1 + 1) 30 (List.replicate 32 (Value.int .u8 0))) := by unfold Hid; rw [hw1]; exact Blk.at_new _ _ 30 _ _ rfl (by simp)
  have R1 := Lib.hid (hr.below X1.out)
  have HZE : Hid (hv Tm.none32 = .agg (List.replicate 32 (Value.int .u8 0)).toArray) := rfl
  have hzm : Tm.none32.map cellOf = (List.replicate 32 (Value.int .u8 0)) := rfl
  rw [hzm] at EA ES
  obtain ⟨Z, hZ⟩ : ∃ Z, Z = List.replicate 32 (Value.int .u8 0) := ⟨_, rfl⟩
  have HZV : Hid (hv Tm.none32 = .agg Z.toArray) := by unfold Hid; rw [hZ]; rfl
  have HZM : Hid (Tm.none32.map cellOf = Z) := by unfold Hid; rw [hZ]; rfl
  have HZL : Hid (Z.length = 32) := by unfold Hid; rw [hZ]; rfl
  rw [← hZ] at IZ OZ BZ0 EA ES BRS
  have hle : w.heap.size ≤ w.heap.size + 1 + 1 + 1 := by omega
  have HAL : Hid ((lab.map cellOf).length = 32) := by unfold Hid; rw [List.length_map, hlab]
  have HSL : Hid ((sum.map cellOf).length = 32) := by unfold Hid; rw [List.length_map, hsum]
  unfold ChkR
  obtain ⟨RC, hRC⟩ : ∃ L, L = r0.map cellOf := ⟨_, rfl⟩
  obtain ⟨KC, hKC⟩ : ∃ L, L = k.map cellOf := ⟨_, rfl⟩
  obtain ⟨AC, hAC⟩ : ∃ L, L = lab.map cellOf := ⟨_, rfl⟩
  obtain ⟨SC, hSC⟩ : ∃ L, L = sum.map cellOf := ⟨_, rfl⟩
  have ERC := Lib.hid hRC
  have EKC := Lib.hid hKC
  have EAC := Lib.hid hAC
  have ESC := Lib.hid hSC
  rw [← hAC] at HAL IA EA BPR hw1 ⊢
  rw [← hSC] at HSL IS ES BPR hw1 ⊢
  rw [← hRC] at IR BRT hw1
  rw [← hKC] at IK BLB hw1
  unfold hv
  rw [← hRC, ← hKC]
  have LA1 := Lib.hid (proof_lab BPR.out HAL.out)
  have LS1 := Lib.hid (proof_sum BPR.out HAL.out)
  have p0 : w1.cell? ⟨w.heap.size + 1 + 1, 0, none⟩ = some (.slice A n c) := BPR.out.cell 0
  have p1 : w1.cell? ⟨w.heap.size + 1 + 1, 1, none⟩ = some (.bool false) := BPR.out.cell 1
  clear hr he hRC hKC hAC hSC
  go_enter Tryd.func23, Tryd.ntmps23
  go_upto_region 1 with (fail)
  change Code.wp _ _ _ _ ((((w.alloc (.cells RC.toArray 30)).alloc (.cells KC.toArray 30)).alloc (.cells (proofL (.slice A n c) false AC SC).toArray 38)).alloc (.cells (List.replicate 32 (Value.int .u8 0)).toArray 30))
  rw [← hw1]
  clear hZ hw1 hzm
  have hnb : decide ((256 : Int) < (n : Int)) = false := decide_eq_false (by omega)
  have ea := EA.out
  rw [decide_eq_false hz] at ea
  clear EA ES hz
  go_wp2_with (first
    | (with_reducible refine load_when (by kernel_rfl) 30 (.tmp 20) rfl (w.heap.size + 1 + 1) 2 rfl AC _ Tryd.underlying30 rfl IA.out LA1.out ?_)
    | (with_reducible refine load_when (by kernel_rfl) 30 (.tmp 25) rfl (w.heap.size + 1 + 1) 34 rfl SC _ Tryd.underlying30 rfl IS.out LS1.out ?_)
    | (with_reducible refine build_when (by kernel_rfl) 30 #[] rfl Z (by simp only [List.map_toArray, List.map_nil]; exact BZ0.out) ?_)
    | (with_reducible refine build_law rfl 30 #[] rfl Z (by simp only [List.map_toArray, List.map_nil]; exact BZ0.out) ?_)
    | ((with_reducible refine storeGen_law rfl 30 (.tmp 6) (.tmp 32) rfl (w.heap.size + 1 + 1 + 1) rfl Z rfl 30 Z IZ.out rfl OZ.out w.heap.size w BRS.out X1.out hle ?_); intro w9 B9 W9))
  exact bodyPost_ret (results_row_tmp2 rfl _ _ (w.heap.size + 1 + 1 + 1) 30 Z.toArray (0, 0) _ _ _ rfl rfl rfl B9.out Tryd.underlying30 rfl (by rw [IZ.out]; simp)) rfl ⟨by rw [HZM.out]; rfl, W9.out⟩
set_option maxRecDepth 100000 in
set_option maxHeartbeats 1000000 in
theorem rchk_sum {w : World} {A : Option Addr} {n c : Nat} {sides : List (List UInt8)} (hr : Rd2 w 32 A n c (hashes sides)) (he : ∀ x ∈ sides, x.length = 32) {r0 k lab sum : List UInt8} (hr0 : r0.length = 32) (hk : k.length = 32) (hlab : lab.length = 32) (hsum : sum.length = 32) (hn : n ≤ 256) (hz : lab = Tm.none32) (hy : sum ≠ Tm.none32) : Calls Tryd.prog 23 #[hv r0, hv k, .agg (proofL (.slice A n c) false (lab.map cellOf) (sum.map cellOf)).toArray] w (ChkR w Tm.none32 false false) := by
  have hln : sides.length = n := by rw [← hr.len]; simp [hashes]
  have HR := Lib.hid hr
  have HE := Lib.hid he
  have IR := Lib.hid (hash_info hr0)
  have IK := Lib.hid (hash_info hk)
  have IA := Lib.hid (hash_info hlab)
  have IS := Lib.hid (hash_info hsum)
  have IZ := Lib.hid zero_info
  have OZ := Lib.hid zero_one
  have BZ0 := Lib.hid zero_built
  have hzl : Tm.none32.length = 32 := rfl
  have EA := Lib.hid (hash_eq lab Tm.none32 hlab hzl)
  have ES := Lib.hid (hash_eq sum Tm.none32 hsum hzl)
  obtain ⟨w1, hw1⟩ : ∃ w1, w1 = (((w.alloc (.cells (r0.map cellOf).toArray 30)).alloc (.cells (k.map cellOf).toArray 30)).alloc (.cells (proofL (.slice A n c) false (lab.map cellOf) (sum.map cellOf)).toArray 38)).alloc (.cells (List.replicate 32 (Value.int .u8 0)).toArray 30) := ⟨_, rfl⟩
  have X1 : Hid (Below w.heap.size w w1) := by unfold Hid; rw [hw1]; exact ((((Below.refl _ _).alloc (Nat.le_refl _) _).alloc (by simp) _).alloc (by simp; omega) _).alloc (by simp; omega) _
  have BRT : Hid (Blk w1 w.heap.size 30 (r0.map cellOf)) := by unfold Hid; rw [hw1]; exact (((Blk.new w 30 _).alloc _).alloc _).alloc _
  have BLB : Hid (Blk w1 (w.heap.size + 1) 30 (k.map cellOf)) := by unfold Hid; rw [hw1]; exact ((Blk.at_new _ _ 30 _ _ rfl (by simp)).alloc _).alloc _
  have BPR : Hid (Blk w1 (w.heap.size + 1 + 1) 38 (proofL (.slice A n c) false (lab.map cellOf) (sum.map cellOf))) := by unfold Hid; rw [hw1]; exact (Blk.at_new _ _ 38 _ _ rfl (by simp)).alloc _
  have BRS : Hid (Blk w1 (w.heap.size + 1 + 1 + 1) 30 (List.replicate 32 (Value.int .u8 0))) := by unfold Hid; rw [hw1]; exact Blk.at_new _ _ 30 _ _ rfl (by simp)
  have R1 := Lib.hid (hr.below X1.out)
  have HZE : Hid (hv Tm.none32 = .agg (List.replicate 32 (Value.int .u8 0)).toArray) := rfl
  have hzm : Tm.none32.map cellOf = (List.replicate 32 (Value.int .u8 0)) := rfl
  rw [hzm] at EA ES
  obtain ⟨Z, hZ⟩ : ∃ Z, Z = List.replicate 32 (Value.int .u8 0) := ⟨_, rfl⟩
  have HZV : Hid (hv Tm.none32 = .agg Z.toArray) := by unfold Hid; rw [hZ]; rfl
  have HZM : Hid (Tm.none32.map cellOf = Z) := by unfold Hid; rw [hZ]; rfl
  have HZL : Hid (Z.length = 32) := by unfold Hid; rw [hZ]; rfl
  rw [← hZ] at IZ OZ BZ0 EA ES BRS
  have hle : w.heap.size ≤ w.heap.size + 1 + 1 + 1 := by omega
  have HAL : Hid ((lab.map cellOf).length = 32) := by unfold Hid; rw [List.length_map, hlab]
  have HSL : Hid ((sum.map cellOf).length = 32) := by unfold Hid; rw [List.length_map, hsum]
  unfold ChkR
  obtain ⟨RC, hRC⟩ : ∃ L, L = r0.map cellOf := ⟨_, rfl⟩
  obtain ⟨KC, hKC⟩ : ∃ L, L = k.map cellOf := ⟨_, rfl⟩
  obtain ⟨AC, hAC⟩ : ∃ L, L = lab.map cellOf := ⟨_, rfl⟩
  obtain ⟨SC, hSC⟩ : ∃ L, L = sum.map cellOf := ⟨_, rfl⟩
  have ERC := Lib.hid hRC
  have EKC := Lib.hid hKC
  have EAC := Lib.hid hAC
  have ESC := Lib.hid hSC
  rw [← hAC] at HAL IA EA BPR hw1 ⊢
  rw [← hSC] at HSL IS ES BPR hw1 ⊢
  rw [← hRC] at IR BRT hw1
  rw [← hKC] at IK BLB hw1
  unfold hv
  rw [← hRC, ← hKC]
  have LA1 := Lib.hid (proof_lab BPR.out HAL.out)
  have LS1 := Lib.hid (proof_sum BPR.out HAL.out)
  have p0 : w1.cell? ⟨w.heap.size + 1 + 1, 0, none⟩ = some (.slice A n c) := BPR.out.cell 0
  have p1 : w1.cell? ⟨w.heap.size + 1 + 1, 1, none⟩ = some (.bool false) := BPR.out.cell 1
  clear hr he hRC hKC hAC hSC
  go_enter Tryd.func23, Tryd.ntmps23
  go_upto_region 1 with (fail)
  change Code.wp _ _ _ _ ((((w.alloc (.cells RC.toArray 30)).alloc (.cells KC.toArray 30)).alloc (.cells (proofL (.slice A n c) false AC SC).toArray 38)).alloc (.cells (List.replicate 32 (Value.int .u8 0)).toArray 30))
  rw [← hw1]
  clear hZ hw1 hzm
  have hnb : decide ((256 : Int) < (n : Int)) = false := decide_eq_false (by omega)
  have ea := EA.out
  rw [decide_eq_true hz] at ea
  have es := ES.out
  rw [decide_eq_false hy] at es
  clear EA ES hz hy
  go_wp2_with (first
    | (with_reducible refine load_when (by kernel_rfl) 30 (.tmp 20) rfl (w.heap.size + 1 + 1) 2 rfl AC _ Tryd.underlying30 rfl IA.out LA1.out ?_)
    | (with_reducible refine load_when (by kernel_rfl) 30 (.tmp 25) rfl (w.heap.size + 1 + 1) 34 rfl SC _ Tryd.underlying30 rfl IS.out LS1.out ?_)
    | (with_reducible refine build_when (by kernel_rfl) 30 #[] rfl Z (by simp only [List.map_toArray, List.map_nil]; exact BZ0.out) ?_)
    | (with_reducible refine build_law rfl 30 #[] rfl Z (by simp only [List.map_toArray, List.map_nil]; exact BZ0.out) ?_)
    | ((with_reducible refine storeGen_law rfl 30 (.tmp 6) (.tmp 32) rfl (w.heap.size + 1 + 1 + 1) rfl Z rfl 30 Z IZ.out rfl OZ.out w.heap.size w BRS.out X1.out hle ?_); intro w9 B9 W9))
  exact bodyPost_ret (results_row_tmp2 rfl _ _ (w.heap.size + 1 + 1 + 1) 30 Z.toArray (0, 0) _ _ _ rfl rfl rfl B9.out Tryd.underlying30 rfl (by rw [IZ.out]; simp)) rfl ⟨by rw [HZM.out]; rfl, W9.out⟩
set_option maxRecDepth 100000 in
set_option maxHeartbeats 1000000 in
theorem rchk_none {w : World} {A : Option Addr} {n c : Nat} {sides : List (List UInt8)} (hr : Rd2 w 32 A n c (hashes sides)) (he : ∀ x ∈ sides, x.length = 32) {r0 k lab sum : List UInt8} (hr0 : r0.length = 32) (hk : k.length = 32) (hlab : lab.length = 32) (hsum : sum.length = 32) (hn : n ≤ 256) (hz : lab = Tm.none32) (hy : sum = Tm.none32) : Calls Tryd.prog 23 #[hv r0, hv k, .agg (proofL (.slice A n c) false (lab.map cellOf) (sum.map cellOf)).toArray] w (ChkR w Tm.none32 false (decide (Tm.up Tm.none32 k 0 sides = r0))) := by
  have hln : sides.length = n := by rw [← hr.len]; simp [hashes]
  have HR := Lib.hid hr
  have HE := Lib.hid he
  have IR := Lib.hid (hash_info hr0)
  have IK := Lib.hid (hash_info hk)
  have IA := Lib.hid (hash_info hlab)
  have IS := Lib.hid (hash_info hsum)
  have IZ := Lib.hid zero_info
  have OZ := Lib.hid zero_one
  have BZ0 := Lib.hid zero_built
  have hzl : Tm.none32.length = 32 := rfl
  have EA := Lib.hid (hash_eq lab Tm.none32 hlab hzl)
  have ES := Lib.hid (hash_eq sum Tm.none32 hsum hzl)
  obtain ⟨w1, hw1⟩ : ∃ w1, w1 = (((w.alloc (.cells (r0.map cellOf).toArray 30)).alloc (.cells (k.map cellOf).toArray 30)).alloc (.cells (proofL (.slice A n c) false (lab.map cellOf) (sum.map cellOf)).toArray 38)).alloc (.cells (List.replicate 32 (Value.int .u8 0)).toArray 30) := ⟨_, rfl⟩
  have X1 : Hid (Below w.heap.size w w1) := by unfold Hid; rw [hw1]; exact ((((Below.refl _ _).alloc (Nat.le_refl _) _).alloc (by simp) _).alloc (by simp; omega) _).alloc (by simp; omega) _
  have BRT : Hid (Blk w1 w.heap.size 30 (r0.map cellOf)) := by unfold Hid; rw [hw1]; exact (((Blk.new w 30 _).alloc _).alloc _).alloc _
  have BLB : Hid (Blk w1 (w.heap.size + 1) 30 (k.map cellOf)) := by unfold Hid; rw [hw1]; exact ((Blk.at_new _ _ 30 _ _ rfl (by simp)).alloc _).alloc _
  have BPR : Hid (Blk w1 (w.heap.size + 1 + 1) 38 (proofL (.slice A n c) false (lab.map cellOf) (sum.map cellOf))) := by unfold Hid; rw [hw1]; exact (Blk.at_new _ _ 38 _ _ rfl (by simp)).alloc _
  have BRS : Hid (Blk w1 (w.heap.size + 1 + 1 + 1) 30 (List.replicate 32 (Value.int .u8 0))) := by unfold Hid; rw [hw1]; exact Blk.at_new _ _ 30 _ _ rfl (by simp)
  have R1 := Lib.hid (hr.below X1.out)
  have HZE : Hid (hv Tm.none32 = .agg (List.replicate 32 (Value.int .u8 0)).toArray) := rfl
  have hzm : Tm.none32.map cellOf = (List.replicate 32 (Value.int .u8 0)) := rfl
  rw [hzm] at EA ES
  obtain ⟨Z, hZ⟩ : ∃ Z, Z = List.replicate 32 (Value.int .u8 0) := ⟨_, rfl⟩
  have HZV : Hid (hv Tm.none32 = .agg Z.toArray) := by unfold Hid; rw [hZ]; rfl
  have HZM : Hid (Tm.none32.map cellOf = Z) := by unfold Hid; rw [hZ]; rfl
  have HZL : Hid (Z.length = 32) := by unfold Hid; rw [hZ]; rfl
  rw [← hZ] at IZ OZ BZ0 EA ES BRS
  have hle : w.heap.size ≤ w.heap.size + 1 + 1 + 1 := by omega
  have HAL : Hid ((lab.map cellOf).length = 32) := by unfold Hid; rw [List.length_map, hlab]
  have HSL : Hid ((sum.map cellOf).length = 32) := by unfold Hid; rw [List.length_map, hsum]
  unfold ChkR
  obtain ⟨RC, hRC⟩ : ∃ L, L = r0.map cellOf := ⟨_, rfl⟩
  obtain ⟨KC, hKC⟩ : ∃ L, L = k.map cellOf := ⟨_, rfl⟩
  obtain ⟨AC, hAC⟩ : ∃ L, L = lab.map cellOf := ⟨_, rfl⟩
  obtain ⟨SC, hSC⟩ : ∃ L, L = sum.map cellOf := ⟨_, rfl⟩
  have ERC := Lib.hid hRC
  have EKC := Lib.hid hKC
  have EAC := Lib.hid hAC
  have ESC := Lib.hid hSC
  rw [← hAC] at HAL IA EA BPR hw1 ⊢
  rw [← hSC] at HSL IS ES BPR hw1 ⊢
  rw [← hRC] at IR BRT hw1
  rw [← hKC] at IK BLB hw1
  unfold hv
  rw [← hRC, ← hKC]
  have LA1 := Lib.hid (proof_lab BPR.out HAL.out)
  have LS1 := Lib.hid (proof_sum BPR.out HAL.out)
  have p0 : w1.cell? ⟨w.heap.size + 1 + 1, 0, none⟩ = some (.slice A n c) := BPR.out.cell 0
  have p1 : w1.cell? ⟨w.heap.size + 1 + 1, 1, none⟩ = some (.bool false) := BPR.out.cell 1
  clear hr he hRC hKC hAC hSC
  go_enter Tryd.func23, Tryd.ntmps23
  go_upto_region 1 with (fail)
  change Code.wp _ _ _ _ ((((w.alloc (.cells RC.toArray 30)).alloc (.cells KC.toArray 30)).alloc (.cells (proofL (.slice A n c) false AC SC).toArray 38)).alloc (.cells (List.replicate 32 (Value.int .u8 0)).toArray 30))
  rw [← hw1]
  clear hZ hw1 hzm
  have hnb : decide ((256 : Int) < (n : Int)) = false := decide_eq_false (by omega)
  have ea := EA.out
  rw [decide_eq_true hz] at ea
  have es := ES.out
  rw [decide_eq_true hy] at es
  have htl : Tm.none32.length = 32 := rfl
  have hul : (Tm.up Tm.none32 k 0 sides).length = 32 := Tm.up_length htl _ _
  have IE := Lib.hid (hash_info htl)
  have CU : Hid (∀ W, Below w.heap.size w W → Calls Tryd.prog 43 #[hv (Tm.none32), hv k, .slice A n c] W fun e w' => e = .returned (hv (Tm.up Tm.none32 k 0 sides)) ∧ Below W.heap.size W w') := fun W hW => rup_any (HR.out.below hW) HE.out hn htl hk
  have EU := Lib.hid (hash_eq (Tm.up Tm.none32 k 0 sides) r0 hul hr0)
  unfold hv at CU
  obtain ⟨EC, hEC⟩ : ∃ L, L = (Tm.none32).map cellOf := ⟨_, rfl⟩
  obtain ⟨UC, hUC⟩ : ∃ L, L = (Tm.up Tm.none32 k 0 sides).map cellOf := ⟨_, rfl⟩
  have EEC := Lib.hid hEC
  rw [← hEC, ← hUC, ← EKC.out] at CU
  rw [← hEC] at IE
  rw [← hUC, ← ERC.out] at EU
  clear hEC hUC
  obtain rfl : EC = Z := by rw [EEC.out]; exact HZM.out
  go_upto_region 3 with (first
    | (with_reducible refine load_when (by kernel_rfl) 30 (.tmp 20) rfl (w.heap.size + 1 + 1) 2 rfl AC _ Tryd.underlying30 rfl IA.out LA1.out ?_)
    | (with_reducible refine load_when (by kernel_rfl) 30 (.tmp 25) rfl (w.heap.size + 1 + 1) 34 rfl SC _ Tryd.underlying30 rfl IS.out LS1.out ?_)
    | (with_reducible refine build_when (by kernel_rfl) 30 #[] rfl EC (by simp only [List.map_toArray, List.map_nil]; exact BZ0.out) ?_)
    | fail)
  clear ea es EA ES
  go_upto_region 4 with (fail)
  have BE : Hid (Blk (w1.alloc (.cells (List.replicate 32 (Value.int .u8 0)).toArray 30)) w1.heap.size 30 EC) := by
    have := Blk.new w1 30 (List.replicate 32 (Value.int .u8 0))
    rw [show (List.replicate 32 (Value.int .u8 0)) = EC from (EEC.out.trans rfl).symm] at this ⊢
    exact this
  have X2 := Lib.hid (alloc_below w1 (.cells (List.replicate 32 (Value.int .u8 0)).toArray 30))
  replace BRT := Lib.hid (BRT.out.below X2.out BRT.out.lt)
  replace BLB := Lib.hid (BLB.out.below X2.out BLB.out.lt)
  replace BPR := Lib.hid (BPR.out.below X2.out BPR.out.lt)
  replace BRS := Lib.hid (BRS.out.below X2.out BRS.out.lt)
  have W1 := Lib.hid (X1.out.trans (X2.out.mono X1.out.size))
  change Code.wp _ _ _ _ (w1.alloc (.cells (List.replicate 32 (Value.int .u8 0)).toArray 30))
  generalize w1.alloc (.cells (List.replicate 32 (Value.int .u8 0)).toArray 30) = w2 at *
  clear p0 p1 LA1 LS1 R1
  have p2 : w2.cell? ⟨w.heap.size + 1 + 1, 1, none⟩ = some (.bool false) := BPR.out.cell 1
  go_upto_region 11 with (fail)
  clear p2
  by_cases hu : Tm.up Tm.none32 k 0 sides = r0
  · have eq0 := EU.out
    rw [decide_eq_true hu] at eq0
    have HUB : Hid (decide (Tm.up Tm.none32 k 0 sides = r0) = true) := decide_eq_true hu
    clear EU hu
    replace BRT := Lib.hid BRT.out.drew
    replace BLB := Lib.hid BLB.out.drew
    replace BPR := Lib.hid BPR.out.drew
    replace BRS := Lib.hid BRS.out.drew
    replace BE := Lib.hid BE.out.drew
    replace W1 := Lib.hid W1.out.drew
    refine wp_region_any (by kernel_rfl) ?_
    change wpAny _ _ _ _ _ _ _ (World.drew _)
    generalize w2.drew = wd at *
    refine wpAny_take (i := 2) (oi := ?oi1) (v := .pointer (some ⟨w.heap.size + 1 + 1, 0, none⟩)) ?hi1 (by kernel_rfl) (by kernel_rfl) (by kernel_rfl) ?hQ1 ?hy1 ?rest1
    case hi1 => simp only [zge]; rfl
    case hQ1 => exact fun _ _ _ h => h
    case hy1 => exact Or.inl ⟨by rfl, by intro w; go_simp⟩
    try simp only [zpt]
    refine phaseL (fun i => if i = 4 then [0, 1, 3] else if i = 6 then [4, 5] else []) (fun d a w' => ∃ x56 x57 x59 x60 x61 x62 : Value, a = { tmps := #[.agg RC.toArray, .agg KC.toArray, .agg (proofL (.slice A n c) false AC SC).toArray, .pointer (some ⟨w.heap.size, 0, none⟩), .pointer (some ⟨w.heap.size + 1, 0, none⟩), .pointer (some ⟨w.heap.size + 1 + 1, 0, none⟩), .pointer (some ⟨w.heap.size + 1 + 1 + 1, 0, none⟩), .bool false, .bool false, .pointer (some ⟨w1.heap.size, 0, none⟩), undef, .pointer (some ⟨w.heap.size + 1 + 1, 0, none⟩), .slice A n c, .int .i64 (n : Int), .bool false, .bool false, .pointer (some ⟨w.heap.size + 1 + 1, 1, none⟩), .bool false, .bool true, .bool true, .pointer (some ⟨w.heap.size + 1 + 1, 2, none⟩), .agg AC.toArray, .agg EC.toArray, .bool false, .bool false, .pointer (some ⟨w.heap.size + 1 + 1, 34, none⟩), .agg SC.toArray, .agg EC.toArray, .bool false, .bool false, .bool false, .bool false, undef, .pointer (some ⟨w.heap.size + 1 + 1, 1, none⟩), .bool false, undef, undef, undef, undef, undef, undef, undef, undef, undef, undef, undef, undef, undef, undef, undef, undef, undef, undef, undef, undef, undef, x56, x57, .pointer (some ⟨w.heap.size + 1 + 1, 0, none⟩), x59, x60, x61, x62, undef, undef, undef, undef, undef, undef, undef, undef, undef, undef, undef, undef], defers := [] } ∧ Hid (Below wd.heap.size wd w') ∧ (d 0 = true → x56 = .agg EC.toArray) ∧ (d 1 = true → x57 = .agg KC.toArray) ∧ (d 3 = true → x59 = .slice A n c) ∧ (d 4 = true → x60 = .agg UC.toArray) ∧ (d 5 = true → x61 = .agg RC.toArray) ∧ (d 6 = true → x62 = .bool false)) [0, 1, 3, 4, 5, 6] ?step2 0 6 [0, 1, 3, 4, 5, 6] _ _ _ rfl (by decide) (fun _ h => h) (Fits.of (by kernel_rfl)) ?init2 ?fin2
    case init2 => refine ⟨_, _, _, _, _, _, rfl, Below.refl _ _, ?_, ?_, ?_, ?_, ?_, ?_⟩ <;> (intro h; exact absurd h (by decide))
    case step2 =>
      intro i hi d a v2 hI hdi hdeps
      obtain ⟨x56, x57, x59, x60, x61, x62, rfl, BW, h0, h1, h3, h4, h5, h6⟩ := hI
      have hsw := BW.out.size
      simp only [List.mem_cons, List.not_mem_nil, or_false] at hi
      rcases hi with rfl | rfl | rfl | rfl | rfl | rfl
      · refine wpOp_step (o := ?os3) ?hos3 (fun K hK => ?_)
        case hos3 => simp only [zge]; rfl
        refine step_loadW rfl 30 (.tmp 9) rfl w1.heap.size 0 rfl EC _ Tryd.underlying30 rfl IE.out (BE.out.below BW.out BE.out.lt).cells (hK _ _ ?_)
        clear hK K
        try simp only [zpt]
        exact ⟨_, _, _, _, _, _, rfl, BW, fun _ => rfl, fun a => by first | exact h1 (by simpa using a) | rfl, fun a => by first | exact h3 (by simpa using a) | rfl, fun a => by first | exact h4 (by simpa using a) | rfl, fun a => by first | exact h5 (by simpa using a) | rfl, fun a => by first | exact h6 (by simpa using a) | rfl⟩
      · refine wpOp_step (o := ?os4) ?hos4 (fun K hK => ?_)
        case hos4 => simp only [zge]; rfl
        refine step_loadW rfl 30 (.tmp 4) rfl (w.heap.size + 1) 0 rfl KC _ Tryd.underlying30 rfl IK.out (BLB.out.below BW.out BLB.out.lt).cells (hK _ _ ?_)
        clear hK K
        try simp only [zpt]
        exact ⟨_, _, _, _, _, _, rfl, BW, fun a => by first | exact h0 (by simpa using a) | rfl, fun _ => rfl, fun a => by first | exact h3 (by simpa using a) | rfl, fun a => by first | exact h4 (by simpa using a) | rfl, fun a => by first | exact h5 (by simpa using a) | rfl, fun a => by first | exact h6 (by simpa using a) | rfl⟩
      · have c0 : v2.cell? ⟨w.heap.size + 1 + 1, 0, none⟩ = some (.slice A n c) := (BPR.out.below BW.out BPR.out.lt).cell 0
        refine wpOp_step (o := ?os5) ?hos5 (fun K hK => ?_)
        case hos5 => simp only [zge]; rfl
        go_simp
        refine hK _ _ ?_
        clear hK K
        try simp only [zpt]
        exact ⟨_, _, _, _, _, _, rfl, BW, fun a => by first | exact h0 (by simpa using a) | rfl, fun a => by first | exact h1 (by simpa using a) | rfl, fun _ => rfl, fun a => by first | exact h4 (by simpa using a) | rfl, fun a => by first | exact h5 (by simpa using a) | rfl, fun a => by first | exact h6 (by simpa using a) | rfl⟩
      · obtain rfl := h0 (hdeps 0 (by simp))
        obtain rfl := h1 (hdeps 1 (by simp))
        obtain rfl := h3 (hdeps 3 (by simp))
        refine wpOp_step (o := ?os6) ?hos6 (fun K hK => ?_)
        case hos6 => simp only [zge]; rfl
        go_simp
        refine (CU.out v2 (W1.out.trans (BW.out.mono W1.out.size))).mono ?_
        rintro e u2 ⟨rfl, hX⟩
        refine hK _ _ ?_
        clear hK K
        try simp only [zpt]
        exact ⟨_, _, _, _, _, _, rfl, BW.out.trans (hX.mono hsw), fun a => by first | exact h0 (by simpa using a) | rfl, fun a => by first | exact h1 (by simpa using a) | rfl, fun a => by first | exact h3 (by simpa using a) | rfl, fun _ => rfl, fun a => by first | exact h5 (by simpa using a) | rfl, fun a => by first | exact h6 (by simpa using a) | rfl⟩
      · refine wpOp_step (o := ?os7) ?hos7 (fun K hK => ?_)
        case hos7 => simp only [zge]; rfl
        refine step_loadW rfl 30 (.tmp 3) rfl w.heap.size 0 rfl RC _ Tryd.underlying30 rfl IR.out (BRT.out.below BW.out BRT.out.lt).cells (hK _ _ ?_)
        clear hK K
        try simp only [zpt]
        exact ⟨_, _, _, _, _, _, rfl, BW, fun a => by first | exact h0 (by simpa using a) | rfl, fun a => by first | exact h1 (by simpa using a) | rfl, fun a => by first | exact h3 (by simpa using a) | rfl, fun a => by first | exact h4 (by simpa using a) | rfl, fun _ => rfl, fun a => by first | exact h6 (by simpa using a) | rfl⟩
      · obtain rfl := h4 (hdeps 4 (by simp))
        obtain rfl := h5 (hdeps 5 (by simp))
        refine wpOp_step (o := ?os8) ?hos8 (fun K hK => ?_)
        case hos8 => simp only [zge]; rfl
        go_simp
        refine hK _ _ ?_
        clear hK K
        try simp only [zpt]
        exact ⟨_, _, _, _, _, _, rfl, BW, fun a => by first | exact h0 (by simpa using a) | rfl, fun a => by first | exact h1 (by simpa using a) | rfl, fun a => by first | exact h3 (by simpa using a) | rfl, fun a => by first | exact h4 (by simpa using a) | rfl, fun a => by first | exact h5 (by simpa using a) | rfl, fun _ => rfl⟩
    case fin2 =>
      intro a v2 hI
      obtain ⟨x56, x57, x59, x60, x61, x62, rfl, BW, h0, h1, h3, h4, h5, h6⟩ := hI
      obtain rfl := h0 (by decide)
      obtain rfl := h1 (by decide)
      obtain rfl := h3 (by decide)
      obtain rfl := h4 (by decide)
      obtain rfl := h5 (by decide)
      obtain rfl := h6 (by decide)
      have BRS9 := Lib.hid (BRS.out.below BW.out BRS.out.lt)
      have BPR9 := Lib.hid (BPR.out.below BW.out BPR.out.lt)
      have BLB9 := Lib.hid (BLB.out.below BW.out BLB.out.lt)
      have W8 := Lib.hid (W1.out.trans (BW.out.mono W1.out.size))
      clear BRT BLB BPR BRS BE W1 BW eq0
      try dsimp only
      refine wpAny_done (by kernel_rfl) ?_ _
      have p9 : v2.cell? ⟨w.heap.size + 1 + 1, 1, none⟩ = some (.bool false) := BPR9.out.cell 1
      go_wp2_with (first
        | (with_reducible refine build_law rfl 30 #[] rfl EC (by simp only [List.map_toArray, List.map_nil]; exact BZ0.out) ?_)
        | ((with_reducible refine storeGen_law rfl 30 (.tmp 6) (.tmp 74) rfl (w.heap.size + 1 + 1 + 1) rfl EC rfl 30 EC IZ.out rfl OZ.out w.heap.size w BRS9.out W8.out hle ?_); intro w9 B9 W9))
      exact bodyPost_ret (results_row_tmp2 rfl _ _ (w.heap.size + 1 + 1 + 1) 30 EC.toArray (0, 0) _ _ _ rfl rfl rfl B9.out Tryd.underlying30 rfl (by rw [IZ.out]; simp)) rfl ⟨by rw [HUB.out, HZM.out]; rfl, W9.out⟩
  · have eq0 := EU.out
    rw [decide_eq_false hu] at eq0
    have HUB : Hid (decide (Tm.up Tm.none32 k 0 sides = r0) = false) := decide_eq_false hu
    clear EU hu
    replace BRT := Lib.hid BRT.out.drew
    replace BLB := Lib.hid BLB.out.drew
    replace BPR := Lib.hid BPR.out.drew
    replace BRS := Lib.hid BRS.out.drew
    replace BE := Lib.hid BE.out.drew
    replace W1 := Lib.hid W1.out.drew
    refine wp_region_any (by kernel_rfl) ?_
    change wpAny _ _ _ _ _ _ _ (World.drew _)
    generalize w2.drew = wd at *
    refine wpAny_take (i := 2) (oi := ?oi9) (v := .pointer (some ⟨w.heap.size + 1 + 1, 0, none⟩)) ?hi9 (by kernel_rfl) (by kernel_rfl) (by kernel_rfl) ?hQ9 ?hy9 ?rest9
    case hi9 => simp only [zge]; rfl
    case hQ9 => exact fun _ _ _ h => h
    case hy9 => exact Or.inl ⟨by rfl, by intro w; go_simp⟩
    try simp only [zpt]
    refine phaseL (fun i => if i = 4 then [0, 1, 3] else if i = 6 then [4, 5] else []) (fun d a w' => ∃ x56 x57 x59 x60 x61 x62 : Value, a = { tmps := #[.agg RC.toArray, .agg KC.toArray, .agg (proofL (.slice A n c) false AC SC).toArray, .pointer (some ⟨w.heap.size, 0, none⟩), .pointer (some ⟨w.heap.size + 1, 0, none⟩), .pointer (some ⟨w.heap.size + 1 + 1, 0, none⟩), .pointer (some ⟨w.heap.size + 1 + 1 + 1, 0, none⟩), .bool false, .bool false, .pointer (some ⟨w1.heap.size, 0, none⟩), undef, .pointer (some ⟨w.heap.size + 1 + 1, 0, none⟩), .slice A n c, .int .i64 (n : Int), .bool false, .bool false, .pointer (some ⟨w.heap.size + 1 + 1, 1, none⟩), .bool false, .bool true, .bool true, .pointer (some ⟨w.heap.size + 1 + 1, 2, none⟩), .agg AC.toArray, .agg EC.toArray, .bool false, .bool false, .pointer (some ⟨w.heap.size + 1 + 1, 34, none⟩), .agg SC.toArray, .agg EC.toArray, .bool false, .bool false, .bool false, .bool false, undef, .pointer (some ⟨w.heap.size + 1 + 1, 1, none⟩), .bool false, undef, undef, undef, undef, undef, undef, undef, undef, undef, undef, undef, undef, undef, undef, undef, undef, undef, undef, undef, undef, undef, x56, x57, .pointer (some ⟨w.heap.size + 1 + 1, 0, none⟩), x59, x60, x61, x62, undef, undef, undef, undef, undef, undef, undef, undef, undef, undef, undef, undef], defers := [] } ∧ Hid (Below wd.heap.size wd w') ∧ (d 0 = true → x56 = .agg EC.toArray) ∧ (d 1 = true → x57 = .agg KC.toArray) ∧ (d 3 = true → x59 = .slice A n c) ∧ (d 4 = true → x60 = .agg UC.toArray) ∧ (d 5 = true → x61 = .agg RC.toArray) ∧ (d 6 = true → x62 = .bool true)) [0, 1, 3, 4, 5, 6] ?step10 0 6 [0, 1, 3, 4, 5, 6] _ _ _ rfl (by decide) (fun _ h => h) (Fits.of (by kernel_rfl)) ?init10 ?fin10
    case init10 => refine ⟨_, _, _, _, _, _, rfl, Below.refl _ _, ?_, ?_, ?_, ?_, ?_, ?_⟩ <;> (intro h; exact absurd h (by decide))
    case step10 =>
      intro i hi d a v10 hI hdi hdeps
      obtain ⟨x56, x57, x59, x60, x61, x62, rfl, BW, h0, h1, h3, h4, h5, h6⟩ := hI
      have hsw := BW.out.size
      simp only [List.mem_cons, List.not_mem_nil, or_false] at hi
      rcases hi with rfl | rfl | rfl | rfl | rfl | rfl
      · refine wpOp_step (o := ?os11) ?hos11 (fun K hK => ?_)
        case hos11 => simp only [zge]; rfl
        refine step_loadW rfl 30 (.tmp 9) rfl w1.heap.size 0 rfl EC _ Tryd.underlying30 rfl IE.out (BE.out.below BW.out BE.out.lt).cells (hK _ _ ?_)
        clear hK K
        try simp only [zpt]
        exact ⟨_, _, _, _, _, _, rfl, BW, fun _ => rfl, fun a => by first | exact h1 (by simpa using a) | rfl, fun a => by first | exact h3 (by simpa using a) | rfl, fun a => by first | exact h4 (by simpa using a) | rfl, fun a => by first | exact h5 (by simpa using a) | rfl, fun a => by first | exact h6 (by simpa using a) | rfl⟩
      · refine wpOp_step (o := ?os12) ?hos12 (fun K hK => ?_)
        case hos12 => simp only [zge]; rfl
        refine step_loadW rfl 30 (.tmp 4) rfl (w.heap.size + 1) 0 rfl KC _ Tryd.underlying30 rfl IK.out (BLB.out.below BW.out BLB.out.lt).cells (hK _ _ ?_)
        clear hK K
        try simp only [zpt]
        exact ⟨_, _, _, _, _, _, rfl, BW, fun a => by first | exact h0 (by simpa using a) | rfl, fun _ => rfl, fun a => by first | exact h3 (by simpa using a) | rfl, fun a => by first | exact h4 (by simpa using a) | rfl, fun a => by first | exact h5 (by simpa using a) | rfl, fun a => by first | exact h6 (by simpa using a) | rfl⟩
      · have c0 : v10.cell? ⟨w.heap.size + 1 + 1, 0, none⟩ = some (.slice A n c) := (BPR.out.below BW.out BPR.out.lt).cell 0
        refine wpOp_step (o := ?os13) ?hos13 (fun K hK => ?_)
        case hos13 => simp only [zge]; rfl
        go_simp
        refine hK _ _ ?_
        clear hK K
        try simp only [zpt]
        exact ⟨_, _, _, _, _, _, rfl, BW, fun a => by first | exact h0 (by simpa using a) | rfl, fun a => by first | exact h1 (by simpa using a) | rfl, fun _ => rfl, fun a => by first | exact h4 (by simpa using a) | rfl, fun a => by first | exact h5 (by simpa using a) | rfl, fun a => by first | exact h6 (by simpa using a) | rfl⟩
      · obtain rfl := h0 (hdeps 0 (by simp))
        obtain rfl := h1 (hdeps 1 (by simp))
        obtain rfl := h3 (hdeps 3 (by simp))
        refine wpOp_step (o := ?os14) ?hos14 (fun K hK => ?_)
        case hos14 => simp only [zge]; rfl
        go_simp
        refine (CU.out v10 (W1.out.trans (BW.out.mono W1.out.size))).mono ?_
        rintro e u10 ⟨rfl, hX⟩
        refine hK _ _ ?_
        clear hK K
        try simp only [zpt]
        exact ⟨_, _, _, _, _, _, rfl, BW.out.trans (hX.mono hsw), fun a => by first | exact h0 (by simpa using a) | rfl, fun a => by first | exact h1 (by simpa using a) | rfl, fun a => by first | exact h3 (by simpa using a) | rfl, fun _ => rfl, fun a => by first | exact h5 (by simpa using a) | rfl, fun a => by first | exact h6 (by simpa using a) | rfl⟩
      · refine wpOp_step (o := ?os15) ?hos15 (fun K hK => ?_)
        case hos15 => simp only [zge]; rfl
        refine step_loadW rfl 30 (.tmp 3) rfl w.heap.size 0 rfl RC _ Tryd.underlying30 rfl IR.out (BRT.out.below BW.out BRT.out.lt).cells (hK _ _ ?_)
        clear hK K
        try simp only [zpt]
        exact ⟨_, _, _, _, _, _, rfl, BW, fun a => by first | exact h0 (by simpa using a) | rfl, fun a => by first | exact h1 (by simpa using a) | rfl, fun a => by first | exact h3 (by simpa using a) | rfl, fun a => by first | exact h4 (by simpa using a) | rfl, fun _ => rfl, fun a => by first | exact h6 (by simpa using a) | rfl⟩
      · obtain rfl := h4 (hdeps 4 (by simp))
        obtain rfl := h5 (hdeps 5 (by simp))
        refine wpOp_step (o := ?os16) ?hos16 (fun K hK => ?_)
        case hos16 => simp only [zge]; rfl
        go_simp
        refine hK _ _ ?_
        clear hK K
        try simp only [zpt]
        exact ⟨_, _, _, _, _, _, rfl, BW, fun a => by first | exact h0 (by simpa using a) | rfl, fun a => by first | exact h1 (by simpa using a) | rfl, fun a => by first | exact h3 (by simpa using a) | rfl, fun a => by first | exact h4 (by simpa using a) | rfl, fun a => by first | exact h5 (by simpa using a) | rfl, fun _ => rfl⟩
    case fin10 =>
      intro a v10 hI
      obtain ⟨x56, x57, x59, x60, x61, x62, rfl, BW, h0, h1, h3, h4, h5, h6⟩ := hI
      obtain rfl := h0 (by decide)
      obtain rfl := h1 (by decide)
      obtain rfl := h3 (by decide)
      obtain rfl := h4 (by decide)
      obtain rfl := h5 (by decide)
      obtain rfl := h6 (by decide)
      have BRS9 := Lib.hid (BRS.out.below BW.out BRS.out.lt)
      have BPR9 := Lib.hid (BPR.out.below BW.out BPR.out.lt)
      have BLB9 := Lib.hid (BLB.out.below BW.out BLB.out.lt)
      have W8 := Lib.hid (W1.out.trans (BW.out.mono W1.out.size))
      clear BRT BLB BPR BRS BE W1 BW eq0
      try dsimp only
      refine wpAny_done (by kernel_rfl) ?_ _
      have p9 : v10.cell? ⟨w.heap.size + 1 + 1, 1, none⟩ = some (.bool false) := BPR9.out.cell 1
      go_wp2_with (first
        | (with_reducible refine build_law rfl 30 #[] rfl EC (by simp only [List.map_toArray, List.map_nil]; exact BZ0.out) ?_)
        | ((with_reducible refine storeGen_law rfl 30 (.tmp 6) (.tmp 63) rfl (w.heap.size + 1 + 1 + 1) rfl EC rfl 30 EC IZ.out rfl OZ.out w.heap.size w BRS9.out W8.out hle ?_); intro w9 B9 W9))
      exact bodyPost_ret (results_row_tmp2 rfl _ _ (w.heap.size + 1 + 1 + 1) 30 EC.toArray (0, 0) _ _ _ rfl rfl rfl B9.out Tryd.underlying30 rfl (by rw [IZ.out]; simp)) rfl ⟨by rw [HUB.out, HZM.out]; rfl, W9.out⟩
set_option maxRecDepth 100000 in
set_option maxHeartbeats 1000000 in
theorem rchk_has {w : World} {A : Option Addr} {n c : Nat} {sides : List (List UInt8)} (hr : Rd2 w 32 A n c (hashes sides)) (he : ∀ x ∈ sides, x.length = 32) {r0 k lab sum : List UInt8} (hr0 : r0.length = 32) (hk : k.length = 32) (hlab : lab.length = 32) (hsum : sum.length = 32) (hn : n ≤ 256) {b th : Bool} {res : List UInt8} (hbb : b = (Tm.shares lab k n && decide (Tm.up (Tm.leaf lab sum) k 0 sides = r0))) (hth : th = (b && decide (lab = k))) (hres : res = if th then sum else Tm.none32) : Calls Tryd.prog 23 #[hv r0, hv k, .agg (proofL (.slice A n c) true (lab.map cellOf) (sum.map cellOf)).toArray] w (ChkR w res th b) := by
  have HBB := Lib.hid hbb
  have HTH := Lib.hid hth
  have HRES := Lib.hid hres
  clear hbb hth hres
  have hln : sides.length = n := by rw [← hr.len]; simp [hashes]
  have HR := Lib.hid hr
  have HE := Lib.hid he
  have IR := Lib.hid (hash_info hr0)
  have IK := Lib.hid (hash_info hk)
  have IA := Lib.hid (hash_info hlab)
  have IS := Lib.hid (hash_info hsum)
  have IZ := Lib.hid zero_info
  have OZ := Lib.hid zero_one
  have BZ0 := Lib.hid zero_built
  have hzl : Tm.none32.length = 32 := rfl
  have EA := Lib.hid (hash_eq lab Tm.none32 hlab hzl)
  have ES := Lib.hid (hash_eq sum Tm.none32 hsum hzl)
  obtain ⟨w1, hw1⟩ : ∃ w1, w1 = (((w.alloc (.cells (r0.map cellOf).toArray 30)).alloc (.cells (k.map cellOf).toArray 30)).alloc (.cells (proofL (.slice A n c) true (lab.map cellOf) (sum.map cellOf)).toArray 38)).alloc (.cells (List.replicate 32 (Value.int .u8 0)).toArray 30) := ⟨_, rfl⟩
  have X1 : Hid (Below w.heap.size w w1) := by unfold Hid; rw [hw1]; exact ((((Below.refl _ _).alloc (Nat.le_refl _) _).alloc (by simp) _).alloc (by simp; omega) _).alloc (by simp; omega) _
  have BRT : Hid (Blk w1 w.heap.size 30 (r0.map cellOf)) := by unfold Hid; rw [hw1]; exact (((Blk.new w 30 _).alloc _).alloc _).alloc _
  have BLB : Hid (Blk w1 (w.heap.size + 1) 30 (k.map cellOf)) := by unfold Hid; rw [hw1]; exact ((Blk.at_new _ _ 30 _ _ rfl (by simp)).alloc _).alloc _
  have BPR : Hid (Blk w1 (w.heap.size + 1 + 1) 38 (proofL (.slice A n c) true (lab.map cellOf) (sum.map cellOf))) := by unfold Hid; rw [hw1]; exact (Blk.at_new _ _ 38 _ _ rfl (by simp)).alloc _
  have BRS : Hid (Blk w1 (w.heap.size + 1 + 1 + 1) 30 (List.replicate 32 (Value.int .u8 0))) := by unfold Hid; rw [hw1]; exact Blk.at_new _ _ 30 _ _ rfl (by simp)
  have R1 := Lib.hid (hr.below X1.out)
  have HZE : Hid (hv Tm.none32 = .agg (List.replicate 32 (Value.int .u8 0)).toArray) := rfl
  have hzm : Tm.none32.map cellOf = (List.replicate 32 (Value.int .u8 0)) := rfl
  rw [hzm] at EA ES
  obtain ⟨Z, hZ⟩ : ∃ Z, Z = List.replicate 32 (Value.int .u8 0) := ⟨_, rfl⟩
  have HZV : Hid (hv Tm.none32 = .agg Z.toArray) := by unfold Hid; rw [hZ]; rfl
  have HZM : Hid (Tm.none32.map cellOf = Z) := by unfold Hid; rw [hZ]; rfl
  have HZL : Hid (Z.length = 32) := by unfold Hid; rw [hZ]; rfl
  rw [← hZ] at IZ OZ BZ0 EA ES BRS
  have hle : w.heap.size ≤ w.heap.size + 1 + 1 + 1 := by omega
  have HAL : Hid ((lab.map cellOf).length = 32) := by unfold Hid; rw [List.length_map, hlab]
  have HSL : Hid ((sum.map cellOf).length = 32) := by unfold Hid; rw [List.length_map, hsum]
  unfold ChkR
  obtain ⟨RC, hRC⟩ : ∃ L, L = r0.map cellOf := ⟨_, rfl⟩
  obtain ⟨KC, hKC⟩ : ∃ L, L = k.map cellOf := ⟨_, rfl⟩
  obtain ⟨AC, hAC⟩ : ∃ L, L = lab.map cellOf := ⟨_, rfl⟩
  obtain ⟨SC, hSC⟩ : ∃ L, L = sum.map cellOf := ⟨_, rfl⟩
  have ERC := Lib.hid hRC
  have EKC := Lib.hid hKC
  have EAC := Lib.hid hAC
  have ESC := Lib.hid hSC
  rw [← hAC] at HAL IA EA BPR hw1 ⊢
  rw [← hSC] at HSL IS ES BPR hw1 ⊢
  rw [← hRC] at IR BRT hw1
  rw [← hKC] at IK BLB hw1
  unfold hv
  rw [← hRC, ← hKC]
  have LA1 := Lib.hid (proof_lab BPR.out HAL.out)
  have LS1 := Lib.hid (proof_sum BPR.out HAL.out)
  have p0 : w1.cell? ⟨w.heap.size + 1 + 1, 0, none⟩ = some (.slice A n c) := BPR.out.cell 0
  have p1 : w1.cell? ⟨w.heap.size + 1 + 1, 1, none⟩ = some (.bool true) := BPR.out.cell 1
  clear hr he hRC hKC hAC hSC
  go_enter Tryd.func23, Tryd.ntmps23
  go_upto_region 1 with (fail)
  change Code.wp _ _ _ _ ((((w.alloc (.cells RC.toArray 30)).alloc (.cells KC.toArray 30)).alloc (.cells (proofL (.slice A n c) true AC SC).toArray 38)).alloc (.cells (List.replicate 32 (Value.int .u8 0)).toArray 30))
  rw [← hw1]
  clear hZ hw1 hzm
  have hnb : decide ((256 : Int) < (n : Int)) = false := decide_eq_false (by omega)
  have htl := Tm.leaf_length lab sum
  have hul : (Tm.up (Tm.leaf lab sum) k 0 sides).length = 32 := Tm.up_length htl _ _
  have IE := Lib.hid (hash_info htl)
  have CU : Hid (∀ W, Below w.heap.size w W → Calls Tryd.prog 43 #[hv ((Tm.leaf lab sum)), hv k, .slice A n c] W fun e w' => e = .returned (hv (Tm.up (Tm.leaf lab sum) k 0 sides)) ∧ Below W.heap.size W w') := fun W hW => rup_any (HR.out.below hW) HE.out hn htl hk
  have EU := Lib.hid (hash_eq (Tm.up (Tm.leaf lab sum) k 0 sides) r0 hul hr0)
  unfold hv at CU
  obtain ⟨EC, hEC⟩ : ∃ L, L = ((Tm.leaf lab sum)).map cellOf := ⟨_, rfl⟩
  obtain ⟨UC, hUC⟩ : ∃ L, L = (Tm.up (Tm.leaf lab sum) k 0 sides).map cellOf := ⟨_, rfl⟩
  have EEC := Lib.hid hEC
  rw [← hEC, ← hUC, ← EKC.out] at CU
  rw [← hEC] at IE
  rw [← hUC, ← ERC.out] at EU
  clear hEC hUC
  have CL : Hid (∀ W, Calls Tryd.prog 33 #[hv lab, hv sum] W fun e w' => e = .returned (hv (Tm.leaf lab sum)) ∧ Below W.heap.size W w') := fun W => rleaf_any hlab hsum
  have CBA : Hid (∀ (dp : Nat) (W : World), dp < 256 → Calls Tryd.prog 42 #[hv lab, .int .i64 (dp : Int)] W fun e w' => e = .returned (.int .i64 (bitI lab dp)) ∧ Below W.heap.size W w') := fun dp W hd => rbit_any hlab hd W
  have CBK : Hid (∀ (dp : Nat) (W : World), dp < 256 → Calls Tryd.prog 42 #[hv k, .int .i64 (dp : Int)] W fun e w' => e = .returned (.int .i64 (bitI k dp)) ∧ Below W.heap.size W w') := fun dp W hd => rbit_any hk hd W
  have EAK := Lib.hid (hash_eq lab k hlab hk)
  unfold hv at CL CBA CBK
  rw [← EAC.out] at CL CBA EAK
  rw [← ESC.out, ← EEC.out] at CL
  rw [← EKC.out] at CBK EAK
  have OE : Hid (∀ u ∈ EC, u.oneCell' = true) := by unfold Hid; rw [EEC.out]; exact cells_u8 _
  have OS : Hid (∀ u ∈ SC, u.oneCell' = true) := by unfold Hid; rw [ESC.out]; exact cells_u8 _
  have LE : Hid (Z.length = EC.length) := by unfold Hid; rw [EEC.out, List.length_map, htl, HZL.out]
  have LS : Hid (Z.length = SC.length) := by unfold Hid; rw [HSL.out, HZL.out]
  clear htl hul
  go_upto_region 3 with fail
  go_upto_region 4 with (fail)
  have BE0 : Hid (Blk (w1.alloc (.cells (List.replicate 32 (Value.int .u8 0)).toArray 30)) w1.heap.size 30 Z) := by
    have := Blk.new w1 30 (List.replicate 32 (Value.int .u8 0))
    rw [show (List.replicate 32 (Value.int .u8 0)) = Z from HZM.out] at this ⊢
    exact this
  have X2 := Lib.hid (alloc_below w1 (.cells (List.replicate 32 (Value.int .u8 0)).toArray 30))
  have hb3 := BRS.out.lt
  replace BRT := Lib.hid (BRT.out.below X2.out BRT.out.lt)
  replace BLB := Lib.hid (BLB.out.below X2.out BLB.out.lt)
  replace BPR := Lib.hid (BPR.out.below X2.out BPR.out.lt)
  replace BRS := Lib.hid (BRS.out.below X2.out BRS.out.lt)
  have W1 := Lib.hid (X1.out.trans (X2.out.mono X1.out.size))
  change Code.wp _ _ _ _ (w1.alloc (.cells (List.replicate 32 (Value.int .u8 0)).toArray 30))
  generalize w1.alloc (.cells (List.replicate 32 (Value.int .u8 0)).toArray 30) = w2 at *
  clear p0 p1 LA1 LS1 R1
  have p2 : w2.cell? ⟨w.heap.size + 1 + 1, 1, none⟩ = some (.bool true) := BPR.out.cell 1
  have LA2 := Lib.hid (proof_lab BPR.out HAL.out)
  have LS2 := Lib.hid (proof_sum BPR.out HAL.out)
  have hge := BE0.out.lt
  go_upto_region 6 with (first
    | (with_reducible refine load_law rfl 30 (.tmp 35) rfl (w.heap.size + 1 + 1) 2 rfl AC _ Tryd.underlying30 rfl IA.out LA2.out ?_)
    | (with_reducible refine load_law rfl 30 (.tmp 37) rfl (w.heap.size + 1 + 1) 34 rfl SC _ Tryd.underlying30 rfl IS.out LS2.out ?_)
    | (go_at_call 33; refine (CL.out w2).mono ?_; rintro e w3 ⟨rfl, hX⟩; have X3 := Lib.hid hX; clear hX; have BE3 := Lib.hid (BE0.out.below X3.out hge); have X3' := Lib.hid (X3.out.mono (Nat.le_of_lt hge)))
    | ((with_reducible refine storeGen_law rfl 30 (.tmp 9) (.tmp 39) rfl w1.heap.size rfl EC rfl 30 Z IE.out LE.out OE.out w1.heap.size w2 BE3.out X3'.out (Nat.le_refl _) ?_); intro w4 BE4 X4))
  have hx1 := X1.out.size
  have BRT4 := Lib.hid ((X4.out.block _ (by omega)).trans BRT.out)
  have BLB4 := Lib.hid ((X4.out.block _ (by omega)).trans BLB.out)
  have BPR4 := Lib.hid ((X4.out.block _ (by omega)).trans BPR.out)
  have BRS4 := Lib.hid ((X4.out.block _ (by omega)).trans BRS.out)
  have W4 := Lib.hid (W1.out.trans (X4.out.mono hx1))
  clear BRT BLB BPR BRS W1 X4 BE3 X3 X3' BE0 p2 LA2 LS2 X2 X1
  go_wp2_with fail
  go_loopw [10] (fun i wr => ∃ m : Nat, m ≤ n ∧ i = .int .i64 (m : Int) ∧ Hid (∀ j, j < m → Tm.bit lab j = Tm.bit k j) ∧ Hid (Blk wr w.heap.size 30 RC) ∧ Hid (Blk wr (w.heap.size + 1) 30 KC) ∧ Hid (Blk wr (w.heap.size + 1 + 1) 38 (proofL (.slice A n c) true AC SC)) ∧ Hid (Blk wr (w.heap.size + 1 + 1 + 1) 30 Z) ∧ Hid (Blk wr w1.heap.size 30 EC) ∧ Hid (Below w.heap.size w wr)) (fun i _ => n - (intOf i).toNat)
  case atStart => exact ⟨0, Nat.zero_le _, rfl, fun j hj => absurd hj (Nat.not_lt_zero j), BRT4, BLB4, BPR4, BRS4, BE4, W4⟩
  case round =>
    clear hge BRT4 BLB4 BPR4 BRS4 BE4 W4 w4 w3 w2
    obtain ⟨m, hm, rfl, HSH, BRT, BLB, BPR, BRS, BE, W1⟩ := hrel
    have p0 : wr.cell? ⟨w.heap.size + 1 + 1, 0, none⟩ = some (.slice A n c) := BPR.out.cell 0
    by_cases hmn : m < n
    · have hlb : decide ((m : Int) < (n : Int)) = true := by simp; omega
      have C1 := Lib.hid fun W => CBA.out m W (by omega)
      have C2 := Lib.hid fun W => CBK.out m W (by omega)
      go_upto_region 9 with (fail)
      clear p0 hlb
      replace BRT := Lib.hid BRT.out.drew
      replace BLB := Lib.hid BLB.out.drew
      replace BPR := Lib.hid BPR.out.drew
      replace BRS := Lib.hid BRS.out.drew
      replace BE := Lib.hid BE.out.drew
      replace W1 := Lib.hid W1.out.drew
      refine wp_region_any (by kernel_rfl) ?_
      change wpAny _ _ _ _ _ _ _ (World.drew _)
      generalize wr.drew = wd at *
      have LAD := Lib.hid fun (W : World) (h : Blk W (w.heap.size + 1 + 1) 38 (proofL (.slice A n c) true AC SC)) => proof_lab h HAL.out
      obtain ⟨x1, hx1'⟩ : ∃ z, z = bitI lab m := ⟨_, rfl⟩
      obtain ⟨x2, hx2'⟩ : ∃ z, z = bitI k m := ⟨_, rfl⟩
      have HX1 := Lib.hid hx1'
      have HX2 := Lib.hid hx2'
      rw [← hx1'] at C1
      rw [← hx2'] at C2
      clear hx1' hx2'
      by_cases hbe : Tm.bit lab m = Tm.bit k m
      · obtain rfl : x1 = x2 := by rw [HX1.out, HX2.out]; unfold bitI; rw [hbe]
        have HSH' : Hid (∀ j, j < m + 1 → Tm.bit lab j = Tm.bit k j) := fun j hj => by
          rcases Nat.lt_or_ge j m with h | h
          · exact HSH.out j h
          · rw [show j = m by omega]; exact hbe
        clear hbe HX1 HX2
        refine wpAny_take (i := 0) (oi := ?oi33) (v := .pointer (some ⟨w.heap.size + 1 + 1, 2, none⟩)) ?hi33 (by kernel_rfl) (by kernel_rfl) (by kernel_rfl) ?hQ33 ?hy33 ?rest33
        case hi33 => simp only [zge]; rfl
        case hQ33 => exact fun _ _ _ h => h
        case hy33 => exact Or.inl ⟨by rfl, by intro w; go_simp⟩
        try simp only [zpt]
        refine wpAny_take (i := 2) (oi := ?oi34) (v := .int .i64 (m : Int)) ?hi34 (by kernel_rfl) (by kernel_rfl) (by kernel_rfl) ?hQ34 ?hy34 ?rest34
        case hi34 => simp only [zge]; rfl
        case hQ34 => exact fun _ _ _ h => h
        case hy34 => exact Or.inl ⟨by rfl, by intro w; go_simp⟩
        try simp only [zpt]
        refine wpAny_take (i := 5) (oi := ?oi35) (v := .int .i64 (m : Int)) ?hi35 (by kernel_rfl) (by kernel_rfl) (by kernel_rfl) ?hQ35 ?hy35 ?rest35
        case hi35 => simp only [zge]; rfl
        case hQ35 => exact fun _ _ _ h => h
        case hy35 => exact Or.inl ⟨by rfl, by intro w; go_simp⟩
        try simp only [zpt]
        refine phaseL (fun i => if i = 3 then [1] else if i = 6 then [4, 3] else if i = 7 then [3, 6] else []) (fun d a w' => ∃ x48 x50 x51 x53 x54 : Value, a = { tmps := #[.agg RC.toArray, .agg KC.toArray, .agg (proofL (.slice A n c) true AC SC).toArray, .pointer (some ⟨w.heap.size, 0, none⟩), .pointer (some ⟨w.heap.size + 1, 0, none⟩), .pointer (some ⟨w.heap.size + 1 + 1, 0, none⟩), .pointer (some ⟨w.heap.size + 1 + 1 + 1, 0, none⟩), u7, u8, .pointer (some ⟨w1.heap.size, 0, none⟩), .int .i64 (m : Int), .pointer (some ⟨w.heap.size + 1 + 1, 0, none⟩), .slice A n c, .int .i64 (n : Int), .bool false, .bool false, .pointer (some ⟨w.heap.size + 1 + 1, 1, none⟩), .bool true, .bool false, .bool false, undef, undef, undef, undef, undef, undef, undef, undef, undef, undef, .bool false, .bool false, undef, .pointer (some ⟨w.heap.size + 1 + 1, 1, none⟩), .bool true, .pointer (some ⟨w.heap.size + 1 + 1, 2, none⟩), .agg AC.toArray, .pointer (some ⟨w.heap.size + 1 + 1, 34, none⟩), .agg SC.toArray, .agg EC.toArray, .int .i64 (m : Int), .pointer (some ⟨w.heap.size + 1 + 1, 0, none⟩), .slice A n c, .int .i64 (n : Int), .bool true, u45, u46, .pointer (some ⟨w.heap.size + 1 + 1, 2, none⟩), x48, .int .i64 (m : Int), x50, x51, .int .i64 (m : Int), x53, x54, u55, undef, undef, undef, undef, undef, undef, undef, undef, undef, undef, undef, undef, undef, undef, undef, undef, undef, undef, undef], defers := [] } ∧ Hid (Below wd.heap.size wd w') ∧ (d 1 = true → x48 = .agg AC.toArray) ∧ (d 3 = true → x50 = .int .i64 x1) ∧ (d 4 = true → x51 = .agg KC.toArray) ∧ (d 6 = true → x53 = .int .i64 x1) ∧ (d 7 = true → x54 = .bool false)) [1, 3, 4, 6, 7] ?step36 0 5 [1, 3, 4, 6, 7] _ _ _ rfl (by decide) (fun _ h => h) (Fits.of (by kernel_rfl)) ?init36 ?fin36
        case init36 => refine ⟨_, _, _, _, _, rfl, Below.refl _ _, ?_, ?_, ?_, ?_, ?_⟩ <;> (intro h; exact absurd h (by decide))
        case step36 =>
          intro i hi d a v36 hI hdi hdeps
          obtain ⟨x48, x50, x51, x53, x54, rfl, BW, h1, h3, h4, h6, h7⟩ := hI
          have hsw := BW.out.size
          simp only [List.mem_cons, List.not_mem_nil, or_false] at hi
          rcases hi with rfl | rfl | rfl | rfl | rfl
          · refine wpOp_step (o := ?os37) ?hos37 (fun K hK => ?_)
            case hos37 => simp only [zge]; rfl
            refine step_loadW rfl 30 (.tmp 47) rfl (w.heap.size + 1 + 1) 2 rfl AC _ Tryd.underlying30 rfl IA.out (LAD.out v36 (BPR.out.below BW.out BPR.out.lt)) (hK _ _ ?_)
            clear hK K
            try simp only [zpt]
            exact ⟨_, _, _, _, _, rfl, BW, fun _ => rfl, fun a => by first | exact h3 (by simpa using a) | rfl, fun a => by first | exact h4 (by simpa using a) | rfl, fun a => by first | exact h6 (by simpa using a) | rfl, fun a => by first | exact h7 (by simpa using a) | rfl⟩
          · obtain rfl := h1 (hdeps 1 (by simp))
            refine wpOp_step (o := ?os38) ?hos38 (fun K hK => ?_)
            case hos38 => simp only [zge]; rfl
            go_simp
            refine (C1.out v36).mono ?_
            rintro e u36 ⟨rfl, hX⟩
            refine hK _ _ ?_
            clear hK K
            try simp only [zpt]
            exact ⟨_, _, _, _, _, rfl, BW.out.trans (hX.mono hsw), fun a => by first | exact h1 (by simpa using a) | rfl, fun _ => rfl, fun a => by first | exact h4 (by simpa using a) | rfl, fun a => by first | exact h6 (by simpa using a) | rfl, fun a => by first | exact h7 (by simpa using a) | rfl⟩
          · refine wpOp_step (o := ?os39) ?hos39 (fun K hK => ?_)
            case hos39 => simp only [zge]; rfl
            refine step_loadW rfl 30 (.tmp 4) rfl (w.heap.size + 1) 0 rfl KC _ Tryd.underlying30 rfl IK.out (BLB.out.below BW.out BLB.out.lt).cells (hK _ _ ?_)
            clear hK K
            try simp only [zpt]
            exact ⟨_, _, _, _, _, rfl, BW, fun a => by first | exact h1 (by simpa using a) | rfl, fun a => by first | exact h3 (by simpa using a) | rfl, fun _ => rfl, fun a => by first | exact h6 (by simpa using a) | rfl, fun a => by first | exact h7 (by simpa using a) | rfl⟩
          · obtain rfl := h4 (hdeps 4 (by simp))
            refine wpOp_step (o := ?os40) ?hos40 (fun K hK => ?_)
            case hos40 => simp only [zge]; rfl
            go_simp
            refine (C2.out v36).mono ?_
            rintro e u36 ⟨rfl, hX⟩
            refine hK _ _ ?_
            clear hK K
            try simp only [zpt]
            exact ⟨_, _, _, _, _, rfl, BW.out.trans (hX.mono hsw), fun a => by first | exact h1 (by simpa using a) | rfl, fun a => by first | exact h3 (by simpa using a) | rfl, fun a => by first | exact h4 (by simpa using a) | rfl, fun _ => rfl, fun a => by first | exact h7 (by simpa using a) | rfl⟩
          · obtain rfl := h3 (hdeps 3 (by simp))
            obtain rfl := h6 (hdeps 6 (by simp))
            refine wpOp_step (o := ?os41) ?hos41 (fun K hK => ?_)
            case hos41 => simp only [zge]; rfl
            go_simp
            refine hK _ _ ?_
            clear hK K
            try simp only [zpt]
            exact ⟨_, _, _, _, _, rfl, BW, fun a => by first | exact h1 (by simpa using a) | rfl, fun a => by first | exact h3 (by simpa using a) | rfl, fun a => by first | exact h4 (by simpa using a) | rfl, fun a => by first | exact h6 (by simpa using a) | rfl, fun _ => rfl⟩
        case fin36 =>
          intro a v36 hI
          obtain ⟨x48, x50, x51, x53, x54, rfl, BW, h1, h3, h4, h6, h7⟩ := hI
          obtain rfl := h1 (by decide)
          obtain rfl := h3 (by decide)
          obtain rfl := h4 (by decide)
          obtain rfl := h6 (by decide)
          obtain rfl := h7 (by decide)
          have BRT9 := Lib.hid (BRT.out.below BW.out BRT.out.lt)
          have BLB9 := Lib.hid (BLB.out.below BW.out BLB.out.lt)
          have BPR9 := Lib.hid (BPR.out.below BW.out BPR.out.lt)
          have BRS9 := Lib.hid (BRS.out.below BW.out BRS.out.lt)
          have BE9 := Lib.hid (BE.out.below BW.out BE.out.lt)
          have W9' := Lib.hid (W1.out.trans (BW.out.mono W1.out.size))
          clear BRT BLB BPR BRS BE W1 BW C1 C2 LAD
          try dsimp only
          refine wpAny_done (by kernel_rfl) ?_ _
          go_wp2_with fail
          go_roundw
          case rel => exact ⟨m + 1, by omega, by go_num, HSH', BRT9, BLB9, BPR9, BRS9, BE9, W9'⟩
          case measure => simp [intOf]; omega
      · have hxn : ¬ x1 = x2 := by
          rw [HX1.out, HX2.out]
          unfold bitI
          cases h1 : Tm.bit lab m <;> cases h2 : Tm.bit k m <;> simp_all
        have hxb : (x1 != x2) = true := by simpa using hxn
        have HG : Hid (Tm.shares lab k n = false) := by
          unfold Hid
          cases h : Tm.shares lab k n with
          | false => rfl
          | true => exact absurd (Tm.shares_iff.1 h m hmn) hbe
        clear hbe HX1 HX2 hxn
        refine wpAny_take (i := 0) (oi := ?oi42) (v := .pointer (some ⟨w.heap.size + 1 + 1, 2, none⟩)) ?hi42 (by kernel_rfl) (by kernel_rfl) (by kernel_rfl) ?hQ42 ?hy42 ?rest42
        case hi42 => simp only [zge]; rfl
        case hQ42 => exact fun _ _ _ h => h
        case hy42 => exact Or.inl ⟨by rfl, by intro w; go_simp⟩
        try simp only [zpt]
        refine wpAny_take (i := 2) (oi := ?oi43) (v := .int .i64 (m : Int)) ?hi43 (by kernel_rfl) (by kernel_rfl) (by kernel_rfl) ?hQ43 ?hy43 ?rest43
        case hi43 => simp only [zge]; rfl
        case hQ43 => exact fun _ _ _ h => h
        case hy43 => exact Or.inl ⟨by rfl, by intro w; go_simp⟩
        try simp only [zpt]
        refine wpAny_take (i := 5) (oi := ?oi44) (v := .int .i64 (m : Int)) ?hi44 (by kernel_rfl) (by kernel_rfl) (by kernel_rfl) ?hQ44 ?hy44 ?rest44
        case hi44 => simp only [zge]; rfl
        case hQ44 => exact fun _ _ _ h => h
        case hy44 => exact Or.inl ⟨by rfl, by intro w; go_simp⟩
        try simp only [zpt]
        refine phaseL (fun i => if i = 3 then [1] else if i = 6 then [4, 3] else if i = 7 then [3, 6] else []) (fun d a w' => ∃ x48 x50 x51 x53 x54 : Value, a = { tmps := #[.agg RC.toArray, .agg KC.toArray, .agg (proofL (.slice A n c) true AC SC).toArray, .pointer (some ⟨w.heap.size, 0, none⟩), .pointer (some ⟨w.heap.size + 1, 0, none⟩), .pointer (some ⟨w.heap.size + 1 + 1, 0, none⟩), .pointer (some ⟨w.heap.size + 1 + 1 + 1, 0, none⟩), u7, u8, .pointer (some ⟨w1.heap.size, 0, none⟩), .int .i64 (m : Int), .pointer (some ⟨w.heap.size + 1 + 1, 0, none⟩), .slice A n c, .int .i64 (n : Int), .bool false, .bool false, .pointer (some ⟨w.heap.size + 1 + 1, 1, none⟩), .bool true, .bool false, .bool false, undef, undef, undef, undef, undef, undef, undef, undef, undef, undef, .bool false, .bool false, undef, .pointer (some ⟨w.heap.size + 1 + 1, 1, none⟩), .bool true, .pointer (some ⟨w.heap.size + 1 + 1, 2, none⟩), .agg AC.toArray, .pointer (some ⟨w.heap.size + 1 + 1, 34, none⟩), .agg SC.toArray, .agg EC.toArray, .int .i64 (m : Int), .pointer (some ⟨w.heap.size + 1 + 1, 0, none⟩), .slice A n c, .int .i64 (n : Int), .bool true, u45, u46, .pointer (some ⟨w.heap.size + 1 + 1, 2, none⟩), x48, .int .i64 (m : Int), x50, x51, .int .i64 (m : Int), x53, x54, u55, undef, undef, undef, undef, undef, undef, undef, undef, undef, undef, undef, undef, undef, undef, undef, undef, undef, undef, undef], defers := [] } ∧ Hid (Below wd.heap.size wd w') ∧ (d 1 = true → x48 = .agg AC.toArray) ∧ (d 3 = true → x50 = .int .i64 x1) ∧ (d 4 = true → x51 = .agg KC.toArray) ∧ (d 6 = true → x53 = .int .i64 x2) ∧ (d 7 = true → x54 = .bool true)) [1, 3, 4, 6, 7] ?step45 0 5 [1, 3, 4, 6, 7] _ _ _ rfl (by decide) (fun _ h => h) (Fits.of (by kernel_rfl)) ?init45 ?fin45
        case init45 => refine ⟨_, _, _, _, _, rfl, Below.refl _ _, ?_, ?_, ?_, ?_, ?_⟩ <;> (intro h; exact absurd h (by decide))
        case step45 =>
          intro i hi d a v45 hI hdi hdeps
          obtain ⟨x48, x50, x51, x53, x54, rfl, BW, h1, h3, h4, h6, h7⟩ := hI
          have hsw := BW.out.size
          simp only [List.mem_cons, List.not_mem_nil, or_false] at hi
          rcases hi with rfl | rfl | rfl | rfl | rfl
          · refine wpOp_step (o := ?os46) ?hos46 (fun K hK => ?_)
            case hos46 => simp only [zge]; rfl
            refine step_loadW rfl 30 (.tmp 47) rfl (w.heap.size + 1 + 1) 2 rfl AC _ Tryd.underlying30 rfl IA.out (LAD.out v45 (BPR.out.below BW.out BPR.out.lt)) (hK _ _ ?_)
            clear hK K
            try simp only [zpt]
            exact ⟨_, _, _, _, _, rfl, BW, fun _ => rfl, fun a => by first | exact h3 (by simpa using a) | rfl, fun a => by first | exact h4 (by simpa using a) | rfl, fun a => by first | exact h6 (by simpa using a) | rfl, fun a => by first | exact h7 (by simpa using a) | rfl⟩
          · obtain rfl := h1 (hdeps 1 (by simp))
            refine wpOp_step (o := ?os47) ?hos47 (fun K hK => ?_)
            case hos47 => simp only [zge]; rfl
            go_simp
            refine (C1.out v45).mono ?_
            rintro e u45 ⟨rfl, hX⟩
            refine hK _ _ ?_
            clear hK K
            try simp only [zpt]
            exact ⟨_, _, _, _, _, rfl, BW.out.trans (hX.mono hsw), fun a => by first | exact h1 (by simpa using a) | rfl, fun _ => rfl, fun a => by first | exact h4 (by simpa using a) | rfl, fun a => by first | exact h6 (by simpa using a) | rfl, fun a => by first | exact h7 (by simpa using a) | rfl⟩
          · refine wpOp_step (o := ?os48) ?hos48 (fun K hK => ?_)
            case hos48 => simp only [zge]; rfl
            refine step_loadW rfl 30 (.tmp 4) rfl (w.heap.size + 1) 0 rfl KC _ Tryd.underlying30 rfl IK.out (BLB.out.below BW.out BLB.out.lt).cells (hK _ _ ?_)
            clear hK K
            try simp only [zpt]
            exact ⟨_, _, _, _, _, rfl, BW, fun a => by first | exact h1 (by simpa using a) | rfl, fun a => by first | exact h3 (by simpa using a) | rfl, fun _ => rfl, fun a => by first | exact h6 (by simpa using a) | rfl, fun a => by first | exact h7 (by simpa using a) | rfl⟩
          · obtain rfl := h4 (hdeps 4 (by simp))
            refine wpOp_step (o := ?os49) ?hos49 (fun K hK => ?_)
            case hos49 => simp only [zge]; rfl
            go_simp
            refine (C2.out v45).mono ?_
            rintro e u45 ⟨rfl, hX⟩
            refine hK _ _ ?_
            clear hK K
            try simp only [zpt]
            exact ⟨_, _, _, _, _, rfl, BW.out.trans (hX.mono hsw), fun a => by first | exact h1 (by simpa using a) | rfl, fun a => by first | exact h3 (by simpa using a) | rfl, fun a => by first | exact h4 (by simpa using a) | rfl, fun _ => rfl, fun a => by first | exact h7 (by simpa using a) | rfl⟩
          · obtain rfl := h3 (hdeps 3 (by simp))
            obtain rfl := h6 (hdeps 6 (by simp))
            refine wpOp_step (o := ?os50) ?hos50 (fun K hK => ?_)
            case hos50 => simp only [zge]; rfl
            go_simp
            refine hK _ _ ?_
            clear hK K
            try simp only [zpt]
            exact ⟨_, _, _, _, _, rfl, BW, fun a => by first | exact h1 (by simpa using a) | rfl, fun a => by first | exact h3 (by simpa using a) | rfl, fun a => by first | exact h4 (by simpa using a) | rfl, fun a => by first | exact h6 (by simpa using a) | rfl, fun _ => rfl⟩
        case fin45 =>
          intro a v45 hI
          obtain ⟨x48, x50, x51, x53, x54, rfl, BW, h1, h3, h4, h6, h7⟩ := hI
          obtain rfl := h1 (by decide)
          obtain rfl := h3 (by decide)
          obtain rfl := h4 (by decide)
          obtain rfl := h6 (by decide)
          obtain rfl := h7 (by decide)
          have BRT9 := Lib.hid (BRT.out.below BW.out BRT.out.lt)
          have BLB9 := Lib.hid (BLB.out.below BW.out BLB.out.lt)
          have BPR9 := Lib.hid (BPR.out.below BW.out BPR.out.lt)
          have BRS9 := Lib.hid (BRS.out.below BW.out BRS.out.lt)
          have BE9 := Lib.hid (BE.out.below BW.out BE.out.lt)
          have W9' := Lib.hid (W1.out.trans (BW.out.mono W1.out.size))
          clear BRT BLB BPR BRS BE W1 BW C1 C2 LAD
          try dsimp only
          refine wpAny_done (by kernel_rfl) ?_ _
          go_wp2_with (first
            | (with_reducible refine build_law rfl 30 #[] rfl Z (by simp only [List.map_toArray, List.map_nil]; exact BZ0.out) ?_)
            | ((with_reducible refine storeGen_law rfl 30 (.tmp 6) (.tmp 55) rfl (w.heap.size + 1 + 1 + 1) rfl Z rfl 30 Z IZ.out rfl OZ.out w.heap.size w BRS9.out W9'.out hle ?_); intro w9 B9 W9))
          have eb : b = false := by rw [HBB.out, HG.out]; rfl
          have eth : th = false := by rw [HTH.out, eb]; rfl
          have eres : res = Tm.none32 := by rw [HRES.out, eth]; rfl
          exact bodyPost_ret (results_row_tmp2 rfl _ _ (w.heap.size + 1 + 1 + 1) 30 Z.toArray (0, 0) _ _ _ rfl rfl rfl B9.out Tryd.underlying30 rfl (by rw [IZ.out]; simp)) rfl ⟨by rw [eres, eth, eb, ← HZM.out]; rfl, W9.out⟩
    · obtain rfl : m = n := by omega
      have hlb : decide ((m : Int) < (m : Int)) = false := by simp
      have HG : Hid (Tm.shares lab k m = true) := Tm.shares_iff.2 HSH.out
      go_upto_region 11 with (fail)
      clear p0 hlb
      by_cases hu : Tm.up (Tm.leaf lab sum) k 0 sides = r0
      · have eq0 := EU.out
        rw [decide_eq_true hu] at eq0
        have HUB : Hid (decide (Tm.up (Tm.leaf lab sum) k 0 sides = r0) = true) := decide_eq_true hu
        clear EU hu
        replace BRT := Lib.hid BRT.out.drew
        replace BLB := Lib.hid BLB.out.drew
        replace BPR := Lib.hid BPR.out.drew
        replace BRS := Lib.hid BRS.out.drew
        replace BE := Lib.hid BE.out.drew
        replace W1 := Lib.hid W1.out.drew
        refine wp_region_any (by kernel_rfl) ?_
        change wpAny _ _ _ _ _ _ _ (World.drew _)
        generalize wr.drew = wd at *
        refine wpAny_take (i := 2) (oi := ?oi17) (v := .pointer (some ⟨w.heap.size + 1 + 1, 0, none⟩)) ?hi17 (by kernel_rfl) (by kernel_rfl) (by kernel_rfl) ?hQ17 ?hy17 ?rest17
        case hi17 => simp only [zge]; rfl
        case hQ17 => exact fun _ _ _ h => h
        case hy17 => exact Or.inl ⟨by rfl, by intro w; go_simp⟩
        try simp only [zpt]
        refine phaseL (fun i => if i = 4 then [0, 1, 3] else if i = 6 then [4, 5] else []) (fun d a w' => ∃ x56 x57 x59 x60 x61 x62 : Value, a = { tmps := #[.agg RC.toArray, .agg KC.toArray, .agg (proofL (.slice A m c) true AC SC).toArray, .pointer (some ⟨w.heap.size, 0, none⟩), .pointer (some ⟨w.heap.size + 1, 0, none⟩), .pointer (some ⟨w.heap.size + 1 + 1, 0, none⟩), .pointer (some ⟨w.heap.size + 1 + 1 + 1, 0, none⟩), u7, u8, .pointer (some ⟨w1.heap.size, 0, none⟩), .int .i64 (m : Int), .pointer (some ⟨w.heap.size + 1 + 1, 0, none⟩), .slice A m c, .int .i64 (m : Int), .bool false, .bool false, .pointer (some ⟨w.heap.size + 1 + 1, 1, none⟩), .bool true, .bool false, .bool false, undef, undef, undef, undef, undef, undef, undef, undef, undef, undef, .bool false, .bool false, undef, .pointer (some ⟨w.heap.size + 1 + 1, 1, none⟩), .bool true, .pointer (some ⟨w.heap.size + 1 + 1, 2, none⟩), .agg AC.toArray, .pointer (some ⟨w.heap.size + 1 + 1, 34, none⟩), .agg SC.toArray, .agg EC.toArray, .int .i64 (m : Int), .pointer (some ⟨w.heap.size + 1 + 1, 0, none⟩), .slice A m c, .int .i64 (m : Int), .bool false, u45, u46, u47, u48, u49, u50, u51, u52, u53, u54, u55, x56, x57, .pointer (some ⟨w.heap.size + 1 + 1, 0, none⟩), x59, x60, x61, x62, undef, undef, undef, undef, undef, undef, undef, undef, undef, undef, undef, undef], defers := [] } ∧ Hid (Below wd.heap.size wd w') ∧ (d 0 = true → x56 = .agg EC.toArray) ∧ (d 1 = true → x57 = .agg KC.toArray) ∧ (d 3 = true → x59 = .slice A m c) ∧ (d 4 = true → x60 = .agg UC.toArray) ∧ (d 5 = true → x61 = .agg RC.toArray) ∧ (d 6 = true → x62 = .bool false)) [0, 1, 3, 4, 5, 6] ?step18 0 6 [0, 1, 3, 4, 5, 6] _ _ _ rfl (by decide) (fun _ h => h) (Fits.of (by kernel_rfl)) ?init18 ?fin18
        case init18 => refine ⟨_, _, _, _, _, _, rfl, Below.refl _ _, ?_, ?_, ?_, ?_, ?_, ?_⟩ <;> (intro h; exact absurd h (by decide))
        case step18 =>
          intro i hi d a v18 hI hdi hdeps
          obtain ⟨x56, x57, x59, x60, x61, x62, rfl, BW, h0, h1, h3, h4, h5, h6⟩ := hI
          have hsw := BW.out.size
          simp only [List.mem_cons, List.not_mem_nil, or_false] at hi
          rcases hi with rfl | rfl | rfl | rfl | rfl | rfl
          · refine wpOp_step (o := ?os19) ?hos19 (fun K hK => ?_)
            case hos19 => simp only [zge]; rfl
            refine step_loadW rfl 30 (.tmp 9) rfl w1.heap.size 0 rfl EC _ Tryd.underlying30 rfl IE.out (BE.out.below BW.out BE.out.lt).cells (hK _ _ ?_)
            clear hK K
            try simp only [zpt]
            exact ⟨_, _, _, _, _, _, rfl, BW, fun _ => rfl, fun a => by first | exact h1 (by simpa using a) | rfl, fun a => by first | exact h3 (by simpa using a) | rfl, fun a => by first | exact h4 (by simpa using a) | rfl, fun a => by first | exact h5 (by simpa using a) | rfl, fun a => by first | exact h6 (by simpa using a) | rfl⟩
          · refine wpOp_step (o := ?os20) ?hos20 (fun K hK => ?_)
            case hos20 => simp only [zge]; rfl
            refine step_loadW rfl 30 (.tmp 4) rfl (w.heap.size + 1) 0 rfl KC _ Tryd.underlying30 rfl IK.out (BLB.out.below BW.out BLB.out.lt).cells (hK _ _ ?_)
            clear hK K
            try simp only [zpt]
            exact ⟨_, _, _, _, _, _, rfl, BW, fun a => by first | exact h0 (by simpa using a) | rfl, fun _ => rfl, fun a => by first | exact h3 (by simpa using a) | rfl, fun a => by first | exact h4 (by simpa using a) | rfl, fun a => by first | exact h5 (by simpa using a) | rfl, fun a => by first | exact h6 (by simpa using a) | rfl⟩
          · have c0 : v18.cell? ⟨w.heap.size + 1 + 1, 0, none⟩ = some (.slice A m c) := (BPR.out.below BW.out BPR.out.lt).cell 0
            refine wpOp_step (o := ?os21) ?hos21 (fun K hK => ?_)
            case hos21 => simp only [zge]; rfl
            go_simp
            refine hK _ _ ?_
            clear hK K
            try simp only [zpt]
            exact ⟨_, _, _, _, _, _, rfl, BW, fun a => by first | exact h0 (by simpa using a) | rfl, fun a => by first | exact h1 (by simpa using a) | rfl, fun _ => rfl, fun a => by first | exact h4 (by simpa using a) | rfl, fun a => by first | exact h5 (by simpa using a) | rfl, fun a => by first | exact h6 (by simpa using a) | rfl⟩
          · obtain rfl := h0 (hdeps 0 (by simp))
            obtain rfl := h1 (hdeps 1 (by simp))
            obtain rfl := h3 (hdeps 3 (by simp))
            refine wpOp_step (o := ?os22) ?hos22 (fun K hK => ?_)
            case hos22 => simp only [zge]; rfl
            go_simp
            refine (CU.out v18 (W1.out.trans (BW.out.mono W1.out.size))).mono ?_
            rintro e u18 ⟨rfl, hX⟩
            refine hK _ _ ?_
            clear hK K
            try simp only [zpt]
            exact ⟨_, _, _, _, _, _, rfl, BW.out.trans (hX.mono hsw), fun a => by first | exact h0 (by simpa using a) | rfl, fun a => by first | exact h1 (by simpa using a) | rfl, fun a => by first | exact h3 (by simpa using a) | rfl, fun _ => rfl, fun a => by first | exact h5 (by simpa using a) | rfl, fun a => by first | exact h6 (by simpa using a) | rfl⟩
          · refine wpOp_step (o := ?os23) ?hos23 (fun K hK => ?_)
            case hos23 => simp only [zge]; rfl
            refine step_loadW rfl 30 (.tmp 3) rfl w.heap.size 0 rfl RC _ Tryd.underlying30 rfl IR.out (BRT.out.below BW.out BRT.out.lt).cells (hK _ _ ?_)
            clear hK K
            try simp only [zpt]
            exact ⟨_, _, _, _, _, _, rfl, BW, fun a => by first | exact h0 (by simpa using a) | rfl, fun a => by first | exact h1 (by simpa using a) | rfl, fun a => by first | exact h3 (by simpa using a) | rfl, fun a => by first | exact h4 (by simpa using a) | rfl, fun _ => rfl, fun a => by first | exact h6 (by simpa using a) | rfl⟩
          · obtain rfl := h4 (hdeps 4 (by simp))
            obtain rfl := h5 (hdeps 5 (by simp))
            refine wpOp_step (o := ?os24) ?hos24 (fun K hK => ?_)
            case hos24 => simp only [zge]; rfl
            go_simp
            refine hK _ _ ?_
            clear hK K
            try simp only [zpt]
            exact ⟨_, _, _, _, _, _, rfl, BW, fun a => by first | exact h0 (by simpa using a) | rfl, fun a => by first | exact h1 (by simpa using a) | rfl, fun a => by first | exact h3 (by simpa using a) | rfl, fun a => by first | exact h4 (by simpa using a) | rfl, fun a => by first | exact h5 (by simpa using a) | rfl, fun _ => rfl⟩
        case fin18 =>
          intro a v18 hI
          obtain ⟨x56, x57, x59, x60, x61, x62, rfl, BW, h0, h1, h3, h4, h5, h6⟩ := hI
          obtain rfl := h0 (by decide)
          obtain rfl := h1 (by decide)
          obtain rfl := h3 (by decide)
          obtain rfl := h4 (by decide)
          obtain rfl := h5 (by decide)
          obtain rfl := h6 (by decide)
          have BRS9 := Lib.hid (BRS.out.below BW.out BRS.out.lt)
          have BPR9 := Lib.hid (BPR.out.below BW.out BPR.out.lt)
          have BLB9 := Lib.hid (BLB.out.below BW.out BLB.out.lt)
          have W8 := Lib.hid (W1.out.trans (BW.out.mono W1.out.size))
          clear BRT BLB BPR BRS BE W1 BW eq0
          try dsimp only
          refine wpAny_done (by kernel_rfl) ?_ _
          have p9 : v18.cell? ⟨w.heap.size + 1 + 1, 1, none⟩ = some (.bool true) := BPR9.out.cell 1
          have LA9 := Lib.hid (proof_lab BPR9.out HAL.out)
          have LS9 := Lib.hid (proof_sum BPR9.out HAL.out)
          by_cases hak : lab = k
          · have ek := EAK.out
            rw [decide_eq_true hak] at ek
            have HAK : Hid (decide (lab = k) = true) := decide_eq_true hak
            clear EAK hak
            go_wp2_with (first
              | (with_reducible refine load_when (by kernel_rfl) 30 (.tmp 67) rfl (w.heap.size + 1 + 1) 2 rfl AC _ Tryd.underlying30 rfl IA.out LA9.out ?_)
              | (with_reducible refine load_when (by kernel_rfl) 30 (.tmp 4) rfl (w.heap.size + 1) 0 rfl KC _ Tryd.underlying30 rfl IK.out BLB9.out.cells ?_)
              | (with_reducible refine load_law rfl 30 (.tmp 72) rfl (w.heap.size + 1 + 1) 34 rfl SC _ Tryd.underlying30 rfl IS.out LS9.out ?_)
              | ((with_reducible refine storeGen_law rfl 30 (.tmp 6) (.tmp 73) rfl (w.heap.size + 1 + 1 + 1) rfl SC rfl 30 Z IS.out LS.out OS.out w.heap.size w BRS9.out W8.out hle ?_); intro w9 B9 W9))
            have eb : b = true := by rw [HBB.out, HG.out, HUB.out]; rfl
            have eth : th = true := by rw [HTH.out, eb, HAK.out]; rfl
            have eres : res = sum := by rw [HRES.out, eth]; rfl
            exact bodyPost_ret (results_row_tmp2 rfl _ _ (w.heap.size + 1 + 1 + 1) 30 SC.toArray (0, 0) _ _ _ rfl rfl rfl B9.out Tryd.underlying30 rfl (by rw [IS.out]; simp)) rfl ⟨by rw [eres, eth, eb, ESC.out]; rfl, W9.out⟩
          · have ek := EAK.out
            rw [decide_eq_false hak] at ek
            have HAK : Hid (decide (lab = k) = false) := decide_eq_false hak
            clear EAK hak
            go_wp2_with (first
              | (with_reducible refine load_when (by kernel_rfl) 30 (.tmp 67) rfl (w.heap.size + 1 + 1) 2 rfl AC _ Tryd.underlying30 rfl IA.out LA9.out ?_)
              | (with_reducible refine load_when (by kernel_rfl) 30 (.tmp 4) rfl (w.heap.size + 1) 0 rfl KC _ Tryd.underlying30 rfl IK.out BLB9.out.cells ?_)
              | (with_reducible refine build_law rfl 30 #[] rfl Z (by simp only [List.map_toArray, List.map_nil]; exact BZ0.out) ?_)
              | ((with_reducible refine storeGen_law rfl 30 (.tmp 6) (.tmp 74) rfl (w.heap.size + 1 + 1 + 1) rfl Z rfl 30 Z IZ.out rfl OZ.out w.heap.size w BRS9.out W8.out hle ?_); intro w9 B9 W9))
            have eb : b = true := by rw [HBB.out, HG.out, HUB.out]; rfl
            have eth : th = false := by rw [HTH.out, eb, HAK.out]; rfl
            have eres : res = Tm.none32 := by rw [HRES.out, eth]; rfl
            exact bodyPost_ret (results_row_tmp2 rfl _ _ (w.heap.size + 1 + 1 + 1) 30 Z.toArray (0, 0) _ _ _ rfl rfl rfl B9.out Tryd.underlying30 rfl (by rw [IZ.out]; simp)) rfl ⟨by rw [eres, eth, eb, ← HZM.out]; rfl, W9.out⟩
      · have eq0 := EU.out
        rw [decide_eq_false hu] at eq0
        have HUB : Hid (decide (Tm.up (Tm.leaf lab sum) k 0 sides = r0) = false) := decide_eq_false hu
        clear EU hu
        replace BRT := Lib.hid BRT.out.drew
        replace BLB := Lib.hid BLB.out.drew
        replace BPR := Lib.hid BPR.out.drew
        replace BRS := Lib.hid BRS.out.drew
        replace BE := Lib.hid BE.out.drew
        replace W1 := Lib.hid W1.out.drew
        refine wp_region_any (by kernel_rfl) ?_
        change wpAny _ _ _ _ _ _ _ (World.drew _)
        generalize wr.drew = wd at *
        refine wpAny_take (i := 2) (oi := ?oi25) (v := .pointer (some ⟨w.heap.size + 1 + 1, 0, none⟩)) ?hi25 (by kernel_rfl) (by kernel_rfl) (by kernel_rfl) ?hQ25 ?hy25 ?rest25
        case hi25 => simp only [zge]; rfl
        case hQ25 => exact fun _ _ _ h => h
        case hy25 => exact Or.inl ⟨by rfl, by intro w; go_simp⟩
        try simp only [zpt]
        refine phaseL (fun i => if i = 4 then [0, 1, 3] else if i = 6 then [4, 5] else []) (fun d a w' => ∃ x56 x57 x59 x60 x61 x62 : Value, a = { tmps := #[.agg RC.toArray, .agg KC.toArray, .agg (proofL (.slice A m c) true AC SC).toArray, .pointer (some ⟨w.heap.size, 0, none⟩), .pointer (some ⟨w.heap.size + 1, 0, none⟩), .pointer (some ⟨w.heap.size + 1 + 1, 0, none⟩), .pointer (some ⟨w.heap.size + 1 + 1 + 1, 0, none⟩), u7, u8, .pointer (some ⟨w1.heap.size, 0, none⟩), .int .i64 (m : Int), .pointer (some ⟨w.heap.size + 1 + 1, 0, none⟩), .slice A m c, .int .i64 (m : Int), .bool false, .bool false, .pointer (some ⟨w.heap.size + 1 + 1, 1, none⟩), .bool true, .bool false, .bool false, undef, undef, undef, undef, undef, undef, undef, undef, undef, undef, .bool false, .bool false, undef, .pointer (some ⟨w.heap.size + 1 + 1, 1, none⟩), .bool true, .pointer (some ⟨w.heap.size + 1 + 1, 2, none⟩), .agg AC.toArray, .pointer (some ⟨w.heap.size + 1 + 1, 34, none⟩), .agg SC.toArray, .agg EC.toArray, .int .i64 (m : Int), .pointer (some ⟨w.heap.size + 1 + 1, 0, none⟩), .slice A m c, .int .i64 (m : Int), .bool false, u45, u46, u47, u48, u49, u50, u51, u52, u53, u54, u55, x56, x57, .pointer (some ⟨w.heap.size + 1 + 1, 0, none⟩), x59, x60, x61, x62, undef, undef, undef, undef, undef, undef, undef, undef, undef, undef, undef, undef], defers := [] } ∧ Hid (Below wd.heap.size wd w') ∧ (d 0 = true → x56 = .agg EC.toArray) ∧ (d 1 = true → x57 = .agg KC.toArray) ∧ (d 3 = true → x59 = .slice A m c) ∧ (d 4 = true → x60 = .agg UC.toArray) ∧ (d 5 = true → x61 = .agg RC.toArray) ∧ (d 6 = true → x62 = .bool true)) [0, 1, 3, 4, 5, 6] ?step26 0 6 [0, 1, 3, 4, 5, 6] _ _ _ rfl (by decide) (fun _ h => h) (Fits.of (by kernel_rfl)) ?init26 ?fin26
        case init26 => refine ⟨_, _, _, _, _, _, rfl, Below.refl _ _, ?_, ?_, ?_, ?_, ?_, ?_⟩ <;> (intro h; exact absurd h (by decide))
        case step26 =>
          intro i hi d a v26 hI hdi hdeps
          obtain ⟨x56, x57, x59, x60, x61, x62, rfl, BW, h0, h1, h3, h4, h5, h6⟩ := hI
          have hsw := BW.out.size
          simp only [List.mem_cons, List.not_mem_nil, or_false] at hi
          rcases hi with rfl | rfl | rfl | rfl | rfl | rfl
          · refine wpOp_step (o := ?os27) ?hos27 (fun K hK => ?_)
            case hos27 => simp only [zge]; rfl
            refine step_loadW rfl 30 (.tmp 9) rfl w1.heap.size 0 rfl EC _ Tryd.underlying30 rfl IE.out (BE.out.below BW.out BE.out.lt).cells (hK _ _ ?_)
            clear hK K
            try simp only [zpt]
            exact ⟨_, _, _, _, _, _, rfl, BW, fun _ => rfl, fun a => by first | exact h1 (by simpa using a) | rfl, fun a => by first | exact h3 (by simpa using a) | rfl, fun a => by first | exact h4 (by simpa using a) | rfl, fun a => by first | exact h5 (by simpa using a) | rfl, fun a => by first | exact h6 (by simpa using a) | rfl⟩
          · refine wpOp_step (o := ?os28) ?hos28 (fun K hK => ?_)
            case hos28 => simp only [zge]; rfl
            refine step_loadW rfl 30 (.tmp 4) rfl (w.heap.size + 1) 0 rfl KC _ Tryd.underlying30 rfl IK.out (BLB.out.below BW.out BLB.out.lt).cells (hK _ _ ?_)
            clear hK K
            try simp only [zpt]
            exact ⟨_, _, _, _, _, _, rfl, BW, fun a => by first | exact h0 (by simpa using a) | rfl, fun _ => rfl, fun a => by first | exact h3 (by simpa using a) | rfl, fun a => by first | exact h4 (by simpa using a) | rfl, fun a => by first | exact h5 (by simpa using a) | rfl, fun a => by first | exact h6 (by simpa using a) | rfl⟩
          · have c0 : v26.cell? ⟨w.heap.size + 1 + 1, 0, none⟩ = some (.slice A m c) := (BPR.out.below BW.out BPR.out.lt).cell 0
            refine wpOp_step (o := ?os29) ?hos29 (fun K hK => ?_)
            case hos29 => simp only [zge]; rfl
            go_simp
            refine hK _ _ ?_
            clear hK K
            try simp only [zpt]
            exact ⟨_, _, _, _, _, _, rfl, BW, fun a => by first | exact h0 (by simpa using a) | rfl, fun a => by first | exact h1 (by simpa using a) | rfl, fun _ => rfl, fun a => by first | exact h4 (by simpa using a) | rfl, fun a => by first | exact h5 (by simpa using a) | rfl, fun a => by first | exact h6 (by simpa using a) | rfl⟩
          · obtain rfl := h0 (hdeps 0 (by simp))
            obtain rfl := h1 (hdeps 1 (by simp))
            obtain rfl := h3 (hdeps 3 (by simp))
            refine wpOp_step (o := ?os30) ?hos30 (fun K hK => ?_)
            case hos30 => simp only [zge]; rfl
            go_simp
            refine (CU.out v26 (W1.out.trans (BW.out.mono W1.out.size))).mono ?_
            rintro e u26 ⟨rfl, hX⟩
            refine hK _ _ ?_
            clear hK K
            try simp only [zpt]
            exact ⟨_, _, _, _, _, _, rfl, BW.out.trans (hX.mono hsw), fun a => by first | exact h0 (by simpa using a) | rfl, fun a => by first | exact h1 (by simpa using a) | rfl, fun a => by first | exact h3 (by simpa using a) | rfl, fun _ => rfl, fun a => by first | exact h5 (by simpa using a) | rfl, fun a => by first | exact h6 (by simpa using a) | rfl⟩
          · refine wpOp_step (o := ?os31) ?hos31 (fun K hK => ?_)
            case hos31 => simp only [zge]; rfl
            refine step_loadW rfl 30 (.tmp 3) rfl w.heap.size 0 rfl RC _ Tryd.underlying30 rfl IR.out (BRT.out.below BW.out BRT.out.lt).cells (hK _ _ ?_)
            clear hK K
            try simp only [zpt]
            exact ⟨_, _, _, _, _, _, rfl, BW, fun a => by first | exact h0 (by simpa using a) | rfl, fun a => by first | exact h1 (by simpa using a) | rfl, fun a => by first | exact h3 (by simpa using a) | rfl, fun a => by first | exact h4 (by simpa using a) | rfl, fun _ => rfl, fun a => by first | exact h6 (by simpa using a) | rfl⟩
          · obtain rfl := h4 (hdeps 4 (by simp))
            obtain rfl := h5 (hdeps 5 (by simp))
            refine wpOp_step (o := ?os32) ?hos32 (fun K hK => ?_)
            case hos32 => simp only [zge]; rfl
            go_simp
            refine hK _ _ ?_
            clear hK K
            try simp only [zpt]
            exact ⟨_, _, _, _, _, _, rfl, BW, fun a => by first | exact h0 (by simpa using a) | rfl, fun a => by first | exact h1 (by simpa using a) | rfl, fun a => by first | exact h3 (by simpa using a) | rfl, fun a => by first | exact h4 (by simpa using a) | rfl, fun a => by first | exact h5 (by simpa using a) | rfl, fun _ => rfl⟩
        case fin26 =>
          intro a v26 hI
          obtain ⟨x56, x57, x59, x60, x61, x62, rfl, BW, h0, h1, h3, h4, h5, h6⟩ := hI
          obtain rfl := h0 (by decide)
          obtain rfl := h1 (by decide)
          obtain rfl := h3 (by decide)
          obtain rfl := h4 (by decide)
          obtain rfl := h5 (by decide)
          obtain rfl := h6 (by decide)
          have BRS9 := Lib.hid (BRS.out.below BW.out BRS.out.lt)
          have BPR9 := Lib.hid (BPR.out.below BW.out BPR.out.lt)
          have BLB9 := Lib.hid (BLB.out.below BW.out BLB.out.lt)
          have W8 := Lib.hid (W1.out.trans (BW.out.mono W1.out.size))
          clear BRT BLB BPR BRS BE W1 BW eq0
          try dsimp only
          refine wpAny_done (by kernel_rfl) ?_ _
          go_wp2_with (first
            | (with_reducible refine build_law rfl 30 #[] rfl Z (by simp only [List.map_toArray, List.map_nil]; exact BZ0.out) ?_)
            | ((with_reducible refine storeGen_law rfl 30 (.tmp 6) (.tmp 63) rfl (w.heap.size + 1 + 1 + 1) rfl Z rfl 30 Z IZ.out rfl OZ.out w.heap.size w BRS9.out W8.out hle ?_); intro w9 B9 W9))
          have eb : b = false := by rw [HBB.out, HG.out, HUB.out]; rfl
          have eth : th = false := by rw [HTH.out, eb]; rfl
          have eres : res = Tm.none32 := by rw [HRES.out, eth]; rfl
          exact bodyPost_ret (results_row_tmp2 rfl _ _ (w.heap.size + 1 + 1 + 1) 30 Z.toArray (0, 0) _ _ _ rfl rfl rfl B9.out Tryd.underlying30 rfl (by rw [IZ.out]; simp)) rfl ⟨by rw [eres, eth, eb, ← HZM.out]; rfl, W9.out⟩
theorem rcheck_any {w : World} {x : Value} {p : Tm.Prf} (hp : PrfIn w x p) {r0 k : List UInt8} (hr0 : r0.length = 32) (hk : k.length = 32) : Calls Tryd.prog 23 #[hv r0, hv k, x] w (ChkR w (p.told r0 k) (p.holds r0 k && p.there k) (p.holds r0 k)) := by
  obtain ⟨A, n, c, rfl, hr, _⟩ := hp.at_
  have hlab := hp.lab
  have hsum := hp.sum
  have he := hp.each
  obtain ⟨sides, has, lab, sum⟩ := p
  have hln : sides.length = n := by rw [← hr.len]; simp [hashes]
  dsimp only at hlab hsum he hr ⊢
  by_cases hn : 256 < n
  · have h1 : (Tm.Prf.mk sides has lab sum).holds r0 k = false := by simp [Tm.Prf.holds, Tm.Prf.good, hln]; omega
    have h2 : (Tm.Prf.mk sides has lab sum).told r0 k = Tm.none32 := by rw [Tm.Prf.told, h1]; rfl
    rw [h1, h2]
    exact rchk_many hr he hr0 hk hlab hsum hn
  · have hn' : n ≤ 256 := by omega
    cases has with
    | false =>
      by_cases hz : lab = Tm.none32
      · by_cases hy : sum = Tm.none32
        · have h1 : (Tm.Prf.mk sides false lab sum).holds r0 k = decide (Tm.up Tm.none32 k 0 sides = r0) := by simp [Tm.Prf.holds, Tm.Prf.good, Tm.Prf.tip, hln, hn', hz, hy]
          have h3 : (Tm.Prf.mk sides false lab sum).there k = false := by simp [Tm.Prf.there]
          have h2 : (Tm.Prf.mk sides false lab sum).told r0 k = Tm.none32 := by rw [Tm.Prf.told, h3, Bool.and_false]; rfl
          rw [h1, h2, h3, Bool.and_false]
          exact rchk_none hr he hr0 hk hlab hsum hn' hz hy
        · have h1 : (Tm.Prf.mk sides false lab sum).holds r0 k = false := by simp [Tm.Prf.holds, Tm.Prf.good, hy]
          have h2 : (Tm.Prf.mk sides false lab sum).told r0 k = Tm.none32 := by rw [Tm.Prf.told, h1]; rfl
          rw [h1, h2]
          exact rchk_sum hr he hr0 hk hlab hsum hn' hz hy
      · have h1 : (Tm.Prf.mk sides false lab sum).holds r0 k = false := by simp [Tm.Prf.holds, Tm.Prf.good, hz]
        have h2 : (Tm.Prf.mk sides false lab sum).told r0 k = Tm.none32 := by rw [Tm.Prf.told, h1]; rfl
        rw [h1, h2]
        exact rchk_lab hr he hr0 hk hlab hsum hn' hz
    | true =>
      have h1 : (Tm.Prf.mk sides true lab sum).holds r0 k = (Tm.shares lab k n && decide (Tm.up (Tm.leaf lab sum) k 0 sides = r0)) := by simp [Tm.Prf.holds, Tm.Prf.good, Tm.Prf.tip, hln, hn']
      have h3 : (Tm.Prf.mk sides true lab sum).there k = decide (lab = k) := by simp [Tm.Prf.there]
      exact rchk_has hr he hr0 hk hlab hsum hn' h1 (by rw [h3]) (by rw [Tm.Prf.told])
end Go.Proofs.YtmidbpjdpakkoaaDoor
