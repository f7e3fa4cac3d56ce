/- The contract of Expand. -/
import Derived.Test.YtbepofmkfloajaaDoorSame
import Derived.Laws.MakeOwn
namespace Go.Proofs.YtbepofmkfloajaaDoor
set_option linter.unusedVariables false
set_option linter.unusedSimpArgs false
open Go.RowKit

namespace Sha
/-- The k-th sum of Expand. -/
def T (key info : List UInt8) : Nat → List UInt8
  | 0 => []
  | k + 1 => hmac key (T key info k ++ info ++ [UInt8.ofNat (k + 1)])
theorem sums_succ (key info : List UInt8) (n i : Nat) : sums key info (n + 1) i (T key info i) = T key info (i + 1) ++ sums key info n (i + 1) (T key info (i + 1)) := rfl
theorem sums_snoc (key info : List UInt8) : ∀ (n i : Nat), sums key info (n + 1) i (T key info i) = sums key info n i (T key info i) ++ T key info (i + n + 1)
  | 0, i => by rw [sums_succ]; simp [sums]
  | n + 1, i => by
    rw [sums_succ, sums_snoc key info n (i + 1), ← List.append_assoc, ← sums_succ, show i + 1 + n + 1 = i + (n + 1) + 1 by omega]
theorem T_length (key info : List UInt8) (k : Nat) : (T key info k).length ≤ 32 := by
  cases k with
  | zero => simp [T]
  | succ k => rw [T, hmac_length]; exact Nat.le_refl _
theorem T_length' (key info : List UInt8) (k : Nat) : (T key info (k + 1)).length = 32 := by rw [T, hmac_length]
/-- The first k sums. -/
def pre (key info : List UInt8) (k : Nat) : List UInt8 := sums key info k 0 (T key info 0)
theorem pre_length (key info : List UInt8) (k : Nat) : (pre key info k).length = 32 * k := sums_length _ _ _ _ _
theorem pre_succ (key info : List UInt8) (k : Nat) : pre key info (k + 1) = pre key info k ++ T key info (k + 1) := by
  unfold pre
  rw [sums_snoc, Nat.zero_add]
theorem expand_pre (key info : List UInt8) (n k : Nat) (h1 : n ≤ 32 * k) (h2 : 32 * k < n + 32) : expand key info n = (pre key info k).take n := by
  have e : k = (n + 31) / 32 := by omega
  unfold expand pre
  rw [e]
  rfl
end Sha

/-- The cells of what is expanded, k sums of it. -/
def outC (p : List UInt8) (n : Nat) : List Value := (p.take n).map cellOf ++ List.replicate (n - p.length) (.int .u8 0)
theorem outC_length (p : List UInt8) (n : Nat) : (outC p n).length = n := by simp [outC]; omega
theorem out_step (p t : List UInt8) (n j : Nat) (hp : p.length = j) (ht : t.length = 32) (h : j < n) :
    (outC p n).take j ++ (t.take (min 32 (n - j))).map cellOf ++ (outC p n).drop (j + min 32 (n - j)) = outC (p ++ t) n := by
  have e1 : p.take n = p := List.take_of_length_le (by omega)
  unfold outC
  rw [e1, List.take_append_of_le_length (by simp; omega), List.take_of_length_le (by simp; omega), List.drop_append, List.drop_of_length_le (by simp; omega), List.nil_append, List.drop_replicate, List.length_map, hp]
  rw [List.take_append, e1, hp, List.length_append, hp, ht, List.map_append]
  have e2 : t.take (min 32 (n - j)) = t.take (n - j) := by
    rcases Nat.le_total 32 (n - j) with h' | h'
    · rw [Nat.min_eq_left h', List.take_of_length_le (by omega), List.take_of_length_le (by omega)]
    · rw [Nat.min_eq_right h']
  rw [e2]
  congr 2
  omega
theorem out_end (p : List UInt8) (n : Nat) (h : n ≤ p.length) : outC p n = (p.take n).map cellOf := by
  unfold outC
  rw [Nat.sub_eq_zero_of_le h]
  simp
theorem make_bytes (n : Nat) (h : n ≤ 140737488355328) (W : World) :
    (Instr.makeSlice 23 (.int .i64 (n : Int)) (.int .i64 (n : Int))).run Tryd.prog W = .ok (.slice (some ⟨W.heap.size, 0, none⟩) n n) (W.alloc (.cells (outC [] n).toArray 5)) := by
  obtain ⟨i0, hi, hz0, hz1, hz2⟩ := info_parts info5
  have hr := run_make (P := Tryd.prog) W 23 5 i0 (.int .u8 0) Tryd.underlying23 hi hz0 .i64 .i64 (n : Int) (n : Int) (by omega) (by omega) (by rw [hz2]; omega) (by omega)
  rw [hz1, Int.toNat_natCast, Nat.mul_one] at hr
  rw [hr]
  congr 3
  apply Array.ext'
  show (madeCells #[.int .u8 0] n).toList = _
  rw [toList_madeCells_one]
  simp [outC]
theorem lit_parts3 (w : World) {A A' A'' : Option Addr} {n c n' c' n'' c'' : Nat} {l l' l'' : List UInt8} (h : Rd w A n c l) (h' : Rd w A' n' c' l') (h'' : Rd w A'' n'' c'' l'') :
    RdP (w.alloc (.cells #[.slice A n c, .slice A' n' c', .slice A'' n'' c''] 23)) (some ⟨w.heap.size, 0, none⟩) 3 [l, l', l''] :=
  ⟨rfl, fun j hj => by
    have hX := (Below.refl w.heap.size w).alloc (Nat.le_refl _) (.cells #[.slice A n c, .slice A' n' c', .slice A'' n'' c''] 23)
    have hB := Blk.new w 23 [.slice A n c, .slice A' n' c', .slice A'' n'' c'']
    match j, hj with
    | 0, _ => exact ⟨w.heap.size, 0, A, n, c, rfl, by simp, hB.cell 0, h.below hX⟩
    | 1, _ => exact ⟨w.heap.size, 0, A', n', c', rfl, by simp, hB.cell 1, h'.below hX⟩
    | 2, _ => exact ⟨w.heap.size, 0, A'', n'', c'', rfl, by simp, hB.cell 2, h''.below hX⟩⟩
theorem lit_bytes1 (w : World) (x : UInt8) : Rd (w.alloc (.cells #[.int .u8 (x.toNat : Int)] 5)) (some ⟨w.heap.size, 0, none⟩) 1 1 [x] :=
  Rd.of_block (Blk.new w 5 [cellOf x]) rfl (Nat.le_refl _) (by unfold maxLen; omega) (fun j hj => by
    obtain rfl : j = 0 := by omega
    rfl)

set_option maxRecDepth 100000 in
set_option maxHeartbeats 400000 in
theorem expand_none {w : World} {A A' : Option Addr} {n c n' c' : Nat} (m : Int) (h : m < 1 ∨ 8160 < m) :
    Calls Tryd.prog 27 #[.slice A n c, .slice A' n' c', .int .i64 m] w fun e w' => e = .returned (.slice none 0 0) ∧ w = w' := by
  by_cases h1 : m < 1
  · go_enter Tryd.func27, Tryd.ntmps27
    go_wp2_with fail
    go_ret
    exact ⟨rfl, rfl⟩
  · have h2 : 8160 < m := by omega
    have h1b : decide (m < 1) = false := by simpa using h1
    go_enter Tryd.func27, Tryd.ntmps27
    go_wp2_with fail
    go_ret
    exact ⟨rfl, rfl⟩

set_option maxRecDepth 100000 in
set_option maxHeartbeats 2000000 in
theorem expand_any {w : World} {A A' : Option Addr} {nk ck ni ci : Nat} {key info : List UInt8} (hg : Gl w) (hr : Rd w A nk ck key) (hn : nk ≤ 1000000000) (hi : Rd w A' ni ci info) (hni : ni ≤ 1000000) (n : Nat) (h1 : 1 ≤ n) (h2 : n ≤ 8160) :
    Calls Tryd.prog 27 #[.slice A nk ck, .slice A' ni ci, .int .i64 (n : Int)] w fun e w' => ∃ g, e = .returned (.slice (some ⟨g, 0, none⟩) n n) ∧ Rd w' (some ⟨g, 0, none⟩) n n (Sha.expand key info n) ∧ w.heap.size ≤ g ∧ Below w.heap.size w w' := by
  have HG := Lib.hid hg
  have hsz := hg.size
  have HR := Lib.hid hr
  have HI := Lib.hid hi
  have HIL := Lib.hid hi.len
  clear hg hr hi
  have hmk := fun W => make_bytes n (by omega) W
  have b1 : ((n : Int) < 1) = False := by simp; omega
  have b2 : ((8160 : Int) < (n : Int)) = False := by simp; omega
  go_enter Tryd.func27, Tryd.ntmps27
  go_upto_region 3 with (fail)
  go_wp2_with fail
  refine (begin_any HG.out HR.out hn).mono ?_
  rintro e w1 ⟨g1, g2, rfl, hH1, hH2, hX⟩
  have HH1 := Lib.hid hH1
  have HH2 := Lib.hid hH2
  have hl1 := hH1.lt
  have hl2 := hH2.lt
  have W1 := Lib.hid hX
  have hs1 := hX.size
  have HI61 : Hid ((Tryd.prog.info? 61).map (·.size) = some 2) := by unfold Hid; kernel_rfl
  clear hX hH1 hH2
  go_upto_region 4 with (fail)
  have B2 := Lib.hid (Blk.new w1 61 [.pointer (some ⟨g1, 0, none⟩), .pointer (some ⟨g2, 0, none⟩)])
  have X2 := Lib.hid ((Below.refl w1.heap.size w1).alloc (Nat.le_refl _) (.cells [.pointer (some ⟨g1, 0, none⟩), .pointer (some ⟨g2, 0, none⟩)].toArray 61))
  change Code.wp _ _ _ _ (w1.alloc (.cells [.pointer (some ⟨g1, 0, none⟩), .pointer (some ⟨g2, 0, none⟩)].toArray 61))
  generalize w1.alloc (.cells [.pointer (some ⟨g1, 0, none⟩), .pointer (some ⟨g2, 0, none⟩)].toArray 61) = w2 at *
  have hs2 : w1.heap.size + 1 ≤ w2.heap.size := B2.out.lt
  replace HH1 : Hid (Holds w2 g1 (Sha.mask 0x36 (Sha.keyBlock key))) := HH1.out.keep (X2.out.block g1 hl1)
  replace HH2 : Hid (Holds w2 g2 (Sha.mask 0x5c (Sha.keyBlock key))) := HH2.out.keep (X2.out.block g2 hl2)
  have W2 := Lib.hid (W1.out.trans (X2.out.mono (by omega)))
  clear X2 W1
  go_wp2_with fail
  clear hmk
  go_loopw [9, 10] (fun v i wr => ∃ (k : Nat) (B : Option Addr) (q qc : Nat), k ≤ 255 ∧ 32 * k < n + 32 ∧ i = .int .i64 k ∧ v = .slice B q qc ∧ Hid (Rd wr B q qc (Sha.T key info k)) ∧ Hid (Holds wr g1 (Sha.mask 0x36 (Sha.keyBlock key))) ∧ Hid (Holds wr g2 (Sha.mask 0x5c (Sha.keyBlock key))) ∧ Hid (Blk wr w1.heap.size 61 [.pointer (some ⟨g1, 0, none⟩), .pointer (some ⟨g2, 0, none⟩)]) ∧ Hid (Blk wr w2.heap.size 5 (outC (Sha.pre key info k) n)) ∧ Hid (Below w.heap.size w wr)) (fun _ i _ => 256 - (intOf i).toNat)
  case atStart =>
    have X := (Below.refl w2.heap.size w2).alloc (Nat.le_refl _) (.cells (outC [] n).toArray 5)
    exact ⟨0, none, 0, 0, by omega, by omega, rfl, rfl, Rd.nil _ _ _ (by unfold maxLen; omega), HH1.out.keep (X.block g1 (by omega)), HH2.out.keep (X.block g2 (by omega)), B2.out.alloc _, Blk.at_new _ _ 5 _ _ rfl rfl, W2.out.trans (X.mono (by omega))⟩
  case round =>
    clear HH1 HH2 B2 W2
    obtain ⟨k, B, q, qc, hk, hk2, rfl, rfl, HT, HH1, HH2, BK, BO, W⟩ := hrel
    by_cases hlt : 32 * k < n
    · have hlb : (k : Int) * 32 < (n : Int) := by omega
      have hwr := BO.out.lt
      have c0 : wr.cell? ⟨w1.heap.size, 0, none⟩ = some (.pointer (some ⟨g1, 0, none⟩)) := BK.out.cell 0
      have c1 : wr.cell? ⟨w1.heap.size, 1, none⟩ = some (.pointer (some ⟨g2, 0, none⟩)) := BK.out.cell 1
      obtain ⟨x, hx⟩ : ∃ x : UInt8, x = UInt8.ofNat (k + 1) := ⟨_, rfl⟩
      have hxe : ((k : Int) + 1) = (x.toNat : Int) := by rw [hx]; simp; omega
      have hxe2 : ((k : Int) + 1) % 256 = (x.toNat : Int) := by rw [hx]; simp
      have HXX := Lib.hid hx
      have X1 := Lib.hid ((Below.refl wr.heap.size wr).alloc (Nat.le_refl _) (.cells #[.int .u8 (x.toNat : Int)] 5))
      have X2 := Lib.hid (X1.out.trans ((((Below.refl _ _).alloc (Nat.le_refl _) (.cells #[.slice B q qc, .slice A' ni ci, .slice (some ⟨wr.heap.size, 0, none⟩) 1 1] 23))).mono X1.out.size))
      have HP := Lib.hid (lit_parts3 _ (HT.out.below X1.out) ((HI.out.below W.out).below X1.out) (lit_bytes1 wr x))
      have hcall := Lib.hid (ksum_any (c := 3) ((HG.out.below W.out HG.out.size).below X2.out (HG.out.below W.out HG.out.size).size) (HH1.out.keep (X2.out.block g1 (by omega))) (HH2.out.keep (X2.out.block g2 (by omega))) HP.out (by omega) (by have := Sha.T_length key info k; simp [Sha.mask_length, Sha.keyBlock_length, HIL.out]; omega) (by rw [Sha.mask_length, Sha.keyBlock_length]; omega))
      clear hx
      have esz : (wr.alloc (.cells #[.int .u8 (x.toNat : Int)] 5)).heap.size = wr.heap.size + 1 := by simp
      rw [esz] at hcall
      have hs2x := X2.out.size
      go_wp2_with fail
      clear hxe hxe2 esz
      refine hcall.out.mono ?_
      rintro e w3 ⟨D, rfl, hS, hX⟩
      have hM : D = (Sha.T key info (k + 1)).map cellOf := by
        have h0 : D = (Sha.hmac key ([Sha.T key info k, info, [x]].flatten)).map cellOf := hS
        rw [h0, Sha.T, HXX.out]
        simp
      have hDl : D.length = 32 := by rw [hM, List.length_map, Sha.T_length']
      have HM := Lib.hid hM
      have HI30 : Hid ((Tryd.prog.info? 30).map (·.size) = some D.length) := by unfold Hid; rw [hDl]; kernel_rfl
      have HL30 : Hid ((List.replicate 32 (Value.int .u8 0)).length = D.length) := by unfold Hid; rw [hDl]; rfl
      have H130 : Hid (∀ v ∈ D, v.oneCell' = true) := by unfold Hid; rw [hM]; exact cells_u8 _
      have X3 : Hid (Below wr.heap.size wr w3) := X2.out.trans (hX.mono hs2x)
      have hs3 := X3.out.size
      clear hX hS hM hDl hcall HP X1 X2 c0 c1
      go_upto_region 10 with (first
        | ((with_reducible refine storeGen_law rfl 30 (.tmp 11) (.tmp 36) rfl w3.heap.size rfl D rfl 30 (List.replicate 32 (.int .u8 0)) HI30.out HL30.out H130.out w3.heap.size w3 ?_ ?_ (Nat.le_refl _) ?_)
           · exact Blk.at_new _ _ 30 _ _ (by rfl) rfl
           · exact (Below.refl _ _).alloc (Nat.le_refl _) _
           intro w4 B4 X4))
      try simp only [Act.put]
      have hs4 := X4.out.size
      have X5 : Hid (Below wr.heap.size wr w4.drew) := (X3.out.trans (X4.out.mono (show wr.heap.size ≤ w3.heap.size by omega))).drew
      replace B4 : Hid (Blk w4.drew w3.heap.size 30 D) := B4.out.drew
      have hs5 : w3.heap.size ≤ w4.drew.heap.size := hs4
      clear X3 X4 hs4
      refine wp_region_any (by kernel_rfl) ?_
      change wpAny _ _ _ _ _ _ _ (World.drew _)
      generalize w4.drew = w5 at *
      have hs6 := B4.out.lt
      replace HH1 : Hid (Holds w5 g1 (Sha.mask 0x36 (Sha.keyBlock key))) := HH1.out.keep (X5.out.block g1 (by omega))
      replace HH2 : Hid (Holds w5 g2 (Sha.mask 0x5c (Sha.keyBlock key))) := HH2.out.keep (X5.out.block g2 (by omega))
      replace BK := Lib.hid (BK.out.below X5.out (by omega))
      replace BO := Lib.hid (BO.out.below X5.out (by omega))
      replace W := Lib.hid (W.out.trans (X5.out.mono (by omega)))
      have HR5 : Hid (Rd w5 (some ⟨w3.heap.size, 0, none⟩) 32 32 (Sha.T key info (k + 1))) :=
        Rd.of_block B4.out (Sha.T_length' _ _ _) (Nat.le_refl _) (by unfold maxLen; omega) (fun j hj => by
          have hj' : j < (Sha.T key info (k + 1)).length := by rw [Sha.T_length']; exact hj
          rw [HM.out]
          simp [List.getD_eq_getElem?_getD, List.getElem?_eq_getElem hj'])
      obtain ⟨j, hj⟩ : ∃ j, j = 32 * k := ⟨_, rfl⟩
      have ej : IntKind.i64.wrap ((k : Int) * 32) = (j : Int) := by rw [IntKind.wrap_i64]; omega
      have hjn : j < n := by omega
      have hsl : ∀ W, (Instr.slice 23 (.slice (some ⟨w2.heap.size, 0, none⟩) n n) (some (.int .i64 (j : Int))) none none).run Tryd.prog W = .ok (.slice (some ⟨w2.heap.size, j, none⟩) (n - j) (n - j)) W := fun W => by
        rw [slice_l (some ⟨w2.heap.size, 0, none⟩) n n j (by omega) W]
        unfold cutA
        rw [if_neg (by omega)]
        simp only [Option.map_some, add_plain, Nat.zero_add]
      obtain ⟨w6, hcopy, hB6, hO6⟩ := copy_into (off := j) (dLen := n - j) (dCap := n - j) BO.out HR5.out (by rw [outC_length]; omega)
      rw [out_step _ _ n j (by rw [Sha.pre_length, hj]) (Sha.T_length' _ _ _) hjn, ← Sha.pre_succ] at hB6
      have HB6 := Lib.hid hB6
      have HO6 := Lib.hid hO6
      have HJ := Lib.hid hj
      clear hB6 hO6 hj
      refine wpAny_take (i := 0) (oi := ?oi1) (v := .slice (some ⟨w2.heap.size, 0, none⟩) n n) ?hi1 (by kernel_rfl) (by kernel_rfl) (by kernel_rfl) ?hQ1 ?hy1 ?rest1
      case hi1 => simp only [List.getElem?_toArray, List.getElem?_cons_succ, List.getElem?_cons_zero]; rfl
      case hQ1 => exact fun _ _ _ h => h
      case hy1 => exact Or.inl ⟨by rfl, by intro w; go_simp⟩
      try simp only [Act.put, List.setIfInBounds_toArray, List.set_cons_zero, List.set_cons_succ]
      refine wpAny_take (i := 1) (oi := ?oi2) (v := .int .i64 (k : Int)) ?hi2 (by kernel_rfl) (by kernel_rfl) (by kernel_rfl) ?hQ2 ?hy2 ?rest2
      case hi2 => simp only [List.getElem?_toArray, List.getElem?_cons_succ, List.getElem?_cons_zero]; rfl
      case hQ2 => exact fun _ _ _ h => h
      case hy2 => exact Or.inl ⟨by rfl, by intro w; go_simp⟩
      try simp only [Act.put, List.setIfInBounds_toArray, List.set_cons_zero, List.set_cons_succ]
      refine wpAny_take (i := 2) (oi := ?oi3) (v := .int .i64 (j : Int)) ?hi3 (by kernel_rfl) (by kernel_rfl) (by kernel_rfl) ?hQ3 ?hy3 ?rest3
      case hi3 => simp only [List.getElem?_toArray, List.getElem?_cons_succ, List.getElem?_cons_zero]; rfl
      case hQ3 => exact fun _ _ _ h => h
      case hy3 => exact Or.inl ⟨by rfl, by intro w; go_simp⟩
      try simp only [Act.put, List.setIfInBounds_toArray, List.set_cons_zero, List.set_cons_succ]
      refine wpAny_take (i := 3) (oi := ?oi4) (v := .slice (some ⟨w2.heap.size, j, none⟩) (n - j) (n - j)) ?hi4 (by kernel_rfl) (by kernel_rfl) (by kernel_rfl) ?hQ4 ?hy4 ?rest4
      case hi4 => simp only [List.getElem?_toArray, List.getElem?_cons_succ, List.getElem?_cons_zero]; rfl
      case hQ4 => exact fun _ _ _ h => h
      case hy4 => exact Or.inl ⟨by rfl, by intro w; go_simp⟩
      try simp only [Act.put, List.setIfInBounds_toArray, List.set_cons_zero, List.set_cons_succ]
      refine wpAny_take (i := 4) (oi := ?oi5) (v := .slice (some ⟨w3.heap.size, 0, none⟩) 32 32) ?hi5 (by kernel_rfl) (by kernel_rfl) (by kernel_rfl) ?hQ5 ?hy5 ?rest5
      case hi5 => simp only [List.getElem?_toArray, List.getElem?_cons_succ, List.getElem?_cons_zero]; rfl
      case hQ5 => exact fun _ _ _ h => h
      case hy5 => exact Or.inl ⟨by rfl, by intro w; go_simp⟩
      try simp only [Act.put, List.setIfInBounds_toArray, List.set_cons_zero, List.set_cons_succ]
      refine wpAny_ready (rs := [5]) (by kernel_rfl) (by simp) ?_
      refine AllReady.cons (o := ?o6) ?ho6 (fun K hK => ?_) AllReady.nil
      case ho6 => simp only [List.getElem?_toArray, List.getElem?_cons_succ, List.getElem?_cons_zero]; rfl
      go_simp
      refine hK _ _ ?_
      clear hK K hcopy hsl ej
      try simp only [Act.put]
      refine wpAny_done (by kernel_rfl) ?_ _
      replace HH1 : Hid (Holds w6 g1 (Sha.mask 0x36 (Sha.keyBlock key))) := HH1.out.keep (HO6.out.block g1 (by omega) (by simp; omega))
      replace HH2 : Hid (Holds w6 g2 (Sha.mask 0x5c (Sha.keyBlock key))) := HH2.out.keep (HO6.out.block g2 (by omega) (by simp; omega))
      replace BK : Hid (Blk w6 w1.heap.size 61 [.pointer (some ⟨g1, 0, none⟩), .pointer (some ⟨g2, 0, none⟩)]) := (HO6.out.block _ BK.out.lt (by simp; omega)).trans BK.out
      replace W : Hid (Below w.heap.size w w6) := below_of_only W.out HO6.out (by omega) (by omega)
      replace HR5 := Lib.hid (HR5.out.grown HO6.out (fun _ ad had => by injection had with had; subst had; simp; omega))
      clear BO B4 X5 HO6
      go_wp2_with fail
      go_roundw
      case rel => exact ⟨k + 1, _, _, _, by omega, by omega, by go_num, rfl, HR5, HH1, HH2, BK, HB6, W⟩
      case measure => simp [intOf]; omega
    · have hlb : ((k : Int) * 32 < (n : Int)) = False := by simp; omega
      have HE : Hid (Rd wr (some ⟨w2.heap.size, 0, none⟩) n n (Sha.expand key info n)) := by
        have e := Sha.expand_pre key info n k (by omega) hk2
        have hB := BO.out
        rw [out_end _ _ (by rw [Sha.pre_length]; omega), ← e] at hB
        exact Rd.of_block hB (Sha.expand_length _ _ _) (Nat.le_refl _) (by unfold maxLen; omega) (fun j hj => by
          have hj' : j < (Sha.expand key info n).length := by rw [Sha.expand_length]; exact hj
          simp [List.getD_eq_getElem?_getD, List.getElem?_eq_getElem hj'])
      clear BO
      go_wp2_with fail
      go_ret
      exact ⟨_, rfl, HE.out, by omega, W.out⟩
end Go.Proofs.YtbepofmkfloajaaDoor
