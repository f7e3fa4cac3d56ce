/- The contract of masked. -/
import Derived.Test.YtbepofmkfloajaaDoorShaSum
namespace Go.Proofs.YtbepofmkfloajaaDoor
set_option linter.unusedVariables false
set_option linter.unusedSimpArgs false
open Go.RowKit

theorem xor_cell (a b : UInt8) : bits .xor .u8 (a.toNat : Int) (b.toNat : Int) = ((a ^^^ b).toNat : Int) := by
  rw [u8_xor_nat _ _ a.toNat_lt b.toNat_lt, UInt8.toNat_xor]
theorem mask_at (x : UInt8) (b : List UInt8) (k : Nat) (h : k < b.length) : ((Sha.mask x (b.take k)).map cellOf ++ (b.drop k).map cellOf)[k]? = some (.int .u8 ((b.getD k 0).toNat : Int)) := by
  rw [List.getElem?_append_right (by simp [Sha.mask]; omega), List.drop_eq_getElem_cons h]
  simp [Sha.mask, cellOf, List.getD_eq_getElem?_getD, List.getElem?_eq_getElem h, Nat.min_eq_left (Nat.le_of_lt h)]
theorem mask_set (x : UInt8) (b : List UInt8) (k : Nat) (h : k < b.length) : ((Sha.mask x (b.take k)).map cellOf ++ (b.drop k).map cellOf).set k (cellOf (b.getD k 0 ^^^ x)) = (Sha.mask x (b.take (k + 1))).map cellOf ++ (b.drop (k + 1)).map cellOf := by
  have e0 : b.getD k 0 = b[k] := by simp [List.getD_eq_getElem?_getD, List.getElem?_eq_getElem h]
  rw [List.set_append_right _ _ (by simp [Sha.mask]; omega), List.drop_eq_getElem_cons h, show b.take (k + 1) = b.take k ++ [b[k]] from List.take_succ_eq_append_getElem h, e0]
  unfold Sha.mask
  simp only [List.map_append, List.length_map, List.length_take, Nat.min_eq_left (Nat.le_of_lt h), Nat.sub_self, List.set_cons_zero, List.map_cons, List.map_nil, List.append_assoc, List.cons_append, List.nil_append]

set_option maxRecDepth 100000 in
set_option maxHeartbeats 1000000 in
theorem masked_any {w : World} {b : List UInt8} (hg : Gl w) (hb : b.length = 64) (x : UInt8) (bc : List Value) (hbc : bc = b.map cellOf) :
    Calls Tryd.prog 42 #[.agg bc.toArray, .int .u8 (x.toNat : Int)] w fun e w' => ∃ g, e = .returned (.pointer (some ⟨g, 0, none⟩)) ∧ w.heap.size ≤ g ∧ Holds w' g (Sha.mask x b) ∧ Below w.heap.size w w' := by
  have HG := Lib.hid hg
  have hsz := hg.size
  have HB := Lib.hid hb
  have HBC := Lib.hid hbc
  clear hg hb hbc
  go_enter Tryd.func42, Tryd.ntmps42
  go_wp2_with fail
  go_loopw [7] (fun i wr => ∃ k : Nat, k ≤ 64 ∧ i = .int .i64 k ∧ Hid (Blk wr w.heap.size 51 ((Sha.mask x (b.take k)).map cellOf ++ (b.drop k).map cellOf)) ∧ Hid (Below w.heap.size w wr)) (fun i _ => 64 - (intOf i).toNat)
  case atStart => exact ⟨0, by omega, rfl, by unfold Hid; rw [HBC.out]; exact Blk.new w 51 _, (Below.refl _ _).alloc (Nat.le_refl _) _⟩
  case round =>
    obtain ⟨k, hk, rfl, BK, BW⟩ := hrel
    by_cases hlt : k < 64
    · have c0 : wr.cell? ⟨w.heap.size, k, none⟩ = some (.int .u8 ((b.getD k 0).toNat : Int)) := by rw [BK.out.cell]; exact mask_at x b k (by rw [HB.out]; exact hlt)
      have f0 : wr.frozen? ⟨w.heap.size, k, none⟩ = false := BK.out.frozen k
      have HN : Hid (Blk (wr.setCell ⟨w.heap.size, k, none⟩ (.int .u8 (bits .xor .u8 ((b.getD k 0).toNat : Int) (x.toNat : Int)))) w.heap.size 51 ((Sha.mask x (b.take (k + 1))).map cellOf ++ (b.drop (k + 1)).map cellOf)) := by
        have := BK.out.set_ k (cellOf (b.getD k 0 ^^^ x))
        rw [mask_set x b k (by rw [HB.out]; exact hlt)] at this
        unfold Hid
        rw [xor_cell]
        exact this
      clear BK
      generalize b.getD k 0 = y at *
      go_wp2_with fail
      go_roundw
      case rel => exact ⟨k + 1, by omega, by go_num, HN, BW.out.setCell (Nat.le_refl _) _⟩
      case measure => simp [intOf]; omega
    · obtain rfl : k = 64 := by omega
      have HB2 : Hid (Blk wr w.heap.size 51 ((Sha.mask x b).map cellOf)) := by
        have := BK.out
        rw [List.take_of_length_le (by rw [HB.out]; omega), List.drop_of_length_le (by rw [HB.out]; omega), List.map_nil, List.append_nil] at this
        exact this
      have HGr := Lib.hid (HG.out.below BW.out HG.out.size)
      clear BK
      go_wp2_with fail
      refine (new_ex _).mono ?_
      rintro e w1 ⟨gs, rfl, hgs, hH1, hW1⟩
      have hlt0 := HB2.out.lt
      have HR : Hid (Rd w1 (some ⟨w.heap.size, 0, none⟩) 64 64 (Sha.mask x b)) :=
        Rd.of_block (HB2.out.below hW1 hlt0) (by rw [Sha.mask_length, HB.out]) (Nat.le_refl _) (by unfold maxLen; omega) (fun j hj => by
          have hj' : j < (Sha.mask x b).length := by rw [Sha.mask_length, HB.out]; exact hj
          simp [List.getD_eq_getElem?_getD, List.getElem?_eq_getElem hj'])
      have HG1 := Lib.hid (HGr.out.below hW1 HGr.out.size)
      have HH1 := Lib.hid hH1
      have W1 : Hid (Below w.heap.size w w1) := BW.out.trans (hW1.mono (by omega))
      have hw1 := hW1.size
      clear hH1 hW1
      go_wp2_with fail
      refine (write_any HG1.out (by omega) HH1.out HR.out (fun _ ad had => by injection had with had; subst had; simp; omega) (by rw [Sha.mask_length, HB.out]; simp)).mono ?_
      rintro e w2 ⟨rfl, R2, O2⟩
      have HH2 := Lib.hid R2.holds
      have W2 : Hid (Below w.heap.size w w2) := below_of_only W1.out O2 (by omega) (by omega)
      clear R2 O2
      go_wp2_with fail
      go_ret
      exact ⟨gs, rfl, by omega, HH2.out, W2.out⟩
end Go.Proofs.YtbepofmkfloajaaDoor
