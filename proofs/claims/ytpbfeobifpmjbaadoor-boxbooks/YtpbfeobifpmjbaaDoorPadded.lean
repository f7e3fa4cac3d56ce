/- The contract of the document's padded. -/
import Derived.Test.YtpbfeobifpmjbaaDoorGrow
namespace Go.Proofs.YtpbfeobifpmjbaaDoor
set_option linter.unusedVariables false
set_option linter.unusedSimpArgs false
set_option maxRecDepth 100000
open Go.RowKit

theorem size_drop (T p : Nat) (h : p < 8) : (Sha.size8 T).drop p = UInt8.ofNat (T / 2 ^ (8 * (7 - p))) :: (Sha.size8 T).drop (p + 1) := by
  rw [List.drop_eq_getElem_cons (by rw [Sha.size8_length]; exact h)]
  congr 1
  unfold Sha.size8
  simp
theorem size_put (T p : Nat) (h : p < 8) : (List.replicate (p + 1) (Value.int .u8 0) ++ ((Sha.size8 T).drop (p + 1)).map cellOf).set p (.int .u8 (((T / 2 ^ (8 * (7 - p)) : Nat) : Int) % 256)) = List.replicate p (.int .u8 0) ++ ((Sha.size8 T).drop p).map cellOf := by
  rw [List.replicate_succ', List.append_assoc, List.set_append_right _ _ (by simp), size_drop T p h]
  simp [cellOf]
theorem size_zero (p : Nat) (T : Nat) (h : p < 8) : (List.replicate (p + 1) (Value.int .u8 0) ++ ((Sha.size8 T).drop (p + 1)).map cellOf)[p]? = some (.int .u8 0) := by
  rw [List.getElem?_append_left (by simp)]
  exact List.getElem?_replicate_of_lt (by omega)
theorem tail_eq (b : List UInt8) (j n : Nat) (hn : b.length = n) (hj : j = 63 - (n + 8) % 64) : b ++ [128] ++ List.replicate j 0 ++ Sha.size8 (n * 8) = b ++ Sha.tail b.length := by
  unfold Sha.tail
  rw [hn, hj]
  simp

set_option maxRecDepth 100000 in
set_option maxHeartbeats 1000000 in
theorem padded_any {w : World} {A : Option Addr} {n c : Nat} {b : List UInt8} (h : Rd w A n c b) (hn : n ≤ 1000000000) :
    Calls Tryd.prog 64 #[.slice A n c, .int .i64 64, .int .i64 8] w fun e w' => ∃ v, e = .returned v ∧ Ow w' w.heap.size v (b ++ Sha.tail b.length) ∧ Below w.heap.size w w' := by
  have HR := Lib.hid h
  have HL := Lib.hid h.len
  have hcap := h.cap
  have hmax := h.max
  unfold maxLen at hmax
  clear h
  go_enter Tryd.func64, Tryd.ntmps64
  go_upto_region 2 with (first | (at_builtin; refine onto_law rfl _ _ rfl rfl rfl HR.out (Ow.empty _ w.heap.size) (by simp; omega) (Nat.le_refl _) (Below.refl _ _) ?_; intro v1 w1 HO1 HB1))
  have hs1 := HB1.out.size
  go_wp2_with (first | (at_builtin; refine push_law rfl _ _ rfl rfl rfl 128 HO1.out rfl (by rw [List.nil_append, HL.out]; omega) hs1 HB1.out ?_; intro v2 w2 HO2 HB2))
  rw [List.nil_append] at HO2
  obtain ⟨g2, c2, rfl, hg2, hlt2⟩ := HO2.out.form (by simp)
  have elen : (b ++ [128]).length = n + 1 := by simp [HL.out]
  rw [elen] at HO2
  rw [elen]
  clear HO1 HB1 elen
  go_loopw [7] (fun s wr => ∃ (j g c' : Nat), j ≤ 63 - (n + 8) % 64 ∧ s = .slice (some ⟨g, 0, none⟩) (n + 1 + j) c' ∧ Hid (Ow wr w.heap.size s (b ++ [128] ++ List.replicate j 0)) ∧ Hid (Below w.heap.size w wr)) (fun s _ => n + 64 - slen s)
  case atStart => exact ⟨0, g2, c2, by omega, rfl, by unfold Hid; rw [List.replicate_zero, List.append_nil]; exact HO2, HB2⟩
  case round =>
    clear HO2 HB2
    obtain ⟨j, g, c', hj, rfl, HO, HB⟩ := hrel
    have hsr := HB.out.size
    have hlen : (b ++ [128] ++ List.replicate j 0).length = n + 1 + j := by simp [HL.out]; omega
    have HLN := Lib.hid hlen
    clear hlen
    by_cases hlt : j < 63 - (n + 8) % 64
    · have hne : (((n : Int) + 1 + (j : Int)) % 64 != 56) = true := by simp; omega
      have hne2 : (((n + 1 + j : Nat) : Int) % 64 != 56) = true := by simp; omega
      go_wp2_with (first | (at_builtin; refine push_law rfl _ _ rfl rfl rfl 0 HO.out rfl (by rw [HLN.out]; omega) hsr HB.out ?_; intro v3 w3 HO3 HB3))
      obtain ⟨g3, c3, rfl, hg3, hlt3⟩ := HO3.out.form (by simp; omega)
      have elen : (b ++ [128] ++ List.replicate j 0 ++ [0]).length = n + 1 + (j + 1) := by simp [HL.out]; omega
      rw [elen] at HO3
      rw [elen]
      clear elen
      go_roundw
      case rel => exact ⟨j + 1, g3, c3, by omega, rfl, by unfold Hid; rw [List.replicate_succ', ← List.append_assoc]; exact HO3, HB3⟩
      case measure => simp [slen]; omega
    · have hne : (((n : Int) + 1 + (j : Int)) % 64 != 56) = false := by simp; omega
      have hne2 : (((n + 1 + j : Nat) : Int) % 64 != 56) = false := by simp; omega
      have HJ : Hid (j = 63 - (n + 8) % 64) := by unfold Hid; omega
      have hmk : ∀ W, (Instr.makeSlice 28 (.int .i64 8) (.int .i64 8)).run Tryd.prog W = .ok (.slice (some ⟨W.heap.size, 0, none⟩) 8 8) (W.alloc (.cells (outC [] 8).toArray 5)) := fun W => make_bytes 8 (by omega) W
      go_wp2_with fail
      clear hmk hne hne2
      obtain ⟨T, hT⟩ : ∃ T : Nat, (T : Int) = (n : Int) * 8 := ⟨n * 8, by simp⟩
      rw [← hT]
      have HT : Hid (T = n * 8) := by unfold Hid; omega
      have hTb : T < 18446744073709551616 := by omega
      clear hT
      obtain ⟨wo, rfl⟩ : ∃ wo, wo = wr := ⟨_, rfl⟩
      go_loopw [8, 10] (fun u i wr => ∃ r q : Nat, r ≤ 8 ∧ i = .int .i64 ((r : Int) - 1) ∧ u = .int .u64 (q : Int) ∧ q < 18446744073709551616 ∧ Hid (q = T / 2 ^ (8 * (8 - r))) ∧ Hid (Blk wr wo.heap.size 5 (List.replicate r (.int .u8 0) ++ ((Sha.size8 T).drop r).map cellOf)) ∧ Hid (Below wo.heap.size wo wr)) (fun _ i _ => (intOf i + 1).toNat)
      case atStart => exact ⟨8, T, by omega, rfl, rfl, hTb, by unfold Hid; simp, Blk.at_new _ _ 5 _ _ (by rfl) rfl, (Below.refl _ _).alloc (Nat.le_refl _) _⟩
      case round =>
        obtain ⟨r, q, hr8, rfl, rfl, hq, HQ, BK, BW⟩ := hrel
        rcases Nat.eq_zero_or_pos r with h0 | h0
        · subst h0
          have e0 : ((0 : Nat) : Int) - 1 = -1 := rfl
          rw [e0]
          have HR8 : Hid (Rd wr (some ⟨wo.heap.size, 0, none⟩) 8 8 (Sha.size8 T)) :=
            Rd.of_block BK.out (Sha.size8_length T) (Nat.le_refl _) (by unfold maxLen; omega) (fun j hj => by
              have hj' : j < (Sha.size8 T).length := by rw [Sha.size8_length]; exact hj
              simp [List.getD_eq_getElem?_getD, List.getElem?_eq_getElem hj'])
          have HO2 := Lib.hid (HO.out.keep BW.out)
          have HB2 := Lib.hid (HB.out.trans (BW.out.mono hsr))
          have hsr2 := HB2.out.size
          clear BK BW HO HB
          go_wp2_with (first | (at_builtin; refine onto_law rfl _ _ rfl rfl rfl HR8.out HO2.out (by rw [HLN.out]; omega) hsr2 HB2.out ?_; intro v3 w3 HO3 HB3))
          go_ret
          refine ⟨_, rfl, ?_, HB3.out⟩
          rw [← tail_eq b j n HL.out HJ.out, ← HT.out]
          exact HO3.out
        · obtain ⟨p, rfl⟩ : ∃ p, r = p + 1 := ⟨r - 1, by omega⟩
          have e0 : ((p + 1 : Nat) : Int) - 1 = (p : Int) := by omega
          rw [e0]
          have c0 : wr.cell? ⟨wo.heap.size, p, none⟩ = some (.int .u8 0) := by rw [BK.out.cell]; exact size_zero p T (by omega)
          have f0 : wr.frozen? ⟨wo.heap.size, p, none⟩ = false := BK.out.frozen p
          have hp : 8 - (p + 1) = 7 - p := by omega
          have HN : Hid (Blk (wr.setCell ⟨wo.heap.size, p, none⟩ (.int .u8 ((q : Int) % 256))) wo.heap.size 5 (List.replicate p (.int .u8 0) ++ ((Sha.size8 T).drop p).map cellOf)) := by
            have := BK.out.set_ p (.int .u8 (((T / 2 ^ (8 * (7 - p)) : Nat) : Int) % 256))
            rw [size_put T p (by omega)] at this
            unfold Hid
            rw [HQ.out, hp]
            exact this
          have HQ2 : Hid (q / 256 = T / 2 ^ (8 * (8 - p))) := by
            unfold Hid
            rw [HQ.out, Nat.div_div_eq_div_mul, hp, show 8 * (8 - p) = 8 * (7 - p) + 8 by omega, Nat.pow_add]
          clear BK hp e0
          go_wp2_with fail
          go_roundw
          case rel => exact ⟨p, q / 256, by omega, rfl, by go_num, by omega, HQ2, HN, BW.out.setCell (Nat.le_refl _) _⟩
          case measure => simp [intOf]
end Go.Proofs.YtpbfeobifpmjbaaDoor
