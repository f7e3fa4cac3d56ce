/- The contract of the document's own Get. -/
import Derived.Test.YtgjpppgcocmlhaaSmall
namespace Go.Proofs.Ytgjpppgcocmlhaa
open Go.RowKit

theorem mul_nat (d p : Nat) : (d : Int) % 128 * (p : Int) = ((d % 128 * p : Nat) : Int) := by simp

set_option maxRecDepth 100000 in
set_option maxHeartbeats 1000000 in
theorem rget_some (b off n c : Nat) (l : List UInt8) (w : World) (hl : l.length = n) (hn : n ≤ maxLen) (hcs : ∀ j, j < n → w.cell? ⟨b, off + j, none⟩ = some (cellOf (l.getD j 0))) :
    Calls Try.prog 19 #[.slice (some ⟨b, off, none⟩) n c] w fun e w' => e = .returned (.tuple #[.int .i64 (Num.got l 0 0).num, .int .i64 (Num.got l 0 0).cnt, .int .i64 (Num.got l 0 0).err]) ∧ w = w' := by
  unfold maxLen at hn
  have HC := Lib.hid hcs
  have HL := Lib.hid hl
  clear hcs hl
  go_enter Try.func19, Try.ntmps19
  go_wp2
  go_loop [5, 6, 7] (fun u p i => ∃ k a q : Nat, k ≤ n ∧ k ≤ 9 ∧ Hid (a < 128 ^ k) ∧ Hid (q = 128 ^ k) ∧ Hid (Num.got l 0 0 = Num.got (l.drop k) k a) ∧ i = .int .i64 k ∧ u = .int .u64 a ∧ p = .int .u64 q) (fun _ _ i => n - (intOf i).toNat)
  case atStart => exact ⟨0, 0, 1, by omega, by omega, by unfold Hid; omega, by unfold Hid; rfl, by unfold Hid; simp, rfl, rfl, rfl⟩
  case round =>
    obtain ⟨k, a, q, hk, hk9, ha, HQ, HG, rfl, rfl, rfl⟩ := hrel
    by_cases hlt : k < n
    · have hcell := HC.out k hlt
      unfold cellOf at hcell
      have hgot := HG.out
      rw [Num.got_at (by rw [HL.out]; exact hlt)] at hgot
      generalize l.getD k 0 = x at hcell hgot
      have HG2 := Lib.hid hgot
      clear hgot HG
      have hx : x.toNat < 256 := x.toNat_lt
      by_cases h9 : k = 9 ∧ 1 < x.toNat
      · have h9t : ((k : Int) == 9) = true := by simp; omega
        have h1 := h9.2
        have H9 := Lib.hid h9
        clear h9
        go_wp2
        go_ret3
        rw [HG2.out, if_pos H9.out]
        exact ⟨rfl, rfl⟩
      · have hd : k = 9 → x.toNat % 128 ≤ 1 := by omega
        have hfit := Num.fits hk9 ha.out (show x.toNat % 128 < 128 by omega) hd
        have hnext := Lib.hid (Num.fits_next ha.out (show x.toNat % 128 < 128 by omega))
        have hgot := HG2.out
        rw [if_neg h9] at hgot
        rw [← HQ.out] at hfit hgot
        have hnext2 : Hid (a + x.toNat % 128 * q < 128 ^ (k + 1)) := by have := hnext.out; rw [← HQ.out] at this; exact this
        have hm := mul_nat x.toNat q
        obtain ⟨m, hmm⟩ : ∃ m, m = x.toNat % 128 * q := ⟨_, rfl⟩
        rw [← hmm] at hm hfit hgot hnext2
        have hfit1 := hfit.1
        have hfit2 := hfit.2
        have HG3 := Lib.hid hgot
        clear hgot HG2 hfit hnext hmm
        have hc9 : (((k : Int) == 9) = true ∧ x.toNat ≤ 1) ∨ ((k : Int) == 9) = false := by
          by_cases h : k = 9
          · exact .inl ⟨by simp; omega, by omega⟩
          · exact .inr (by simp; omega)
        by_cases h128 : 128 ≤ x.toNat
        · have hk8 : k ≤ 8 := by omega
          have h9f : ((k : Int) == 9) = false := by simp; omega
          have hx0 : ((x.toNat : Int) == 0) = false := by simp; omega
          have hq : q ≤ 72057594037927936 := by rw [HQ.out]; exact Num.pow_le8 hk8
          clear hc9 hd
          have hk0 : 0 < k ∨ (k : Int) ≤ 0 := by omega
          rcases hk0 with hk0 | hk0
          all_goals
            go_wp2
            go_round
            case rel => exact ⟨k + 1, a + m, q * 128, by omega, by omega, hnext2, by unfold Hid; rw [HQ.out, Nat.pow_succ], by have := HG3.out; rw [if_pos h128] at this; exact this, by go_num, by go_num, by go_num⟩
            case measure => simp [intOf]; omega
        · have hgot := HG3.out
          rw [if_neg h128] at hgot
          have HG4 := Lib.hid hgot
          have H9 := Lib.hid h9
          clear hgot HG3 h9 hnext2 hd
          have hq : q ≤ 9223372036854775808 := by rw [HQ.out]; exact Num.pow_le9 hk9
          by_cases h0 : x.toNat = 0 ∧ 0 < k
          · have hx0 : ((x.toNat : Int) == 0) = true := by simp; omega
            have hk0 := h0.2
            have H0 := Lib.hid h0
            clear h0
            rcases hc9 with ⟨h9b, hx1⟩ | h9b
            all_goals
              go_wp2
              go_ret3
              rw [HG4.out, if_pos H0.out]
              exact ⟨rfl, rfl⟩
          · have hx0 : (k : Int) ≤ 0 ∨ (0 < (k : Int) ∧ ((x.toNat : Int) == 0) = false) := by
              by_cases h : x.toNat = 0
              · exact .inl (by omega)
              · rcases Nat.eq_zero_or_pos k with hk | hk
                · exact .inl (by omega)
                · exact .inr ⟨by omega, by simp; omega⟩
            have H0 := Lib.hid h0
            clear h0
            rcases hc9 with ⟨h9b, hx1⟩ | h9b <;> rcases hx0 with hk0 | ⟨hk0, hx0b⟩ <;> by_cases hpar : (a + m) % 2 = 1
            all_goals
              have HP := Lib.hid hpar
              go_wp2
              all_goals
                go_ret3
                rw [HG4.out, if_neg H0.out]
                exact ⟨ret3 (by show _ = Num.zag (a + m); unfold Num.zag; first | (rw [if_pos HP.out]; omega) | (rw [if_neg HP.out]; omega)) (by show _ = ((k + 1 : Nat) : Int); omega) rfl, rfl⟩
    · go_wp2
      go_ret3
      rw [HG.out, Num.got_nil (by rw [HL.out]; omega)]
      exact ⟨rfl, rfl⟩

set_option maxRecDepth 100000 in
set_option maxHeartbeats 400000 in
theorem rget_none (A : Option Addr) (c : Nat) (w : World) :
    Calls Try.prog 19 #[.slice A 0 c] w fun e w' => e = .returned (.tuple #[.int .i64 0, .int .i64 0, .int .i64 2]) ∧ w = w' := by
  go_enter Try.func19, Try.ntmps19
  go_wp2
  refine wp_loop_rounds 1 ?_
  rw [rounds_succ]
  go_wp2
  go_ret3
  exact ⟨rfl, rfl⟩

theorem rget_any {A : Option Addr} {n c : Nat} {l : List UInt8} {w : World} (h : Rd w A n c l) :
    Calls Try.prog 19 #[.slice A n c] w fun e w' => e = .returned (.tuple #[.int .i64 (Num.got l 0 0).num, .int .i64 (Num.got l 0 0).cnt, .int .i64 (Num.got l 0 0).err]) ∧ w = w' := by
  rcases Nat.eq_zero_or_pos n with h0 | h0
  · subst h0
    obtain rfl : l = [] := List.eq_nil_of_length_eq_zero h.len
    exact rget_none A c w
  · obtain ⟨b, off, rfl, _, hc⟩ := h.at_ h0
    exact rget_some b off n c l w h.len (Nat.le_trans h.cap h.max) hc
end Go.Proofs.Ytgjpppgcocmlhaa
