/- Contracts of the small callees of package num: fold and unfold. -/
import Derived.Test.YtgjpppgcocmlhaaRows
import Derived.Test.YtgjpppgcocmlhaaMath
import Derived.WalkKit
import Derived.WalkSpells
import Derived.Lib.Hide
import Derived.Laws.ShiftsVarLaws
import Derived.Laws.BitsAllLaws
namespace Go.Proofs.Ytgjpppgcocmlhaa
open Go.RowKit

theorem ret_int {k : IntKind} {a b : Int} (h : a = b) : Ending.returned (.int k a) = .returned (.int k b) := by rw [h]

set_option maxHeartbeats 400000 in
theorem fold_any (n : Int) (w : World) (h1 : -9223372036854775808 ≤ n) (h2 : n ≤ 9223372036854775807) :
    Calls Try.prog 24 #[.int .i64 n] w fun e w' => e = .returned (.int .u64 (Num.zig n)) ∧ w = w' := by
  by_cases hn : n < 0
  · go_enter Try.func24, Try.ntmps24
    go_wp2
    go_ret
    exact ⟨ret_int (by unfold Num.zig; rw [if_pos hn]; omega), rfl⟩
  · go_enter Try.func24, Try.ntmps24
    go_wp2
    go_ret
    exact ⟨ret_int (by unfold Num.zig; rw [if_neg (by omega)]; omega), rfl⟩

set_option maxHeartbeats 400000 in
theorem unfold_any (u : Nat) (w : World) (h : u < 18446744073709551616) :
    Calls Try.prog 23 #[.int .u64 u] w fun e w' => e = .returned (.int .i64 (Num.zag u)) ∧ w = w' := by
  by_cases hn : u % 2 = 1
  · go_enter Try.func23, Try.ntmps23
    go_wp2
    go_ret
    exact ⟨ret_int (by unfold Num.zag; rw [if_pos hn]; omega), rfl⟩
  · go_enter Try.func23, Try.ntmps23
    go_wp2
    go_ret
    exact ⟨ret_int (by unfold Num.zag; rw [if_neg hn]; omega), rfl⟩

/-- A byte as a cell. -/
def cellOf (b : UInt8) : Value := .int .u8 (b.toNat : Int)

/-- '|' of what was gathered and the next seven bits is their sum. -/
theorem or_shl {k a d : Nat} (hk : k ≤ 9) (ha : a < 128 ^ k) (hd : d < 128) (h9 : k = 9 → d ≤ 1) :
    bits .or .u64 (a : Int) (IntKind.u64.wrap ((d : Int) * 2 ^ (7 * k))) = ((a + d * 128 ^ k : Nat) : Int) := by
  have hf := Num.fits hk ha hd h9
  have h1 : IntKind.u64.wrap ((d : Int) * 2 ^ (7 * k)) = ((d * 128 ^ k : Nat) : Int) := by
    have e : ((d : Int) * 2 ^ (7 * k)) = ((d * 128 ^ k : Nat) : Int) := by rw [Num.pow7]; simp
    rw [e, IntKind.wrap_u64]
    omega
  rw [h1, u64_or_nat _ _ (by omega) hf.2]
  congr 1
  rw [Num.pow7] at ha ⊢
  rw [Nat.or_comm, Nat.mul_comm, ← Nat.two_pow_add_eq_or_of_lt ha, Nat.add_comm]

theorem ret3 {k1 k2 k3 : IntKind} {a b c a' b' c' : Int} (h1 : a = a') (h2 : b = b') (h3 : c = c') :
    Ending.returned (.tuple #[.int k1 a, .int k2 b, .int k3 c]) = .returned (.tuple #[.int k1 a', .int k2 b', .int k3 c']) := by rw [h1, h2, h3]

set_option maxRecDepth 100000 in
set_option maxHeartbeats 1000000 in
theorem get_some (b off n c : Nat) (l : List UInt8) (w : World) (hl : l.length = n) (hn : n ≤ maxLen) (hcs : ∀ j, j < n → w.cell? ⟨b, off + j, none⟩ = some (cellOf (l.getD j 0))) :
    Calls Try.prog 14 #[.slice (some ⟨b, off, none⟩) n c] w fun e w' => e = .returned (.tuple #[.int .i64 (Num.got l 0 0).num, .int .i64 (Num.got l 0 0).cnt, .int .i64 (Num.got l 0 0).err]) ∧ w = w' := by
  unfold maxLen at hn
  have HC := Lib.hid hcs
  have HL := Lib.hid hl
  clear hcs hl
  go_enter Try.func14, Try.ntmps14
  go_wp2
  go_loop [5, 10] (fun u i => ∃ k a : Nat, k ≤ n ∧ k ≤ 9 ∧ Hid (a < 128 ^ k) ∧ Hid (Num.got l 0 0 = Num.got (l.drop k) k a) ∧ i = .int .i64 k ∧ u = .int .u64 a) (fun _ i => n - (intOf i).toNat)
  case atStart => exact ⟨0, 0, by omega, by omega, by unfold Hid; omega, by unfold Hid; simp, rfl, rfl⟩
  case round =>
    obtain ⟨k, a, hk, hk9, ha, HG, rfl, rfl⟩ := hrel
    by_cases hlt : k < n
    · have hcell := HC.out k hlt
      unfold cellOf at hcell
      have hgot := HG.out
      rw [Num.got_at (by rw [HL.out]; exact hlt)] at hgot
      generalize l.getD k 0 = x at hcell hgot
      have HG2 := Lib.hid hgot
      clear hgot HG
      have hx : x.toNat < 256 := x.toNat_lt
      by_cases h9 : k = 9 ∧ 1 < x.toNat
      · have h9t : ((k : Int) == 9) = true := by simp; omega
        have h1 := h9.2
        have H9 := Lib.hid h9
        clear h9
        go_wp2
        go_ret3
        rw [HG2.out, if_pos H9.out]
        exact ⟨rfl, rfl⟩
      · have hd : k = 9 → x.toNat % 128 ≤ 1 := by omega
        have hor := or_shl hk9 ha.out (show x.toNat % 128 < 128 by omega) hd
        have hfit := Num.fits hk9 ha.out (show x.toNat % 128 < 128 by omega) hd
        have hnext := Lib.hid (Num.fits_next ha.out (show x.toNat % 128 < 128 by omega))
        have hgot := HG2.out
        rw [if_neg h9] at hgot
        generalize a + x.toNat % 128 * 128 ^ k = a' at hor hfit hnext hgot
        have hor2 : bits .or .u64 (a : Int) (IntKind.u64.wrap ((x.toNat : Int) % 128 * 2 ^ (7 * k))) = (a' : Int) := by simpa using hor
        have HG3 := Lib.hid hgot
        have hfit2 := hfit.1
        clear hgot HG2 hor hfit
        by_cases h128 : 128 ≤ x.toNat
        · have hk8 : k ≤ 8 := by omega
          have h9f : ((k : Int) == 9) = false := by simp; omega
          go_wp2
          go_round
          case rel => exact ⟨k + 1, a', by omega, by omega, hnext, by have := HG3.out; rw [if_pos h128] at this; exact this, by go_num, rfl⟩
          case measure => simp [intOf]; omega
        · have h1f : k = 9 → x.toNat ≤ 1 := by omega
          have hgot := HG3.out
          rw [if_neg h128] at hgot
          have HG4 := Lib.hid hgot
          have H9 := Lib.hid h9
          clear hgot HG3 h9
          have hc9 : (((k : Int) == 9) = true ∧ x.toNat ≤ 1) ∨ ((k : Int) == 9) = false := by
            by_cases h : k = 9
            · exact .inl ⟨by simp; omega, h1f h⟩
            · exact .inr (by simp; omega)
          by_cases h0 : x.toNat = 0 ∧ 0 < k
          · have hx0 : ((x.toNat : Int) == 0) = true := by simp; omega
            have hk0 := h0.2
            have H0 := Lib.hid h0
            clear h0 h1f hd
            rcases hc9 with ⟨h9b, hx1⟩ | h9b
            all_goals
              go_wp2
              go_ret3
              rw [HG4.out, if_pos H0.out]
              exact ⟨rfl, rfl⟩
          · have hx0 : (((x.toNat : Int) == 0) = true ∧ (k : Int) ≤ 0) ∨ ((x.toNat : Int) == 0) = false := by
              by_cases h : x.toNat = 0
              · exact .inl ⟨by simp; omega, by omega⟩
              · exact .inr (by simp; omega)
            have H0 := Lib.hid h0
            clear h0 h1f hd
            rcases hc9 with ⟨h9b, hx1⟩ | h9b <;> rcases hx0 with ⟨hx0b, hk0⟩ | hx0b
            all_goals
              go_wp2_with (go_at_call 23; refine (unfold_any _ _ (by omega)).mono ?_; rintro e w' ⟨rfl, rfl⟩)
              go_ret3
              rw [HG4.out, if_neg H0.out]
              exact ⟨ret3 rfl (by show _ = ((k + 1 : Nat) : Int); omega) rfl, rfl⟩
    · go_wp2
      go_ret3
      rw [HG.out, Num.got_nil (by rw [HL.out]; omega)]
      exact ⟨rfl, rfl⟩

/-- The slice value (A, n, c) reads as the bytes l. -/
structure Rd (w : World) (A : Option Addr) (n c : Nat) (l : List UInt8) : Prop where
  len : l.length = n
  cap : n ≤ c
  max : c ≤ maxLen
  at_ : 0 < n → ∃ b off, A = some ⟨b, off, none⟩ ∧ b < w.heap.size ∧ ∀ j, j < n → w.cell? ⟨b, off + j, none⟩ = some (cellOf (l.getD j 0))

set_option maxRecDepth 100000 in
set_option maxHeartbeats 400000 in
theorem get_none (A : Option Addr) (c : Nat) (w : World) :
    Calls Try.prog 14 #[.slice A 0 c] w fun e w' => e = .returned (.tuple #[.int .i64 0, .int .i64 0, .int .i64 2]) ∧ w = w' := by
  go_enter Try.func14, Try.ntmps14
  go_wp2
  refine wp_loop_rounds 1 ?_
  rw [rounds_succ]
  go_wp2
  go_ret3
  exact ⟨rfl, rfl⟩

/-- Get. -/
theorem get_any {A : Option Addr} {n c : Nat} {l : List UInt8} {w : World} (h : Rd w A n c l) :
    Calls Try.prog 14 #[.slice A n c] w fun e w' => e = .returned (.tuple #[.int .i64 (Num.got l 0 0).num, .int .i64 (Num.got l 0 0).cnt, .int .i64 (Num.got l 0 0).err]) ∧ w = w' := by
  rcases Nat.eq_zero_or_pos n with h0 | h0
  · subst h0
    obtain rfl : l = [] := List.eq_nil_of_length_eq_zero h.len
    exact get_none A c w
  · obtain ⟨b, off, rfl, _, hc⟩ := h.at_ h0
    exact get_some b off n c l w h.len (Nat.le_trans h.cap h.max) hc
end Go.Proofs.Ytgjpppgcocmlhaa
