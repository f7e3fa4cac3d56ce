/- Bytes as a string; a shorter expansion is the beginning of a longer one. -/
import Derived.Test.YtbepofmkfloajaaDoorCommon
import Derived.Laws.BytesArg
import Derived.StillTailTactics
namespace Go.Proofs.YtbepofmkfloajaaDoor
set_option linter.unusedVariables false
set_option linter.unusedSimpArgs false
open Go.RowKit

theorem str_of (l : List UInt8) : strOfNums (l.map fun b => (b.toNat : Int)) = ⟨l.toArray⟩ := by
  unfold strOfNums
  simp [Function.comp_def]
theorem conv_bytes {w : World} {A : Option Addr} {n c : Nat} {l : List UInt8} (h : Rd w A n c l) : (convert 23 9 (.slice A n c)).run Tryd.prog w = .ok (.string ⟨l.toArray⟩) w := by
  rcases Nat.eq_zero_or_pos n with h0 | h0
  · subst h0
    obtain rfl : l = [] := List.eq_nil_of_length_eq_zero h.len
    cases A with
    | none => exact run_convert_bytes_nil (P := Tryd.prog) w 23 5 Tryd.underlying23 Tryd.underlying5 0 c 9 Tryd.underlying9
    | some a =>
      rw [run_convert_bytes_string w 23 9 5 _ 0 c Tryd.underlying23 Tryd.underlying5 Tryd.underlying9, run_bytesToString w a 0 c [] (by rfl)]
      rfl
  · obtain ⟨b, off, rfl, _, hc⟩ := h.at_ h0
    rw [← str_of l]
    refine run_convert_bytes_arg (P := Tryd.prog) w 23 5 Tryd.underlying23 Tryd.underlying5 b off n c _ (by simpa using h.len) (fun i hi => ?_) 9 Tryd.underlying9
    rw [hc i hi]
    have hi' : i < l.length := by rw [h.len]; exact hi
    simp [cellOf, List.getD_eq_getElem?_getD, List.getElem?_eq_getElem hi']
theorem pre_add (key info : List UInt8) (j k : Nat) : ∃ r, Sha.pre key info (j + k) = Sha.pre key info j ++ r := by
  induction k with
  | zero => exact ⟨[], by simp⟩
  | succ k ih =>
    obtain ⟨r, hr⟩ := ih
    exact ⟨r ++ Sha.T key info (j + k + 1), by rw [← Nat.add_assoc, Sha.pre_succ, hr, List.append_assoc]⟩
theorem expand_take (key info : List UInt8) (a b : Nat) (h : a ≤ b) : (Sha.expand key info b).take a = Sha.expand key info a := by
  rw [Sha.expand_pre key info b ((b + 31) / 32) (by omega) (by omega), Sha.expand_pre key info a ((a + 31) / 32) (by omega) (by omega), List.take_take, Nat.min_eq_left h]
  obtain ⟨r, hr⟩ := pre_add key info ((a + 31) / 32) ((b + 31) / 32 - (a + 31) / 32)
  rw [show (b + 31) / 32 = (a + 31) / 32 + ((b + 31) / 32 - (a + 31) / 32) by omega, hr, List.take_append_of_le_length (by rw [Sha.pre_length]; omega)]
end Go.Proofs.YtbepofmkfloajaaDoor
