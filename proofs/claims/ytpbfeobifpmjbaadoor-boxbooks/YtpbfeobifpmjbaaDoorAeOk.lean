/- What the laws of layers 4 to 6 want of package aead. -/
import Derived.Test.YtpbfeobifpmjbaaDoorAeO
namespace Go.Proofs.YtpbfeobifpmjbaaDoor
set_option linter.unusedVariables false
set_option linter.unusedSimpArgs false
set_option maxRecDepth 100000
open Go.RowKit

/-- What a call gives: bytes that can be read. -/
def RetR (w : World) (l : List UInt8) (e : Ending) (w' : World) : Prop := ∃ A n c, e = .returned (.slice A n c) ∧ Rd w' A n c l ∧ Below w.heap.size w w'
/-- Seal and Open answer as the document says. -/
structure AeOk : Prop where
  s : ∀ (key nonce : List UInt8) {w : World} {A A' : Option Addr} {n c n' c' : Nat} {ad b : List UInt8}, key.length = 32 → nonce.length = 12 → Rd w A n c ad → Rd w A' n' c' b → n ≤ 10000 → n' ≤ 10000 →
    Calls Tryd.prog 24 #[.agg (key.map cellOf).toArray, .agg (nonce.map cellOf).toArray, .slice A n c, .slice A' n' c'] w (RetR w (Ae.sealed key nonce ad b))
  o : ∀ (key nonce : List UInt8) {w : World} {A A' : Option Addr} {n c n' c' : Nat} {ad cc : List UInt8}, key.length = 32 → nonce.length = 12 → Rd w A n c ad → Rd w A' n' c' cc → n ≤ 10000 → n' ≤ 10000 →
    Calls Tryd.prog 27 #[.agg (key.map cellOf).toArray, .agg (nonce.map cellOf).toArray, .slice A n c, .slice A' n' c'] w (RetO w (Ae.opened key nonce ad cc) (Ae.opens key nonce ad cc))
theorem opened_sealed (key nonce ad b : List UInt8) : Ae.opened key nonce ad (Ae.sealed key nonce ad b) = b := by
  have h1 := Ae.sealed_length key nonce ad b
  have h2 := Ae.xor_len key nonce b 1
  have e1 : (Ae.sealed key nonce ad b).take (b.length + 16 - 16) = Cha.xor key 1 nonce b := by rw [Ae.sealed, Nat.add_sub_cancel, ← h2]; exact List.take_left' rfl
  rw [Ae.opened, Ae.opens_sealed, h1, e1, if_pos rfl, Cha.xor_xor]
end Go.Proofs.YtpbfeobifpmjbaaDoor
