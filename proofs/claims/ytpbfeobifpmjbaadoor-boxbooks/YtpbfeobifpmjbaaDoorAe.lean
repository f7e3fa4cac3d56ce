/- Sealed bytes as functions on lists of bytes. No program in it. -/
import Derived.Test.YtpbfeobifpmjbaaDoorGcha
import Derived.Test.YtpbfeobifpmjbaaDoorGpol
namespace Go.Proofs.YtpbfeobifpmjbaaDoor.Ae
set_option linter.unusedVariables false
set_option linter.unusedSimpArgs false
set_option maxRecDepth 100000

/-- Noughts up to sixteen bytes. -/
def gap (n : Nat) : Nat := (16 - n % 16) % 16
def up (m : List UInt8) : List UInt8 := m ++ List.replicate (gap m.length) 0
/-- What the tag is of. -/
def text (ad c : List UInt8) : List UInt8 := up (up ad ++ c) ++ Pol.bytesN 8 (ad.length : Int) ++ Pol.bytesN 8 (c.length : Int)
def mark (key nonce ad c : List UInt8) : List UInt8 := Pol.tag ((Cha.block key 0 nonce).take 32) (text ad c)
def sealed (key nonce ad b : List UInt8) : List UInt8 := Cha.xor key 1 nonce b ++ mark key nonce ad (Cha.xor key 1 nonce b)
def opens (key nonce ad c : List UInt8) : Bool := decide (16 ≤ c.length) && decide (mark key nonce ad (c.take (c.length - 16)) = c.drop (c.length - 16))
def opened (key nonce ad c : List UInt8) : List UInt8 := if opens key nonce ad c then Cha.xor key 1 nonce (c.take (c.length - 16)) else []

theorem up_length (m : List UInt8) : (up m).length % 16 = 0 ∧ m.length ≤ (up m).length ∧ (up m).length ≤ m.length + 15 := by
  simp only [up, List.length_append, List.length_replicate, gap]
  omega
theorem gap_zero (n : Nat) (h : n % 16 = 0) : gap n = 0 := by unfold gap; omega
theorem up_of (m : List UInt8) (h : m.length % 16 = 0) : up m = m := by rw [up, gap_zero _ h]; simp
/-- One nought more. -/
theorem up_more (m : List UInt8) (h : m.length % 16 ≠ 0) : up (m ++ [0]) = up m := by
  have hg : gap m.length = gap (m ++ [(0 : UInt8)]).length + 1 := by simp only [gap, List.length_append, List.length_cons, List.length_nil]; omega
  rw [up, up, hg, List.replicate_succ, List.append_assoc]
  rfl
theorem up_front (x c : List UInt8) (h : x.length % 16 = 0) : up (x ++ c) = x ++ up c := by
  have hg : gap (x ++ c).length = gap c.length := by simp only [gap, List.length_append]; omega
  rw [up, up, hg, List.append_assoc]
theorem mark_length (key nonce ad c : List UInt8) : (mark key nonce ad c).length = 16 := by rw [mark, Pol.tag, Pol.bytesN_length]
theorem text_length (ad c : List UInt8) : (text ad c).length ≤ ad.length + c.length + 46 := by
  have h1 := up_length ad
  have h2 := up_length (up ad ++ c)
  rw [List.length_append] at h2
  simp only [text, List.length_append, Pol.bytesN_length]
  omega
theorem xor_len (key nonce b : List UInt8) (ctr : Int) : (Cha.xor key ctr nonce b).length = b.length := by simp [Cha.xor, Cha.xorTo]
theorem sealed_length (key nonce ad b : List UInt8) : (sealed key nonce ad b).length = b.length + 16 := by rw [sealed, List.length_append, xor_len, mark_length]
theorem opens_sealed (key nonce ad b : List UInt8) : opens key nonce ad (sealed key nonce ad b) = true := by
  have h1 := sealed_length key nonce ad b
  have h2 := xor_len key nonce b 1
  have e1 : (sealed key nonce ad b).take (b.length + 16 - 16) = Cha.xor key 1 nonce b := by rw [sealed, Nat.add_sub_cancel, ← h2]; exact List.take_left' rfl
  have e2 : (sealed key nonce ad b).drop (b.length + 16 - 16) = mark key nonce ad (Cha.xor key 1 nonce b) := by rw [sealed, Nat.add_sub_cancel, ← h2]; exact List.drop_left' rfl
  rw [opens, h1, e1, e2]
  simp
end Go.Proofs.YtpbfeobifpmjbaaDoor.Ae
