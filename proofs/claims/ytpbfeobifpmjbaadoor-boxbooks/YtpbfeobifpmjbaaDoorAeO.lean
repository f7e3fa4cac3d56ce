/- The contract of the document's Open. -/
import Derived.Test.YtpbfeobifpmjbaaDoorAeS
namespace Go.Proofs.YtpbfeobifpmjbaaDoor
set_option linter.unusedVariables false
set_option linter.unusedSimpArgs false
set_option maxRecDepth 100000
open Go.RowKit

/-- What Open gives. -/
def RetO (w : World) (l : List UInt8) (ok : Bool) (e : Ending) (w' : World) : Prop := ∃ A n c, e = .returned (.tuple #[.slice A n c, .bool ok]) ∧ Rd w' A n c l ∧ Below w.heap.size w w'
theorem str_ne {a b : List UInt8} (h : a ≠ b) : ((⟨a.toArray⟩ : ByteArray) == ⟨b.toArray⟩) = false := by
  show (a.toArray == b.toArray) = false
  simpa using h

end Go.Proofs.YtpbfeobifpmjbaaDoor
