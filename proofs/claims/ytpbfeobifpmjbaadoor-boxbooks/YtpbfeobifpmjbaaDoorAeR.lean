/- Contracts of the document's eight and mark. -/
import Derived.Test.YtpbfeobifpmjbaaDoorAe
import Derived.Test.YtpbfeobifpmjbaaDoorGref2
import Derived.Test.YtpbfeobifpmjbaaDoorGchr
import Derived.Test.YtpbfeobifpmjbaaDoorGrow
import Derived.Test.YtpbfeobifpmjbaaDoorGphase
import Derived.Test.YtpbfeobifpmjbaaDoorGtag
namespace Go.Proofs.YtpbfeobifpmjbaaDoor
set_option linter.unusedVariables false
set_option linter.unusedSimpArgs false
set_option maxRecDepth 100000
open Go.RowKit

/-- What a call gives: new bytes. -/
def RetB (w : World) (l : List UInt8) (e : Ending) (w' : World) : Prop := ∃ v, e = .returned v ∧ Ow w' w.heap.size v l ∧ Below w.heap.size w w'

end Go.Proofs.YtpbfeobifpmjbaaDoor
