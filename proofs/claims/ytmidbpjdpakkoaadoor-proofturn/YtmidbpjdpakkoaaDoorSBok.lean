import Derived.Test.YtmidbpjdpakkoaaDoorSBegun12
import Derived.Test.YtmidbpjdpakkoaaDoorSTbg
namespace Go.Proofs.YtmidbpjdpakkoaaDoor
set_option linter.unusedVariables false
set_option linter.unusedSimpArgs false
set_option maxRecDepth 100000
open Go.RowKit
theorem begunOk : BegunOk := fun h => begun12_any h
end Go.Proofs.YtmidbpjdpakkoaaDoor
