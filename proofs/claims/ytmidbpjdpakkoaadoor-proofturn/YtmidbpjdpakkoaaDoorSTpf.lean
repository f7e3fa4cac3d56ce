import Derived.Test.YtmidbpjdpakkoaaDoorSTaf
namespace Go.Proofs.YtmidbpjdpakkoaaDoor
set_option linter.unusedVariables false
set_option linter.unusedSimpArgs false
set_option maxRecDepth 100000
open Go.RowKit
theorem told_length {p : Tm.Prf} (h : p.sum.length = 32) (r0 k : List UInt8) : (p.told r0 k).length = 32 := by
  unfold Tm.Prf.told
  split
  · exact h
  · exact Tm.none32_length
theorem after_length (p : Tm.Prf) (r0 k s : List UInt8) : (p.after r0 k s).length = 32 := by
  unfold Tm.Prf.after
  split
  · exact Tm.up_length (Tm.root_length _ _) _ _
  · exact Tm.none32_length
end Go.Proofs.YtmidbpjdpakkoaaDoor
