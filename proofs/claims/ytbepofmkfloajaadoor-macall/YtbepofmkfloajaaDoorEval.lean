/- Examples of SHA-256 and HMAC, reckoned. -/
import Derived.Test.YtbepofmkfloajaaDoorMath
import Derived.KernelRfl
namespace Go.Proofs.YtbepofmkfloajaaDoor.Sha
set_option linter.unusedVariables false
set_option linter.unusedSimpArgs false

theorem sum_abc : ((sum [97, 98, 99]).getD 0 0, (sum [97, 98, 99]).getD 1 0, (sum [97, 98, 99]).getD 31 0) = (0xba, 0x78, 0xad) := by kernel_rfl
theorem sum_nil : ((sum []).getD 0 0, (sum []).getD 1 0, (sum []).getD 31 0) = (0xe3, 0xb0, 0x55) := by kernel_rfl
/-- "Jefe", "what do ya want for nothing?". -/
def jefe : List UInt8 := [74, 101, 102, 101]
def what : List UInt8 := [119, 104, 97, 116, 32, 100, 111, 32, 121, 97, 32, 119, 97, 110, 116, 32]
def nothing : List UInt8 := [102, 111, 114, 32, 110, 111, 116, 104, 105, 110, 103, 63]
theorem hmac_jefe : ((hmac jefe (what ++ nothing)).getD 0 0, (hmac jefe (what ++ nothing)).getD 1 0, (hmac jefe (what ++ nothing)).getD 31 0) = (0x5b, 0xdc, 0x43) := by kernel_rfl
end Go.Proofs.YtbepofmkfloajaaDoor.Sha
