import Derived.Test.YtnfbkimkdnbohaaGreatDoorSKp
set_option linter.unusedVariables false
set_option linter.unusedSimpArgs false
set_option maxRecDepth 100000
set_option maxHeartbeats 8000000
namespace Go.Proofs.YtnfbkimkdnbohaaGreatDoor
theorem sealKey_0:(Rc.sealKey [115] 0).getD 0 0=20:=by
 unfold Rc.sealKey
 rw [show Num.zig 0=0 from rfl,Num.enc_lo (by omega)]
 kernel_rfl
theorem sealKey_1:(Rc.sealKey [115] 1).getD 0 0=90:=by
 unfold Rc.sealKey
 rw [show Num.zig 1=2 from rfl,Num.enc_lo (by omega)]
 kernel_rfl
theorem markKey_s:(Rc.markKey [115]).getD 0 0=211:=by kernel_rfl
theorem labelKey_s:(Rc.labelKey [115]).getD 0 0=252:=by kernel_rfl
theorem seal_unlike:Rc.sealKey [115] 0 ≠ Rc.sealKey [115] 1:=fun h=>by
 have h1:=sealKey_0
 rw [h,sealKey_1] at h1
 exact absurd h1 (by decide)
theorem label_unlike:Rc.labelKey [115] ≠ Rc.markKey [115]:=fun h=>by
 have h1:=labelKey_s
 rw [h,markKey_s] at h1
 exact absurd h1 (by decide)
end Go.Proofs.YtnfbkimkdnbohaaGreatDoor
