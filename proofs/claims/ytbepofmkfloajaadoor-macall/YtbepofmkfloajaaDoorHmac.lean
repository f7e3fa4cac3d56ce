/- The contracts of HMAC, Extract and Same. -/
import Derived.Test.YtbepofmkfloajaaDoorBegin
namespace Go.Proofs.YtbepofmkfloajaaDoor
set_option linter.unusedVariables false
set_option linter.unusedSimpArgs false
open Go.RowKit

/-- The cells of an HMAC. -/
def Maced (k m : List UInt8) (D : List Value) : Prop := D = (Sha.hmac k m).map cellOf
theorem Maced.len {k m : List UInt8} {D : List Value} (h : Maced k m D) : D.length = 32 := by rw [h, List.length_map, Sha.hmac_length]
theorem Maced.one {k m : List UInt8} {D : List Value} (h : Maced k m D) : ∀ v ∈ D, v.oneCell' = true := by rw [h]; exact cells_u8 _
theorem Maced.info {k m : List UInt8} {D : List Value} (h : Maced k m D) : (Tryd.prog.info? 30).map (·.size) = some D.length := by rw [h.len]; kernel_rfl

set_option maxRecDepth 100000 in
set_option maxHeartbeats 1000000 in
theorem hmac_any {w : World} {A A' : Option Addr} {n c n' c' : Nat} {key : List UInt8} {ps : List (List UInt8)} (hg : Gl w) (hr : Rd w A n c key) (hn : n ≤ 1000000000) (hp : RdP w A' n' ps) (hn' : n' ≤ 1000000) (hb : ps.flatten.length ≤ 1000000000) :
    Calls Tryd.prog 23 #[.slice A n c, .slice A' n' c'] w fun e w' => ∃ D, e = .returned (.agg D.toArray) ∧ Maced key ps.flatten D ∧ Below w.heap.size w w' := by
  have HG := Lib.hid hg
  have hsz := hg.size
  have HR := Lib.hid hr
  have HP := Lib.hid hp
  clear hg hr hp
  go_enter Tryd.func23, Tryd.ntmps23
  go_upto_region 1 with (fail)
  have W1 := Lib.hid ((Below.refl w.heap.size w).alloc (Nat.le_refl _) (.cells (List.replicate 32 (.int .u8 0)).toArray 30))
  have HZ1 := Lib.hid (Blk.new w 30 (List.replicate 32 (.int .u8 0)))
  have hs1 : w.heap.size + 1 ≤ (w.alloc (.cells (List.replicate 32 (.int .u8 0)).toArray 30)).heap.size := by simp
  change Code.wp _ _ _ _ (w.alloc (.cells (List.replicate 32 (.int .u8 0)).toArray 30))
  generalize w.alloc (.cells (List.replicate 32 (.int .u8 0)).toArray 30) = w1 at *
  have HG1 := Lib.hid (HG.out.below W1.out HG.out.size)
  have HR1 := Lib.hid (HR.out.below W1.out)
  go_wp2_with fail
  refine (begin_any HG1.out HR1.out hn).mono ?_
  rintro e w2 ⟨gi, go, rfl, hHi, hHo, hX⟩
  have HHi := Lib.hid hHi
  have HHo := Lib.hid hHo
  have hs2 := hX.size
  have HZ2 := Lib.hid (HZ1.out.below hX HZ1.out.lt)
  have W2 := Lib.hid (W1.out.trans (hX.mono (by omega)))
  have HG2 := Lib.hid (HG.out.below W2.out HG.out.size)
  have HP2 := Lib.hid (HP.out.below W2.out)
  clear hHi hHo hX HR1 HG1 W1 HZ1
  go_wp2_with fail
  refine (ksum_any HG2.out HHi.out HHo.out HP2.out hn' (by rw [Sha.mask_length, Sha.keyBlock_length]; omega) (by rw [Sha.mask_length, Sha.keyBlock_length]; omega)).mono ?_
  rintro e w3 ⟨D, rfl, hS, hX⟩
  have hM : Maced key ps.flatten D := hS
  have HM := Lib.hid hM
  have HI := Lib.hid hM.info
  have HL : Hid ((List.replicate 32 (Value.int .u8 0)).length = D.length) := by unfold Hid; rw [hM.len]; rfl
  have H1 := Lib.hid hM.one
  have HZ3 := Lib.hid (HZ2.out.below hX HZ2.out.lt)
  have W3 := Lib.hid (W2.out.trans (hX.mono (by omega)))
  clear hS hM hX HZ2 W2 HP2 HHi HHo
  go_wp2_with (first
    | ((with_reducible refine storeGen_law rfl 30 (.tmp 4) (.tmp 8) rfl w.heap.size rfl D rfl 30 (List.replicate 32 (.int .u8 0)) HI.out HL.out H1.out w.heap.size w HZ3.out W3.out (Nat.le_refl _) ?_); intro w4 B4 W4))
  exact bodyPost_ret (results_cell_row rfl _ _ w.heap.size 30 D.toArray (0, 0) _ rfl B4.out Tryd.underlying30 rfl (by rw [HI.out]; simp)) rfl ⟨D, rfl, HM.out, W4.out⟩

set_option maxRecDepth 100000 in
set_option maxHeartbeats 1000000 in
theorem extract_any {w : World} {A A' : Option Addr} {n c n' c' : Nat} {key m : List UInt8} (hg : Gl w) (hr : Rd w A n c key) (hn : n ≤ 1000000000) (hp : Rd w A' n' c' m) (hn' : n' ≤ 1000000000) :
    Calls Tryd.prog 25 #[.slice A n c, .slice A' n' c'] w fun e w' => ∃ D, e = .returned (.agg D.toArray) ∧ Maced key m D ∧ Below w.heap.size w w' := by
  have HG := Lib.hid hg
  have hsz := hg.size
  have HR := Lib.hid hr
  have HP := Lib.hid hp
  have HPL := Lib.hid hp.len
  clear hg hr hp
  go_enter Tryd.func25, Tryd.ntmps25
  go_upto_region 1 with (fail)
  have W1 := Lib.hid ((Below.refl w.heap.size w).alloc (Nat.le_refl _) (.cells (List.replicate 32 (.int .u8 0)).toArray 30))
  have HZ1 := Lib.hid (Blk.new w 30 (List.replicate 32 (.int .u8 0)))
  have hs1 : w.heap.size + 1 ≤ (w.alloc (.cells (List.replicate 32 (.int .u8 0)).toArray 30)).heap.size := by simp
  change Code.wp _ _ _ _ (w.alloc (.cells (List.replicate 32 (.int .u8 0)).toArray 30))
  generalize w.alloc (.cells (List.replicate 32 (.int .u8 0)).toArray 30) = w1 at *
  have X1 := Lib.hid ((Below.refl w1.heap.size w1).alloc (Nat.le_refl _) (.cells #[.slice A' n' c'] 23))
  have W2 := Lib.hid (W1.out.trans (X1.out.mono (by omega)))
  have HZ2 := Lib.hid (HZ1.out.below X1.out HZ1.out.lt)
  have HP2 := Lib.hid (lit_parts1 w1 (HP.out.below W1.out))
  have HG2 := Lib.hid (HG.out.below W2.out HG.out.size)
  have HR2 := Lib.hid (HR.out.below W2.out)
  have hs2 := X1.out.size
  clear W1 HZ1 X1
  go_wp2_with fail
  refine (hmac_any HG2.out HR2.out hn HP2.out (by omega) (by simp [HPL.out]; omega)).mono ?_
  rintro e w3 ⟨D, rfl, hM, hX⟩
  simp only [List.flatten_cons, List.flatten_nil, List.append_nil] at hM
  have HM := Lib.hid hM
  have HI := Lib.hid hM.info
  have HL : Hid ((List.replicate 32 (Value.int .u8 0)).length = D.length) := by unfold Hid; rw [hM.len]; rfl
  have H1 := Lib.hid hM.one
  have HZ3 := Lib.hid (HZ2.out.below hX HZ2.out.lt)
  have W3 := Lib.hid (W2.out.trans (hX.mono (by omega)))
  clear hM hX HZ2 W2 HP2
  go_wp2_with (first
    | ((with_reducible refine storeGen_law rfl 30 (.tmp 4) (.tmp 8) rfl w.heap.size rfl D rfl 30 (List.replicate 32 (.int .u8 0)) HI.out HL.out H1.out w.heap.size w HZ3.out W3.out (Nat.le_refl _) ?_); intro w4 B4 W4))
  exact bodyPost_ret (results_cell_row rfl _ _ w.heap.size 30 D.toArray (0, 0) _ rfl B4.out Tryd.underlying30 rfl (by rw [HI.out]; simp)) rfl ⟨D, rfl, HM.out, W4.out⟩
end Go.Proofs.YtbepofmkfloajaaDoor
