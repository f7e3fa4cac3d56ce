/- The law's own 'same': the program's Open and the document's agree. -/
import Derived.Test.YtknpngeaodlmhaaDoorBegun4
namespace Go.Proofs.YtknpngeaodlmhaaDoor
set_option linter.unusedVariables false
set_option linter.unusedSimpArgs false
open Go.RowKit

set_option maxRecDepth 100000 in
set_option maxHeartbeats 4000000 in
theorem same4_any (hA : AeOk) (key nonce : List UInt8) {w : World} {A A' : Option Addr} {n c n' c' : Nat} {ad cc : List UInt8} (hk : key.length = 32) (hn : nonce.length = 12) (hra : Rd w A n c ad) (hrc : Rd w A' n' c' cc) (hn1 : n ≤ 10000) (hn2 : n' ≤ 10000) :
    Calls Tryd.prog 29 #[.agg (key.map cellOf).toArray, .agg (nonce.map cellOf).toArray, .slice A n c, .slice A' n' c'] w fun e w' => e = .returned (.bool true) ∧ Below w.heap.size w w' := by
  obtain ⟨ok, hok⟩ : ∃ o, o = Ae.opens key nonce ad cc := ⟨_, rfl⟩
  obtain ⟨ot, hot⟩ : ∃ o, o = Ae.opened key nonce ad cc := ⟨_, rfl⟩
  have CP := Lib.hid (fun W (h1 : Rd W A n c ad) (h2 : Rd W A' n' c' cc) => hA.o key nonce hk hn h1 h2 hn1 hn2)
  have CR := Lib.hid (fun W (h1 : Rd W A n c ad) (h2 : Rd W A' n' c' cc) => ropen_any key nonce hk hn h1 h2 (by omega) (by omega))
  rw [← hok, ← hot] at CP CR
  obtain ⟨kc, hkc⟩ : ∃ c, c = key.map cellOf := ⟨_, rfl⟩
  obtain ⟨nc, hnc⟩ : ∃ c, c = nonce.map cellOf := ⟨_, rfl⟩
  rw [← hkc, ← hnc] at CP CR
  rw [← hkc, ← hnc]
  have IK : Hid ((Tryd.prog.info? 28).map (·.size) = some kc.length) := by unfold Hid; rw [hkc, List.length_map, hk]; kernel_rfl
  have IN : Hid ((Tryd.prog.info? 30).map (·.size) = some nc.length) := by unfold Hid; rw [hnc, List.length_map, hn]; kernel_rfl
  have HRA := Lib.hid hra
  have HRC := Lib.hid hrc
  clear hok hot hkc hnc hk hn hra hrc hA
  go_enter Tryd.func29, Tryd.ntmps29
  go_upto_region 1 with (fail)
  obtain ⟨w0, hw0⟩ : ∃ w0, w0 = (w.alloc (Obj.cells kc.toArray 28)).alloc (Obj.cells nc.toArray 30) := ⟨_, rfl⟩
  have B0 : Hid (Blk w0 w.heap.size 28 kc) := by unfold Hid; rw [hw0]; exact (Blk.new w _ _).alloc _
  have B1 : Hid (Blk w0 (w.heap.size + 1) 30 nc) := by unfold Hid; rw [hw0]; exact Blk.at_new _ _ _ _ _ rfl (by simp)
  have W0 : Hid (Below w.heap.size w w0) := by unfold Hid; rw [hw0]; exact ((Below.refl _ _).alloc (Nat.le_refl _) _).alloc (by simp) _
  change Code.wp _ _ _ _ ((w.alloc (Obj.cells kc.toArray 28)).alloc (Obj.cells nc.toArray 30))
  rw [← hw0]
  clear hw0
  go_wp2_with (first
    | ((with_reducible refine load_law rfl 28 (.tmp 4) rfl w.heap.size 0 rfl kc _ Tryd.underlying28 rfl IK.out B0.out.cells ?_))
    | ((with_reducible refine load_law rfl 30 (.tmp 5) rfl (w.heap.size + 1) 0 rfl nc _ Tryd.underlying30 rfl IN.out B1.out.cells ?_)))
  refine (CP.out w0 (HRA.out.below W0.out) (HRC.out.below W0.out)).mono ?_
  rintro e w1 ⟨A1, n1, c1, rfl, hR1, hX⟩
  have C0 := Lib.hid (B0.out.below hX B0.out.lt)
  have C1 := Lib.hid (B1.out.below hX B1.out.lt)
  have W1 := Lib.hid (W0.out.trans (hX.mono W0.out.size))
  have R1 := Lib.hid hR1
  clear hX hR1 B0 B1 CP W0
  go_wp2_with (first
    | ((with_reducible refine load_law rfl 28 (.tmp 4) rfl w.heap.size 0 rfl kc _ Tryd.underlying28 rfl IK.out C0.out.cells ?_))
    | ((with_reducible refine load_law rfl 30 (.tmp 5) rfl (w.heap.size + 1) 0 rfl nc _ Tryd.underlying30 rfl IN.out C1.out.cells ?_)))
  refine (CR.out w1 (HRA.out.below W1.out) (HRC.out.below W1.out)).mono ?_
  rintro e w2 ⟨A2, n2, c2, rfl, hR2, hX⟩
  have W2 := Lib.hid (W1.out.trans (hX.mono W1.out.size))
  have cv1 := conv_bytes (R1.out.below hX)
  have cv2 := conv_bytes hR2
  have hbe : (ok == ok) = true := by simp
  clear hX hR2 C0 C1 CR W1
  go_wp2_with fail
  go_ret
  exact ⟨rfl, W2.out⟩
end Go.Proofs.YtknpngeaodlmhaaDoor
