/- Contracts of the document's Seal and Open. -/
import Derived.Test.YtknpngeaodlmhaaDoorAeR
import Derived.Test.YtknpngeaodlmhaaDoorGrow
namespace Go.Proofs.YtknpngeaodlmhaaDoor
set_option linter.unusedVariables false
set_option linter.unusedSimpArgs false
open Go.RowKit

/-- A whole array is loaded in a guarded part of a region that draws. -/
theorem step_loadW {P : Program} {ops : Array Oper} {op : Oper} {a : Act} {w : World} {K : Act → World → Prop} {Q : Exit → Act → World → Prop} {E : Prop} (hgd : Region.wanted op (yielded ops a.tmps) = true) (ty : TypeId) (x : Operand) (ho : op.op = .load ty x)
    (b off : Nat) (hx : a.eval x = .pointer (some ⟨b, off, none⟩)) (l : List Value) (d : TypeDesc) (hu : P.underlying ty = some d) (hd : (match d with | .struct _ | .array _ _ => true | _ => false) = true)
    (hi : (P.info? ty).map (·.size) = some l.length) (h : ∀ j v, l[j]? = some v → w.cell? ⟨b, off + j, none⟩ = some v)
    (hk : K (a.put op.dst (.agg l.toArray)) w) : if Region.wanted op (yielded ops a.tmps) = true then op.wp P a w K Q else E := by
  rw [if_pos hgd]
  unfold Oper.wp execOp
  simp only [ho, hx, Instr.loadAt, Instr.sureAddr, Sem.run_bind, Sem.run_pure, Result.andThen_ok, run_loadVar_list w ty b off l d hu hd hi h]
  exact hk

set_option maxRecDepth 100000 in
set_option maxHeartbeats 4000000 in
theorem rseal_any (key nonce : List UInt8) {w : World} {A A' : Option Addr} {n c n' c' : Nat} {ad b : List UInt8} (hk : key.length = 32) (hn : nonce.length = 12) (hra : Rd w A n c ad) (hrb : Rd w A' n' c' b) (hn1 : n ≤ 100000) (hn2 : n' ≤ 100000) :
    Calls Tryd.prog 28 #[.agg (key.map cellOf).toArray, .agg (nonce.map cellOf).toArray, .slice A n c, .slice A' n' c'] w (RetB w (Ae.sealed key nonce ad b)) := by
  have CX := Lib.hid (fun W (h : Rd W A' n' c' b) => rxor_own key nonce 1 h hn2 hk hn (by omega) (by omega))
  have CM := Lib.hid (fun (W : World) (AX : Option Addr) (cx : Nat) (h1 : Rd W A n c ad) (h2 : Rd W AX n' cx (Cha.xor key 1 nonce b)) => rmark_any key nonce hk hn h1 h2 hn1 hn2)
  obtain ⟨kc, hkc⟩ : ∃ c, c = key.map cellOf := ⟨_, rfl⟩
  obtain ⟨nc, hnc⟩ : ∃ c, c = nonce.map cellOf := ⟨_, rfl⟩
  rw [← hkc, ← hnc] at CX CM
  rw [← hkc, ← hnc]
  have IK : Hid ((Tryd.prog.info? 28).map (·.size) = some kc.length) := by unfold Hid; rw [hkc, List.length_map, hk]; kernel_rfl
  have IN : Hid ((Tryd.prog.info? 30).map (·.size) = some nc.length) := by unfold Hid; rw [hnc, List.length_map, hn]; kernel_rfl
  have HRA := Lib.hid hra
  have HRB := Lib.hid hrb
  obtain ⟨x, hx⟩ : ∃ x, x = Cha.xor key 1 nonce b := ⟨_, rfl⟩
  rw [← hx] at CX CM
  have LX : Hid (x.length = n') := by unfold Hid; rw [hx, Ae.xor_len, hrb.len]
  obtain ⟨mk, hmk⟩ : ∃ l, l = Ae.mark key nonce ad x := ⟨_, rfl⟩
  rw [← hmk] at CM
  have HS : Hid (Ae.sealed key nonce ad b = x ++ mk) := by unfold Hid Ae.sealed; rw [← hx, ← hmk]
  clear hkc hnc hk hn hra hrb hx hmk
  go_enter Tryd.func28, Tryd.ntmps28
  go_upto_region 1 with (fail)
  obtain ⟨w0, hw0⟩ : ∃ w0, w0 = (w.alloc (Obj.cells kc.toArray 28)).alloc (Obj.cells nc.toArray 30) := ⟨_, rfl⟩
  have B0 : Hid (Blk w0 w.heap.size 28 kc) := by unfold Hid; rw [hw0]; exact (Blk.new w _ _).alloc _
  have B1 : Hid (Blk w0 (w.heap.size + 1) 30 nc) := by unfold Hid; rw [hw0]; exact Blk.at_new _ _ _ _ _ rfl (by simp)
  have W0 : Hid (Below w.heap.size w w0) := by unfold Hid; rw [hw0]; exact ((Below.refl _ _).alloc (Nat.le_refl _) _).alloc (by simp) _
  change Code.wp _ _ _ _ ((w.alloc (Obj.cells kc.toArray 28)).alloc (Obj.cells nc.toArray 30))
  rw [← hw0]
  clear hw0
  go_wp2_with (first
    | ((with_reducible refine load_law rfl 28 (.tmp 4) rfl w.heap.size 0 rfl kc _ Tryd.underlying28 rfl IK.out B0.out.cells ?_))
    | ((with_reducible refine load_law rfl 30 (.tmp 5) rfl (w.heap.size + 1) 0 rfl nc _ Tryd.underlying30 rfl IN.out B1.out.cells ?_)))
  refine (CX.out w0 (HRB.out.below W0.out)).mono ?_
  rintro e w1 ⟨AX, cx, rfl, hRX, hX, hOX⟩
  have C0 := Lib.hid (B0.out.below hX B0.out.lt)
  have C1 := Lib.hid (B1.out.below hX B1.out.lt)
  have W1 := Lib.hid (W0.out.trans (hX.mono W0.out.size))
  have RX := Lib.hid hRX
  have OX := Lib.hid hOX
  have hs1 := hX.size
  have X1 := Lib.hid hX
  clear hX hRX hOX B0 B1 CX
  go_wp2_with (first
    | ((with_reducible refine load_law rfl 28 (.tmp 4) rfl w.heap.size 0 rfl kc _ Tryd.underlying28 rfl IK.out C0.out.cells ?_))
    | ((with_reducible refine load_law rfl 30 (.tmp 5) rfl (w.heap.size + 1) 0 rfl nc _ Tryd.underlying30 rfl IN.out C1.out.cells ?_)))
  refine (CM.out w1 AX cx (HRA.out.below W1.out) RX.out).mono ?_
  rintro e w2 ⟨g, rfl, hRM, hg, hX⟩
  have RM := Lib.hid hRM
  have O2 := Lib.hid (OX.out.keep hX)
  have X2 := Lib.hid (X1.out.trans (hX.mono hs1))
  have LN : Hid (x.length + 16 ≤ 140737488355328) := by unfold Hid; rw [LX.out]; omega
  clear hX hRM OX RX C0 C1 CM X1
  go_wp2_with (first
    | (at_builtin; refine onto_law rfl (.tmp 14) (.tmp 19) rfl rfl rfl RM.out O2.out LN.out X2.out.size X2.out ?_; intro v3 w3 O3 X3))
  go_ret
  exact ⟨_, rfl, by rw [HS.out]; exact Ow.more O3.out W0.out.size, W0.out.trans (X3.out.mono W0.out.size)⟩
end Go.Proofs.YtknpngeaodlmhaaDoor
