/- Sums are compared byte by byte; what the two tables hold when the call begins. -/
import Derived.Test.YtbepofmkfloajaaDoorBegun
import Derived.Test.YtbepofmkfloajaaDoorRows
import Derived.DeepKeys
import Derived.Lib.LaidTab
import Derived.LaidMore
import Derived.ProofKit
namespace Go.Proofs.YtbepofmkfloajaaDoor
set_option linter.unusedVariables false
set_option linter.unusedSimpArgs false
open Go.RowKit

theorem c5 : Tryd.prog.cellsOf 5 = 1 := by kernel_rfl
theorem part5 (w : World) (l : List UInt8) (i : Nat) (h : i < l.length) : (part 5 (l.map cellOf).toArray i).run Tryd.prog w = .ok (.int .u8 ((l.getD i 0).toNat : Int)) w := by
  have ha : (isAgg 5).run Tryd.prog w = .ok false w := by simp [isAgg, run_underlying Tryd.underlying5]
  have hb := bytes_at l i h
  simp only [part, Sem.run_bind, ha, Result.andThen_ok]
  simp [hb]
theorem eqItems_bytes (w : World) (dd : Nat) (l r : List UInt8) : ∀ (is : List Nat), (∀ i ∈ is, i < l.length ∧ i < r.length) →
    (Op.eqItems (dd + 1) 5 1 (l.map cellOf).toArray (r.map cellOf).toArray is).run Tryd.prog w = .ok (decide (∀ i ∈ is, l.getD i 0 = r.getD i 0)) w
  | [], _ => by simp [Op.eqItems]
  | i :: is, h => by
    have hi := h i (by simp)
    have ih := eqItems_bytes w dd l r is (fun j hj => h j (by simp [hj]))
    have hq : (Op.equalIn (dd + 1) 5 (.int .u8 ((l.getD i 0).toNat : Int)) (.int .u8 ((r.getD i 0).toNat : Int))).run Tryd.prog w = .ok (((l.getD i 0).toNat : Int) == ((r.getD i 0).toNat : Int)) w := by
      rw [run_equalIn_int w dd 5 .u8 .u8 _ _ Tryd.underlying5]
    have hii : i * 1 = i := Nat.mul_one i
    simp only [Op.eqItems, Sem.run_bind, hii, part5 w l i hi.1, part5 w r i hi.2, Result.andThen_ok, hq]
    by_cases he : l.getD i 0 = r.getD i 0
    · have hb : (((l.getD i 0).toNat : Int) == ((r.getD i 0).toNat : Int)) = true := by rw [he]; exact beq_self_eq_true _
      rw [hb]
      simp only [Bool.not_true, Bool.false_eq_true, if_false]
      rw [ih]
      congr 1
      rw [Bool.eq_iff_iff, decide_eq_true_iff, decide_eq_true_iff, List.forall_mem_cons]
      exact ⟨fun h => ⟨he, h⟩, fun h => h.2⟩
    · have hne : ¬ ((l.getD i 0).toNat : Int) = ((r.getD i 0).toNat : Int) := fun e => he (UInt8.toNat_inj.1 (by omega))
      have hb : (((l.getD i 0).toNat : Int) == ((r.getD i 0).toNat : Int)) = false := by simpa using hne
      rw [hb]
      have hd : decide (∀ j ∈ i :: is, l.getD j 0 = r.getD j 0) = false := by
        rw [decide_eq_false_iff_not]
        exact fun hall => he (hall i (by simp))
      rw [hd]
      rfl
/-- 'a == b' of two sums. -/
theorem equal30 (l r : List UInt8) (hl : l.length = 32) (hr : r.length = 32) (w : World) : (Op.equalIn 10000 30 (.agg (l.map cellOf).toArray) (.agg (r.map cellOf).toArray)).run Tryd.prog w = .ok (sameB l r) w := by
  obtain ⟨i0, hi, hz0, hz1, hz2⟩ := info_parts info5
  rw [run_equalIn_array w 9999 _ _ Tryd.underlying30 hi, c5, eqItems_bytes w 9998 l r (List.range 32) (fun i hi => by have := List.mem_range.1 hi; omega)]
  congr 1
  unfold sameB
  rw [Bool.eq_iff_iff, decide_eq_true_iff, decide_eq_true_iff]
  constructor
  · intro h
    apply List.ext_getElem (by omega)
    intro i h1 h2
    have := h i (List.mem_range.2 (by omega))
    simpa [List.getD_eq_getElem?_getD, List.getElem?_eq_getElem h1, List.getElem?_eq_getElem h2] using this
  · intro h i _
    rw [h]
theorem sameB_self (l : List UInt8) : sameB l l = true := by simp [sameB]
theorem Summed.uniq {m : List UInt8} {D D' : List Value} (h : Summed m D) (h' : Summed m D') : D' = D := h'.trans h.symm
theorem Maced.uniq {k m : List UInt8} {D D' : List Value} (h : Maced k m D) (h' : Maced k m D') : D' = D := h'.trans h.symm
theorem Summed.self {m : List UInt8} {D : List Value} (h : Summed m D) (w : World) : (Op.equalIn 10000 30 (.agg D.toArray) (.agg D.toArray)).run Tryd.prog w = .ok true w := by
  rw [h, equal30 _ _ (Sha.sum_length m) (Sha.sum_length m), sameB_self]
theorem Maced.self {k m : List UInt8} {D : List Value} (h : Maced k m D) (w : World) : (Op.equalIn 10000 30 (.agg D.toArray) (.agg D.toArray)).run Tryd.prog w = .ok true w := by
  rw [h, equal30 _ _ (Sha.hmac_length k m) (Sha.hmac_length k m), sameB_self]

theorem gFirst : Tryd.prog.globalNamed "indenture/sha.first" = some 0 := by kernel_rfl
theorem gRounds : Tryd.prog.globalNamed "indenture/sha.rounds" = some 1 := by kernel_rfl
theorem tFirst : (Tryd.prog.globals[0]?).map (·.type) = some 50 := by kernel_rfl
theorem tRounds : (Tryd.prog.globals[1]?).map (·.type) = some 56 := by kernel_rfl
theorem c49 : Tryd.prog.cellsOf 49 = 1 := by kernel_rfl
/-- The two listed variables. -/
def laid2 : List (String × DataW Unit) := [("indenture/sha.first", Rows.laid_indenture_sha_first), ("indenture/sha.rounds", Rows.laid_indenture_sha_rounds)]
theorem dFirst : (Rows.laid_indenture_sha_first : DataW Unit) = .agg (Sha.H0.map fun z => .lit (.int .u32 z)) := rfl
theorem dRounds : (Rows.laid_indenture_sha_rounds : DataW Unit) = .agg (Sha.K.map fun z => .lit (.int .u32 z)) := rfl
theorem gl_of_laid {W : World} (h : laidMetH Tryd.prog laid2 W) : Gl W := by
  rw [MakeChecks.laidMetH_plain _ _ _ (by kernel_rfl)] at h
  obtain ⟨ps, ⟨g0, t0, cs0, f0, p0, q0, hg0, ht0, hv0, hd0, ⟨g1, t1, cs1, f1, p1, q1, hg1, ht1, hv1, hd1, _, _⟩, _⟩, _, _⟩ := h
  obtain rfl := Option.some.inj (gFirst.symm.trans hg0)
  obtain rfl := Option.some.inj (gRounds.symm.trans hg1)
  obtain rfl := Option.some.inj (tFirst.symm.trans ht0)
  obtain rfl := Option.some.inj (tRounds.symm.trans ht1)
  rw [dFirst] at hd0
  rw [dRounds] at hd1
  have e0 := Lib.cells_of_tab Tryd.underlying50 Tryd.underlying49 c49 (by kernel_rfl) hd0
  have e1 := Lib.cells_of_tab Tryd.underlying56 Tryd.underlying49 c49 (by kernel_rfl) hd1
  have h1 : W.cell? ⟨1, 0, none⟩ = some (.int .u32 1116352408) := by
    rw [World.var?_cell hg1 hv1 0, ← Array.getElem?_toList, e1]
    rfl
  have hs := World.block_lt_of_cell? W ⟨1, 0, none⟩ h1
  refine ⟨fun j v hv => ?_, fun j v hv => ?_, hs⟩
  · rw [Nat.zero_add, World.var?_cell hg0 hv0 j, ← Array.getElem?_toList, e0]
    exact hv
  · rw [Nat.zero_add, World.var?_cell hg1 hv1 j, ← Array.getElem?_toList, e1]
    exact hv

theorem own : ownKnob Tryd.prog.godebug = none := by kernel_rfl
/-- The door's own heap meets the condition. -/
theorem door_met (os : Os) (args : Array Value) : laidMetH Tryd.prog laid2 ((World.doorLaid Tryd.prog 400 os).forCall (fun _ _ => 0) ⟨#[], args, []⟩).memory :=
  laidMetH_of_parts3 (fuel := 8) (laidMet_of_run' 8 (by kernel_rfl) (by kernel_rfl)) (by kernel_rfl) (by kernel_rfl)
end Go.Proofs.YtbepofmkfloajaaDoor
