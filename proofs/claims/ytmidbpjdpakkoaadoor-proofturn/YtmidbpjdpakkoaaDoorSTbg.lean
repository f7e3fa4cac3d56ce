import Derived.Test.YtmidbpjdpakkoaaDoorSTal
import Derived.Test.YtmidbpjdpakkoaaDoorSTeq
import Derived.Test.YtmidbpjdpakkoaaDoorSTg0
namespace Go.Proofs.YtmidbpjdpakkoaaDoor
set_option linter.unusedVariables false
set_option linter.unusedSimpArgs false
set_option maxRecDepth 100000
open Go.RowKit
def BegunOk : Prop := ∀ {w : World}, Gl w → Calls Tryd.prog 14 #[] w fun e w' => e = .returned (.bool true) ∧ Below w.heap.size w w'
theorem prove_cells {W : World} {g : Nat} {l : List Tm.P} (hT : TreeAt W g l) {k : List UInt8} (hk : k.length = 32) : Calls Tryd.prog 21 #[.pointer (some ⟨g, 0, none⟩), hv k] W fun e w' => ∃ PP : List Value, e = .returned (.agg PP.toArray) ∧ PrfIn w' (.agg PP.toArray) (Tm.prove l k) ∧ (Tryd.prog.info? 38).map (·.size) = some PP.length ∧ (∀ v ∈ PP, v.oneCell' = true) ∧ PP.length = 66 ∧ Below W.heap.size W w' := by
  refine (tprove_any hT hk).mono ?_
  rintro e w' ⟨x, rfl, hP, hX⟩
  have hI := prove_in hT.fit hP
  obtain ⟨A, n, c, rfl, hR, _⟩ := hI.at_
  exact ⟨_, rfl, hI, proofL_info (by simpa using hI.lab) (by simpa using hI.sum), proofL_one rfl (cells_u8 _) (cells_u8 _), proofL_length (by simpa using hI.lab) (by simpa using hI.sum), hX⟩
theorem prove_row {W : World} {g : Nat} {l : List Tm.P} (hT : TreeAt W g l) {k : List UInt8} (hk : k.length = 32) : Calls Tryd.prog 21 #[.pointer (some ⟨g, 0, none⟩), hv k] W fun e w' => ∃ PP : List Value, e = .returned (.agg PP.toArray) ∧ PrfAt w' W.heap.size (.agg PP.toArray) (Tm.prove l k) ∧ (Tryd.prog.info? 38).map (·.size) = some PP.length ∧ (∀ v ∈ PP, v.oneCell' = true) ∧ PP.length = 66 ∧ Below W.heap.size W w' := by
  refine (tprove_any hT hk).mono ?_
  rintro e w' ⟨x, rfl, hP, hX⟩
  have hI := prove_in hT.fit hP
  obtain ⟨A, n, c, rfl, hR, _⟩ := hI.at_
  exact ⟨_, rfl, hP, proofL_info (by simpa using hI.lab) (by simpa using hI.sum), proofL_one rfl (cells_u8 _) (cells_u8 _), proofL_length (by simpa using hI.lab) (by simpa using hI.sum), hX⟩
theorem rprove_row {W : World} {A : Option Addr} {n c : Nat} {l : List Tm.P} (hr : Rd2 W 64 A n c (pairs l)) (hf : Tm.Fit 0 l) (hn : n ≤ 900) {k : List UInt8} (hk : k.length = 32) : Calls Tryd.prog 22 #[.slice A n c, hv k] W fun e w' => ∃ PP : List Value, e = .returned (.agg PP.toArray) ∧ PrfAt w' W.heap.size (.agg PP.toArray) (Tm.prove l k) ∧ (Tryd.prog.info? 38).map (·.size) = some PP.length ∧ (∀ v ∈ PP, v.oneCell' = true) ∧ PP.length = 66 ∧ Below W.heap.size W w' := by
  refine (rprove_any hr hf hn hk).mono ?_
  rintro e w' ⟨x, rfl, hP, hX⟩
  have hI := prove_in hf hP
  obtain ⟨A, n, c, rfl, hR, _⟩ := hI.at_
  exact ⟨_, rfl, hP, proofL_info (by simpa using hI.lab) (by simpa using hI.sum), proofL_one rfl (cells_u8 _) (cells_u8 _), proofL_length (by simpa using hI.lab) (by simpa using hI.sum), hX⟩
theorem RdZ.below {w w' : World} {A : Option Addr} {n c : Nat} {zs : List Int} (h : RdZ w A n c zs) (hb : Below w.heap.size w w') : RdZ w' A n c zs :=
  ⟨h.len, h.cap, h.max, h.lo, fun h0 => by
    obtain ⟨b, off, e, hlt, hc⟩ := h.at_ h0
    exact ⟨b, off, e, Nat.lt_of_lt_of_le hlt hb.size, fun j hj => (World.cell?_of_block (a := ⟨b, off + j, none⟩) (hb.block b hlt)).trans (hc j hj)⟩⟩
def PairsAt (w : World) (v : Value) (l : List Tm.P) : Prop := ∃ A c, v = .slice A l.length c ∧ Rd2 w 64 A l.length c (pairs l)
theorem PairsAt.below {w w' : World} {v : Value} {l : List Tm.P} (h : PairsAt w v l) (hb : Below w.heap.size w w') : PairsAt w' v l := by
  obtain ⟨A, c, e, hR⟩ := h
  exact ⟨A, c, e, hR.below hb⟩
theorem PairsAt.of {w : World} {B : Nat} {v : Value} {l : List Tm.P} (h : Ow2 w B 47 64 v (pairs l)) : PairsAt w v l := by
  obtain ⟨A, c, rfl, hR, _⟩ := h.rd
  have hl : (pairs l).length = l.length := by simp [pairs]
  rw [hl] at hR ⊢
  exact ⟨A, c, rfl, hR⟩
theorem tree_put {w w' : World} {g h : Nat} {l l2 : List Tm.P} (hT : TreeAt w g l) (hU : TreeAt w h l2) (hne : g ≠ h) (hG : w.grownBy w' (some h)) : TreeAt w' g l := by
  obtain ⟨tp, hbt, _⟩ := hU.blk
  exact hT.keep (hG.block g hT.lt (fun e => hne (Option.some.inj e))) (.grown hG hbt (by decide) (by decide))
theorem two_new (w : World) (t1 t2 : TypeId) (a1 a2 c1 c2 : List Value) :
    Blk ((((w.alloc (.cells a1.toArray t1)).alloc (.cells a2.toArray t2)).setRow w.heap.size c1.toArray).setRow (w.heap.size + 1) c2.toArray) w.heap.size t1 c1 ∧
    Blk ((((w.alloc (.cells a1.toArray t1)).alloc (.cells a2.toArray t2)).setRow w.heap.size c1.toArray).setRow (w.heap.size + 1) c2.toArray) (w.heap.size + 1) t2 c2 ∧
    Below w.heap.size w ((((w.alloc (.cells a1.toArray t1)).alloc (.cells a2.toArray t2)).setRow w.heap.size c1.toArray).setRow (w.heap.size + 1) c2.toArray) := by
  have h1 : Blk ((w.alloc (.cells a1.toArray t1)).alloc (.cells a2.toArray t2)) w.heap.size t1 a1 := (Blk.new w t1 _).alloc _
  have h2 : Blk ((w.alloc (.cells a1.toArray t1)).alloc (.cells a2.toArray t2)) (w.heap.size + 1) t2 a2 := Blk.at_new _ _ t2 _ _ rfl (by simp)
  exact ⟨(Blk.row h1).rowFar (by omega) _, Blk.row (h2.rowFar (by omega) _), below_setRow (below_setRow (((Below.refl _ _).alloc (Nat.le_refl _) _).alloc (by simp) _) (Nat.le_refl _) _) (by omega) _⟩
end Go.Proofs.YtmidbpjdpakkoaaDoor
