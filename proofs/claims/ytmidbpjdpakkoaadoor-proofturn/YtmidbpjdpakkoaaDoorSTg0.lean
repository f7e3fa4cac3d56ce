import Derived.Test.YtmidbpjdpakkoaaDoorSTck
import Derived.Test.YtmidbpjdpakkoaaDoorSTgr
namespace Go.Proofs.YtmidbpjdpakkoaaDoor
set_option linter.unusedVariables false
set_option linter.unusedSimpArgs false
set_option maxRecDepth 100000
open Go.RowKit
theorem put_keeps {w w' : World} {g b : Nat} {l : List Tm.P} {t : TypeId} {cs : List Value} (hT : TreeAt w g l) (hb : Blk w b t cs) (hne : t ≠ 66) (hG : w.grownBy w' (some g)) : Blk w' b t cs := by
  obtain ⟨tp, hbt, _⟩ := hT.blk
  refine (hG.block b hb.lt (fun e => ?_)).trans hb
  have e : b = g := Option.some.inj e
  subst e
  unfold Blk at hb hbt
  rw [hb] at hbt
  injection hbt with h
  injection h with _ h _
  exact hne h
theorem row_keeps {w w' : World} {g B : Nat} {l : List Tm.P} {e : TypeId} {s : Nat} {v : Value} {els : List (List Value)} (hT : TreeAt w g l) (h : Ow2 w B e s v els) (hne : 66 ≠ e) (hG : w.grownBy w' (some g)) : Ow2 w' B e s v els := by
  obtain ⟨tp, hbt, _⟩ := hT.blk
  exact h.keep fun q hq => hG.block q (World.ownsRow.lt h.own q hq).2 (fun e => h.ne hbt hne (by rw [hq, e]))
theorem prf_keeps {w w' : World} {g B : Nat} {l : List Tm.P} {x : Value} {p : Tm.Prf} (hT : TreeAt w g l) (h : PrfAt w B x p) (hG : w.grownBy w' (some g)) : PrfAt w' B x p := by
  obtain ⟨v, e, hO⟩ := h.at_
  exact ⟨⟨v, e, row_keeps hT hO (by decide) hG⟩, h.lab, h.sum⟩
theorem PrfAt.below {w w' : World} {B : Nat} {x : Value} {p : Tm.Prf} (h : PrfAt w B x p) (hb : Below w.heap.size w w') : PrfAt w' B x p := by
  obtain ⟨v, e, hO⟩ := h.at_
  exact ⟨⟨v, e, hO.below hb⟩, h.lab, h.sum⟩
theorem PrfAt.in_ {w : World} {B : Nat} {x : Value} {p : Tm.Prf} (h : PrfAt w B x p) (he : ∀ y ∈ p.sides, y.length = 32) (hn : p.sides.length ≤ 1000) : PrfIn w x p := by
  obtain ⟨v, e, hO⟩ := h.at_
  obtain ⟨A, c, rfl, hR, _⟩ := hO.rd
  have hl : (hashes p.sides).length = p.sides.length := by simp [hashes]
  rw [hl] at hR e
  exact ⟨⟨A, _, c, e, hR, hn⟩, h.lab, h.sum, he⟩
theorem blk_ne {w : World} {g g' : Nat} {t t' : TypeId} {cs cs' : List Value} (h : Blk w g t cs) (h' : Blk w g' t' cs') (hne : t ≠ t') : g ≠ g' := fun e => by
  subst e
  unfold Blk at h h'
  rw [h] at h'
  injection h' with h1
  injection h1 with _ h1 _
  exact hne h1
theorem tree_row {w : World} {g q : Nat} {l : List Tm.P} {t : TypeId} {cs0 : List Value} (hT : TreeAt w g l) (hq : Blk w q t cs0) (h1 : t ≠ 72) (h2 : t ≠ 75) (h3 : t ≠ 66) (cs : Array Value) : TreeAt (w.setRow q cs) g l := by
  obtain ⟨tp, hbt, _⟩ := hT.blk
  exact hT.keep (setRow_other _ _ _ _ (blk_ne hbt hq (Ne.symm h3))) ⟨fun g' cs hb => hb.rowFar (blk_ne hb hq (Ne.symm h1)) _, fun g' cs hb => hb.rowFar (blk_ne hb hq (Ne.symm h2)) _⟩
def AtN (w : World) (B : Nat) (x : Value) (t : TypeId) (n : Nat) : Prop := ∃ q, x = .pointer (some ⟨q, 0, none⟩) ∧ B ≤ q ∧ ∃ cs, Blk w q t cs ∧ cs.length = n
theorem AtN.below {w w' : World} {B : Nat} {x : Value} {t : TypeId} {n : Nat} (h : AtN w B x t n) (hb : Below w.heap.size w w') : AtN w' B x t n := by
  obtain ⟨q, e, hB, cs, hQ, hl⟩ := h
  exact ⟨q, e, hB, cs, hQ.below hb hQ.lt, hl⟩
theorem At.n {w : World} {B : Nat} {x : Value} {t : TypeId} {cs : List Value} {n : Nat} (h : At w B x t cs) (hn : cs.length = n) : AtN w B x t n := by
  obtain ⟨q, e, hB, hQ⟩ := h
  exact ⟨q, e, hB, cs, hQ, hn⟩
namespace Tm
theorem prove_each {l : List P} {k : List UInt8} : ∀ y ∈ (prove l k).sides, y.length = 32 := by
  unfold prove
  rw [sides_of]
  exact sides_each _ _ _ _
theorem prove_length {l : List P} (h : Fit 0 l) (k : List UInt8) : (prove l k).sides.length ≤ 256 := by
  unfold prove
  rw [sides_of]
  have := sides_length 257 0 k l rfl h (by omega)
  omega
end Tm
theorem prove_in {w : World} {B : Nat} {x : Value} {l : List Tm.P} {k : List UInt8} (hf : Tm.Fit 0 l) (h : PrfAt w B x (Tm.prove l k)) : PrfIn w x (Tm.prove l k) :=
  h.in_ Tm.prove_each (by have := Tm.prove_length hf k; omega)
end Go.Proofs.YtmidbpjdpakkoaaDoor
