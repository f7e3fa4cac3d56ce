import Derived.Test.YtmidbpjdpakkoaaDoorSTlf
namespace Go.Proofs.YtmidbpjdpakkoaaDoor
set_option linter.unusedVariables false
set_option linter.unusedSimpArgs false
set_option maxRecDepth 100000
open Go.RowKit
def adr : Option Nat → Option Addr
  | none => none
  | some g => some ⟨g, 0, none⟩
def ptr (n : Option Nat) : Value := .pointer (adr n)
def nodeL (h : List UInt8) (q a b : Option Nat) : List Value := h.map cellOf ++ [ptr q, ptr a, ptr b]
def leafL (p : Tm.P) : List Value := p.1.map cellOf ++ p.2.map cellOf
inductive Tr (w : World) : Option Nat → Nat → List Tm.P → Prop
  | none (d : Nat) : Tr w none d []
  | one {g q d : Nat} {p : Tm.P} (h1 : Blk w g 72 (nodeL (Tm.leaf p.1 p.2) (some q) Option.none Option.none)) (h2 : Blk w q 75 (leafL p)) : Tr w (some g) d [p]
  | more {g d : Nat} {a b : Option Nat} {l : List Tm.P} (h : 2 ≤ l.length) (h1 : Blk w g 72 (nodeL (Tm.root d l) Option.none a b)) (ha : Tr w a (d + 1) (Tm.half false d l)) (hb : Tr w b (d + 1) (Tm.half true d l)) : Tr w (some g) d l
structure TrK (w w' : World) : Prop where
  node : ∀ g cs, Blk w g 72 cs → Blk w' g 72 cs
  leaf : ∀ g cs, Blk w g 75 cs → Blk w' g 75 cs
theorem Tr.keep {w w' : World} {n : Option Nat} {d : Nat} {l : List Tm.P} (h : Tr w n d l) (k : TrK w w') : Tr w' n d l := by
  induction h with
  | none d => exact .none d
  | one h1 h2 => exact .one (k.node _ _ h1) (k.leaf _ _ h2)
  | more h h1 _ _ iha ihb => exact .more h (k.node _ _ h1) iha ihb
theorem TrK.below {w w' : World} (h : Below w.heap.size w w') : TrK w w' := ⟨fun g cs hb => hb.below h hb.lt, fun g cs hb => hb.below h hb.lt⟩
theorem TrK.trans {a b c : World} (h : TrK a b) (k : TrK b c) : TrK a c := ⟨fun g cs hb => k.node g cs (h.node g cs hb), fun g cs hb => k.leaf g cs (h.leaf g cs hb)⟩
theorem TrK.grown {w w' : World} {r : Nat} {t : TypeId} {cs : List Value} (h : w.grownBy w' (some r)) (hr : Blk w r t cs) (h1 : t ≠ 72) (h2 : t ≠ 75) : TrK w w' := by
  have ne : ∀ g cs' t', Blk w g t' cs' → t ≠ t' → g ≠ r := fun g cs' t' hb ht e => by
    subst e
    unfold Blk at hb hr
    rw [hr] at hb
    injection hb with hb
    injection hb with _ hb _
    exact ht hb
  exact ⟨fun g cs' hb => (h.block g hb.lt fun e => ne g cs' _ hb h1 (by injection e)).trans hb, fun g cs' hb => (h.block g hb.lt fun e => ne g cs' _ hb h2 (by injection e)).trans hb⟩
theorem Tr.low {w w' : World} {n : Option Nat} {d : Nat} {l : List Tm.P} (h : Tr w n d l) (k : Below w.heap.size w w') : Tr w' n d l := h.keep (.below k)
theorem Tr.at_ {w : World} {n : Option Nat} {d : Nat} {p : Tm.P} (h : Tr w n d [p]) (d' : Nat) : Tr w n d' [p] := by
  cases h with
  | one h1 h2 => exact .one h1 h2
  | more h _ _ _ => simp at h
theorem nodeL_hash {h : List UInt8} {q a b : Option Nat} (hl : h.length = 32) (j : Nat) (hj : j < 32) : (nodeL h q a b)[j]? = (h.map cellOf)[j]? := by
  unfold nodeL; rw [List.getElem?_append_left (by simpa [hl] using hj)]
theorem nodeL_ptrs {h : List UInt8} {q a b : Option Nat} (hl : h.length = 32) : (nodeL h q a b)[32]? = some (ptr q) ∧ (nodeL h q a b)[33]? = some (ptr a) ∧ (nodeL h q a b)[34]? = some (ptr b) := by
  unfold nodeL
  refine ⟨?_, ?_, ?_⟩ <;> rw [List.getElem?_append_right (by simp [hl])] <;> simp [hl]
theorem leafL_length {p : Tm.P} (h1 : p.1.length = 32) (h2 : p.2.length = 32) : (leafL p).length = 64 := by simp [leafL, h1, h2]
theorem node_hash {w : World} {g : Nat} {h : List UInt8} {q a b : Option Nat} (hb : Blk w g 72 (nodeL h q a b)) (hl : h.length = 32) : ∀ j v, (h.map cellOf)[j]? = some v → w.cell? ⟨g, 0 + j, none⟩ = some v := fun j v hv => by
  have hj : j < 32 := by have := (List.getElem?_eq_some_iff.1 hv).1; simpa [hl] using this
  rw [Nat.zero_add, hb.cell, nodeL_hash hl j hj, hv]
theorem leaf_label {w : World} {g : Nat} {p : Tm.P} (hb : Blk w g 75 (leafL p)) (h1 : p.1.length = 32) : ∀ j v, (p.1.map cellOf)[j]? = some v → w.cell? ⟨g, 0 + j, none⟩ = some v := fun j v hv => by
  have hj : j < 32 := by have := (List.getElem?_eq_some_iff.1 hv).1; simpa [h1] using this
  rw [Nat.zero_add, hb.cell, leafL, List.getElem?_append_left (by simpa [h1] using hj), hv]
theorem leaf_sum {w : World} {g : Nat} {p : Tm.P} (hb : Blk w g 75 (leafL p)) (h1 : p.1.length = 32) : ∀ j v, (p.2.map cellOf)[j]? = some v → w.cell? ⟨g, 32 + j, none⟩ = some v := fun j v hv => by
  rw [hb.cell, leafL, List.getElem?_append_right (by simp [h1]), List.length_map, h1, Nat.add_sub_cancel_left, hv]
theorem many_of {w : World} {n : Option Nat} {d : Nat} {l : List Tm.P} (h : Tr w n d l) : Calls Tryd.prog 40 #[ptr n] w fun e w' => e = .returned (.bool (decide (2 ≤ l.length))) ∧ w = w' := by
  cases h with
  | none d =>
    unfold ptr adr
    go_enter Tryd.func40, Tryd.ntmps40
    go_wp2_with fail
    go_ret
    exact ⟨rfl, rfl⟩
  | one h1 h2 =>
    rename_i g q p
    have c0 := h1.cell 32
    rw [(nodeL_ptrs (Tm.leaf_length p.1 p.2)).1] at c0
    unfold ptr adr at c0 ⊢
    clear h1 h2
    go_enter Tryd.func40, Tryd.ntmps40
    go_wp2_with fail
    go_ret
    exact ⟨rfl, rfl⟩
  | more h h1 _ _ =>
    rename_i g a b
    have c0 := h1.cell 32
    rw [(nodeL_ptrs (Tm.root_length d l)).1] at c0
    rw [decide_eq_true h]
    unfold ptr adr at c0 ⊢
    clear h1 h
    go_enter Tryd.func40, Tryd.ntmps40
    go_wp2_with fail
    go_ret
    exact ⟨rfl, rfl⟩
end Go.Proofs.YtmidbpjdpakkoaaDoor
