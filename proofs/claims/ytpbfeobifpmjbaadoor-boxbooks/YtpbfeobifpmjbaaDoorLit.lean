/- Texts that are turned to bytes: a literal's row, its mark. -/
import Derived.Test.YtpbfeobifpmjbaaDoorGrow
namespace Go.Proofs.YtpbfeobifpmjbaaDoor
set_option linter.unusedVariables false
set_option linter.unusedSimpArgs false
set_option maxRecDepth 100000
open Go.RowKit

/-- Only marks of blocks have turned. -/
structure Fz (w w' : World) : Prop where
  os : w'.os = w.os
  tape : w'.tape = w.tape
  output : w'.output = w.output
  size : w'.heap.size = w.heap.size
  block : ∀ i : Nat, w'.heap[i]? = w.heap[i]? ∨ ∃ C t fr fr', w.heap[i]? = some (Obj.cells C t fr) ∧ w'.heap[i]? = some (Obj.cells C t fr')
theorem Fz.cell {w w' : World} (h : Fz w w') (a : Addr) : w'.cell? a = w.cell? a := by
  rcases h.block a.block with e | ⟨C, t, fr, fr', e1, e2⟩
  · exact World.cell?_of_block e
  · simp only [World.cell?, e1, e2]
theorem Rd.fz {w w' : World} {A : Option Addr} {n c : Nat} {l : List UInt8} (h : Rd w A n c l) (hf : Fz w w') : Rd w' A n c l :=
  ⟨h.len, h.cap, h.max, fun h0 => by
    obtain ⟨b, off, e, hlt, hc⟩ := h.at_ h0
    exact ⟨b, off, e, by rw [hf.size]; exact hlt, fun j hj => (hf.cell _).trans (hc j hj)⟩⟩
/-- The value is a row of its own of these bytes, from block b on. -/
def Lt (w : World) (b : Nat) (x : Value) (l : List UInt8) : Prop := ∃ g fr, x = .slice (some ⟨g, 0, none⟩) l.length l.length ∧ b ≤ g ∧ w.heap[g]? = some (.cells (l.map cellOf).toArray 5 fr)
theorem heap_lt {w : World} {g : Nat} {o : Obj} (h : w.heap[g]? = some o) : g < w.heap.size := (Array.getElem?_eq_some_iff.1 h).1
theorem Lt.below {w w' : World} {b : Nat} {x : Value} {l : List UInt8} (h : Lt w b x l) (hb : Below w.heap.size w w') : Lt w' b x l := by
  obtain ⟨g, fr, e, hg, hh⟩ := h
  exact ⟨g, fr, e, hg, (hb.block g (heap_lt hh)).trans hh⟩
theorem Lt.fz {w w' : World} {b : Nat} {x : Value} {l : List UInt8} (h : Lt w b x l) (hf : Fz w w') : Lt w' b x l := by
  obtain ⟨g, fr, e, hg, hh⟩ := h
  rcases hf.block g with e1 | ⟨C, t, fr1, fr2, e1, e2⟩
  · exact ⟨g, fr, e, hg, e1.trans hh⟩
  · rw [hh] at e1
    injection e1 with e1
    injection e1 with e1 e3 e4
    subst e1
    subst e3
    exact ⟨g, fr2, e, hg, e2⟩
theorem Lt.rd {w : World} {b : Nat} {x : Value} {l : List UInt8} (h : Lt w b x l) {k : Nat} (hk : l.length = k) (hm : k ≤ 1000000) : ∃ g, x = .slice (some ⟨g, 0, none⟩) k k ∧ b ≤ g ∧ g < w.heap.size ∧ Rd w (some ⟨g, 0, none⟩) k k l := by
  subst hk
  obtain ⟨g, fr, e, hg, hh⟩ := h
  refine ⟨g, e, hg, heap_lt hh, rfl, Nat.le_refl _, by unfold maxLen; omega, fun _ => ⟨g, 0, rfl, heap_lt hh, fun j hj => ?_⟩⟩
  rw [Nat.zero_add, cell_of_row _ _ j _ 5 fr hh]
  simp [List.getD_eq_getElem?_getD, List.getElem?_eq_getElem hj]
/-- The value is bytes that can be read, from block b on. -/
def Nw (w : World) (b : Nat) (x : Value) (l : List UInt8) : Prop := ∃ A c, x = .slice A l.length c ∧ Rd w A l.length c l ∧ ∀ y, A = some y → 0 < l.length → b ≤ y.block
theorem Nw.below {w w' : World} {b : Nat} {x : Value} {l : List UInt8} (h : Nw w b x l) (hb : Below w.heap.size w w') : Nw w' b x l := by
  obtain ⟨A, c, e, hr, hf⟩ := h
  exact ⟨A, c, e, hr.below hb, hf⟩
theorem Nw.fz {w w' : World} {b : Nat} {x : Value} {l : List UInt8} (h : Nw w b x l) (hf : Fz w w') : Nw w' b x l := by
  obtain ⟨A, c, e, hr, hn⟩ := h
  exact ⟨A, c, e, hr.fz hf, hn⟩
theorem Nw.of {w : World} {b b' n c : Nat} {A : Option Addr} {l : List UInt8} (hr : Rd w A n c l) (hf : ∀ y, A = some y → 0 < n → b' ≤ y.block) (hb : b ≤ b') : Nw w b (.slice A n c) l := by
  obtain rfl := hr.len
  exact ⟨A, c, rfl, hr, fun y hy h0 => Nat.le_trans hb (hf y hy h0)⟩
/-- What it is, its length known. -/
theorem Nw.rd {w : World} {b : Nat} {x : Value} {l : List UInt8} (h : Nw w b x l) {k : Nat} (hk : l.length = k) : ∃ A c, x = .slice A k c ∧ Rd w A k c l ∧ ∀ y, A = some y → 0 < k → b ≤ y.block := by
  subst hk
  exact h
/-- A literal is laid. -/
theorem Lt.new (w : World) (b : Nat) (l : List UInt8) (a : Array Value) (n : Nat) (ha : a = (l.map cellOf).toArray) (hn : n = l.length) (hb : b ≤ w.heap.size) : Lt (w.alloc (.cells a 5)) b (.slice (some ⟨w.heap.size, 0, none⟩) n n) l := by
  subst ha
  subst hn
  exact ⟨w.heap.size, _, rfl, hb, heap_alloc_new w _⟩
/-- Its mark. -/
theorem conv_mark {w : World} {b : Nat} {x : Value} {l : List UInt8} (h : Lt w b x l) : ∃ w', (convert 28 28 x).run Tryd.prog w = .ok x w' ∧ Fz w w' ∧ ∀ w0, Below b w0 w → Below b w0 w' := by
  obtain ⟨g, fr, rfl, hg, hh⟩ := h
  have hlt := heap_lt hh
  obtain ⟨lo, hi⟩ := fr
  have hsh : w.shape? g = some (5, (l.map cellOf).toArray.size) := by unfold World.shape?; rw [hh]
  refine ⟨w.freeze ⟨g, (l.map cellOf).toArray.size, none⟩ 1, ?_, ?_, ?_⟩
  · simp [convert, run_underlying Tryd.underlying28, run_underlying Tryd.underlying5, markStringish, hsh]
  · have hz : (1 : Nat) ≠ 0 := by decide
    refine ⟨by simp [World.freeze], by simp [World.freeze], by simp [World.freeze], by simp [World.freeze], fun i => ?_⟩
    by_cases hi' : g = i
    · subst hi'
      have e : (w.freeze ⟨g, (l.map cellOf).toArray.size, none⟩ 1).heap[g]? = some (Obj.cells (l.map cellOf).toArray 5 (if lo == hi then ((l.map cellOf).toArray.size, (l.map cellOf).toArray.size + 1) else (min lo (l.map cellOf).toArray.size, max hi ((l.map cellOf).toArray.size + 1)))) := by
        simp only [World.freeze, hz, if_false, Array.getElem?_modify, if_true, hh, Option.map_some]
      exact .inr ⟨_, _, _, _, hh, e⟩
    · left
      simp [World.freeze, Array.getElem?_modify, hi']
  · intro w0 hb
    refine ⟨?_, ?_, ?_, ?_, fun i hi' => ?_⟩
    · simpa [World.freeze] using hb.os
    · simpa [World.freeze] using hb.tape
    · simpa [World.freeze] using hb.output
    · simpa [World.freeze] using hb.size
    · rw [← hb.block i hi']
      have hne : ¬ g = i := by omega
      simp [World.freeze, Array.getElem?_modify, hne]
/-- A value is moved. -/
theorem move_law {P : Program} {ops : Array Oper} {rest : List Oper} {o : Oper} {a : Act} {w : World} {Q : Exit → Act → World → Prop} (hgd : o.guard = none) (x : Operand) (ho : o.op = .move x)
    (hk : wpList P ops Q rest (a.put o.dst (a.eval x)) w) : wpList P ops Q (o :: rest) a w := by
  refine wpList_plain hgd fun _ hK => ?_
  unfold Oper.wp execOp
  simp only [ho, Sem.run_pure, Sem.run_bind, Result.andThen_ok]
  exact hK _ _ hk
end Go.Proofs.YtpbfeobifpmjbaaDoor
