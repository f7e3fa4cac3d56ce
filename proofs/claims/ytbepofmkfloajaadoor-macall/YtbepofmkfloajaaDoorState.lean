/- What a state of package sha holds. -/
import Derived.Test.YtbepofmkfloajaaDoorMix
import Derived.Test.YtbepofmkfloajaaDoorSlices
namespace Go.Proofs.YtbepofmkfloajaaDoor
set_option linter.unusedVariables false
set_option linter.unusedSimpArgs false
open Go.RowKit

/-- The cells of a state. -/
def stC (hs : List Int) (bl : List UInt8) (n : Nat) : List Value := hs.map wd ++ (bl.map cellOf ++ [.int .u64 (n : Int)])
theorem stC_length (hs : List Int) (bl : List UInt8) (n : Nat) (h : hs.length = 8) (hb : bl.length = 64) : (stC hs bl n).length = 73 := by simp [stC, h, hb]
theorem stC_sums (hs : List Int) (bl : List UInt8) (n : Nat) (h : hs.length = 8) : ∀ j v, (hs.map wd)[j]? = some v → (stC hs bl n)[0 + j]? = some v := fun j v hv => by
  have hj : j < 8 := by have := (List.getElem?_eq_some_iff.1 hv).1; simp at this; omega
  unfold stC
  rw [Nat.zero_add, List.getElem?_append_left (by simp; omega)]
  exact hv
theorem stC_block (hs : List Int) (bl : List UInt8) (n : Nat) (h : hs.length = 8) (hb : bl.length = 64) : ∀ j v, (bl.map cellOf)[j]? = some v → (stC hs bl n)[8 + j]? = some v := fun j v hv => by
  have hj : j < 64 := by have := (List.getElem?_eq_some_iff.1 hv).1; simp at this; omega
  unfold stC
  rw [List.getElem?_append_right (by simp; omega), List.getElem?_append_left (by simp; omega), ← hv]
  simp [h]
theorem stC_len (hs : List Int) (bl : List UInt8) (n : Nat) (h : hs.length = 8) (hb : bl.length = 64) : (stC hs bl n)[72]? = some (.int .u64 (n : Int)) := by
  unfold stC
  rw [List.getElem?_append_right (by simp; omega), List.getElem?_append_right (by simp; omega)]
  simp [h, hb]
theorem stC_newSums (hs hs' : List Int) (bl : List UInt8) (n : Nat) (h : hs.length = 8) (h' : hs'.length = 8) : (stC hs bl n).take 0 ++ hs'.map wd ++ (stC hs bl n).drop (0 + (hs'.map wd).length) = stC hs' bl n := by
  unfold stC
  rw [List.take_zero, List.nil_append, List.length_map, h', List.drop_append_of_le_length (by simp; omega), List.drop_of_length_le (by simp; omega), List.nil_append]
theorem stC_newBytes (hs : List Int) (bl x : List UInt8) (n a : Nat) (h : hs.length = 8) (hb : bl.length = 64) (hx : a + x.length ≤ 64) :
    (stC hs bl n).take (8 + a) ++ x.map cellOf ++ (stC hs bl n).drop (8 + a + (x.map cellOf).length) = stC hs (bl.take a ++ x ++ bl.drop (a + x.length)) n := by
  unfold stC
  rw [List.take_append, List.take_of_length_le (by simp; omega), List.take_append_of_le_length (by simp; omega), List.drop_append, List.drop_of_length_le (by simp; omega), List.drop_append_of_le_length (by simp; omega)]
  simp only [List.length_map, h, List.map_append, List.map_take, List.map_drop, List.nil_append, List.append_assoc]
  rw [show 8 + a - 8 = a by omega, show 8 + a + x.length - 8 = a + x.length by omega]
theorem stC_newLen (hs : List Int) (bl : List UInt8) (n n' : Nat) (h : hs.length = 8) (hb : bl.length = 64) : (stC hs bl n).set 72 (.int .u64 (n' : Int)) = stC hs bl n' := by
  unfold stC
  rw [List.set_append_right _ _ (by simp; omega), List.set_append_right _ _ (by simp; omega)]
  simp [h, hb]

/-- The state in block g has taken in m, its sums stand. -/
def Ready (w : World) (g : Nat) (m : List UInt8) : Prop := ∃ bl : List UInt8, Blk w g 54 (stC (Sha.absorb m) bl m.length) ∧ bl.length = 64 ∧ bl.take (m.length % 64) = m.drop (64 * (m.length / 64))
/-- The same; with nothing written the sums may be any. -/
def Holds (w : World) (g : Nat) (m : List UInt8) : Prop := ∃ (hs : List Int) (bl : List UInt8), Blk w g 54 (stC hs bl m.length) ∧ hs.length = 8 ∧ bl.length = 64 ∧ bl.take (m.length % 64) = m.drop (64 * (m.length / 64)) ∧ (m ≠ [] → hs = Sha.absorb m)
theorem Ready.holds {w : World} {g : Nat} {m : List UInt8} (h : Ready w g m) : Holds w g m := by
  obtain ⟨bl, h1, h2, h3⟩ := h
  exact ⟨_, bl, h1, Sha.absorb_length m, h2, h3, fun _ => rfl⟩
theorem Holds.keep {w w' : World} {g : Nat} {m : List UInt8} (h : Holds w g m) (hk : w'.heap[g]? = w.heap[g]?) : Holds w' g m := by
  obtain ⟨hs, bl, h1, h2⟩ := h
  exact ⟨hs, bl, hk.trans h1, h2⟩
theorem Holds.lt {w : World} {g : Nat} {m : List UInt8} (h : Holds w g m) : g < w.heap.size := by
  obtain ⟨hs, bl, h1, h2⟩ := h
  exact h1.lt
theorem absorb_nil : Sha.absorb [] = Sha.H0 := rfl

/-- What one more piece makes of a state: less than a block's end is come to. -/
theorem ready_less {w : World} {g : Nat} {m x : List UInt8} {bl : List UInt8} (hb : Blk w g 54 (stC (Sha.absorb m) (bl.take (m.length % 64) ++ x ++ bl.drop (m.length % 64 + x.length)) (m ++ x).length)) (hl : bl.length = 64) (ht : bl.take (m.length % 64) = m.drop (64 * (m.length / 64)))
    (hx : m.length % 64 + x.length < 64) : Ready w g (m ++ x) := by
  refine ⟨_, by rw [Sha.absorb_less m x hx]; exact hb, by simp; omega, ?_⟩
  have e1 : (m ++ x).length % 64 = m.length % 64 + x.length := by rw [List.length_append]; omega
  have e2 : (m ++ x).length / 64 = m.length / 64 := by rw [List.length_append]; omega
  rw [e1, e2, List.drop_append_of_le_length (by omega), ← ht, List.take_append_of_le_length (by simp; omega), List.take_of_length_le (by simp; omega)]
/-- The block is full: what it is. -/
theorem full_block {m x : List UInt8} {bl : List UInt8} (hl : bl.length = 64) (ht : bl.take (m.length % 64) = m.drop (64 * (m.length / 64))) (hx : m.length % 64 + x.length = 64) :
    bl.take (m.length % 64) ++ x ++ bl.drop (m.length % 64 + x.length) = m.drop (64 * (m.length / 64)) ++ x := by
  rw [ht, show bl.drop (m.length % 64 + x.length) = [] from List.drop_of_length_le (by omega), List.append_nil]
theorem ready_full {w : World} {g : Nat} {m x : List UInt8} (hb : Blk w g 54 (stC (Sha.comp (Sha.absorb m) (m.drop (64 * (m.length / 64)) ++ x)) (m.drop (64 * (m.length / 64)) ++ x) (m ++ x).length)) (hx : m.length % 64 + x.length = 64) : Ready w g (m ++ x) := by
  refine ⟨_, by rw [Sha.absorb_block m x hx]; exact hb, by simp; omega, ?_⟩
  have e1 : (m ++ x).length % 64 = 0 := by rw [List.length_append]; omega
  rw [e1, List.take_zero, List.drop_of_length_le (by rw [List.length_append]; omega)]

def slen : Value → Nat
  | .slice _ n _ => n
  | _ => 0

/-! Only one block has turned. -/
theorem only_drew {a w : World} {row : Option Nat} (h : a.grownBy w row) : a.grownBy w.drew row := ⟨h.os, h.tape, h.output, h.size, h.block⟩
theorem only_alloc {a w : World} {row : Option Nat} (h : a.grownBy w row) (o : Obj) : a.grownBy (w.alloc o) row :=
  ⟨h.os, h.tape, h.output, Nat.le_trans h.size (by simp), fun i hi hne => (Below.heap_alloc w o i (Nat.lt_of_lt_of_le hi h.size)).trans (h.block i hi hne)⟩
theorem only_setCell {a w : World} {g : Nat} (h : a.grownBy w (some g)) {p : Addr} (hp : p.block = g ∨ a.heap.size ≤ p.block) (u : Value) : a.grownBy (w.setCell p u) (some g) :=
  ⟨h.os, h.tape, h.output, by simpa [World.setCell] using h.size, fun i hi hne => (Below.heap_setCell w p u i (by
    rintro rfl
    rcases hp with hp | hp
    · exact hne (by rw [hp])
    · omega)).trans (h.block i hi hne)⟩
theorem only_setRow {a w : World} {g k : Nat} (h : a.grownBy w (some g)) (hp : k = g ∨ a.heap.size ≤ k) (c : Array Value) : a.grownBy (w.setRow k c) (some g) :=
  ⟨h.os, h.tape, h.output, by simpa using h.size, fun i hi hne => (setRow_other w k i c (by
    rintro rfl
    rcases hp with hp | hp
    · exact hne (by rw [hp])
    · omega)).trans (h.block i hi hne)⟩
theorem only_of_below {a w : World} (h : Below a.heap.size a w) (row : Option Nat) : a.grownBy w row := ⟨h.os, h.tape, h.output, h.size, fun i hi _ => h.block i hi⟩
theorem only_refl (a : World) (row : Option Nat) : a.grownBy a row := ⟨rfl, rfl, rfl, Nat.le_refl _, fun _ _ _ => rfl⟩
theorem only_trans {a b c : World} {row : Option Nat} (h : a.grownBy b row) (k : b.grownBy c row) : a.grownBy c row :=
  ⟨k.os.trans h.os, k.tape.trans h.tape, k.output.trans h.output, Nat.le_trans h.size k.size, fun i hi hne => (k.block i (Nat.lt_of_lt_of_le hi h.size) hne).trans (h.block i hi hne)⟩
/-- Block g was not there: all that was is as it was. -/
theorem below_of_only {a w w' : World} {g B : Nat} (h : Below B a w) (k : w.grownBy w' (some g)) (hB : B ≤ g) (hs : B ≤ w.heap.size) : Below B a w' :=
  ⟨k.os.trans h.os, k.tape.trans h.tape, k.output.trans h.output, Nat.le_trans h.size k.size, fun i hi => (k.block i (by omega) (by simp; omega)).trans (h.block i hi)⟩
theorem Gl.only {w w' : World} {g : Nat} (h : Gl w) (hb : w.grownBy w' (some g)) (hg : 2 ≤ g) : Gl w' :=
  ⟨fun j v hv => (World.cell?_of_block (a := ⟨0, 0 + j, none⟩) (hb.block 0 (by have := h.size; omega) (by simp; omega))).trans (h.first j v hv),
   fun j v hv => (World.cell?_of_block (a := ⟨1, 0 + j, none⟩) (hb.block 1 (by have := h.size; omega) (by simp; omega))).trans (h.rounds j v hv), Nat.le_trans h.size hb.size⟩
end Go.Proofs.YtbepofmkfloajaaDoor
