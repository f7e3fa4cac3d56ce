import Derived.Great.BuildSlice
import Derived.Deep.AppendLies
import Derived.Test.YtajgjeialbgijaaDoorSBox
namespace Go.Proofs.YtajgjeialbgijaaDoor
set_option linter.unusedVariables false
set_option linter.unusedSimpArgs false
set_option maxRecDepth 100000
open Go.RowKit
structure Rd2 (w : World) (s : Nat) (A : Option Addr) (n c : Nat) (els : List (List Value)) : Prop where
  len : els.length = n
  cap : n ≤ c
  max : c ≤ maxLen
  at_ : 0 < n → ∃ b off, A = some ⟨b, off, none⟩ ∧ b < w.heap.size ∧ ∀ j, j < n → ∀ i x, (els.getD j [])[i]? = some x → w.cell? ⟨b, off + j * s + i, none⟩ = some x
theorem Rd2.keep {w w' : World} {s : Nat} {A : Option Addr} {n c : Nat} {els : List (List Value)} (h : Rd2 w s A n c els) (hs : w.heap.size ≤ w'.heap.size) (hk : ∀ x : Addr, A = some x → 0 < n → x.block < w.heap.size → w'.heap[x.block]? = w.heap[x.block]?) : Rd2 w' s A n c els :=
  ⟨h.len, h.cap, h.max, fun h0 => by
    obtain ⟨b, off, rfl, hlt, hc⟩ := h.at_ h0
    have e := hk _ rfl h0 hlt
    exact ⟨b, off, rfl, by omega, fun j hj i x hx => (World.cell?_of_block (a := ⟨b, off + j * s + i, none⟩) e).trans (hc j hj i x hx)⟩⟩
theorem Rd2.below {w w' : World} {s : Nat} {A : Option Addr} {n c : Nat} {els : List (List Value)} (h : Rd2 w s A n c els) (hb : Below w.heap.size w w') : Rd2 w' s A n c els := h.keep hb.size fun _ _ _ hx => hb.block _ hx
theorem Rd2.nil (w : World) (s : Nat) : Rd2 w s none 0 0 [] := ⟨rfl, Nat.le_refl _, by unfold maxLen; omega, fun h => by omega⟩
structure Ow2 (w : World) (B : Nat) (e : TypeId) (s : Nat) (v : Value) (els : List (List Value)) : Prop where
  own : w.ownsRow B e s v els.length els.flatten
  each : ∀ x ∈ els, x.length = s
theorem Ow2.empty (w : World) (B : Nat) (e : TypeId) (s : Nat) : Ow2 w B e s (.slice none 0 0) [] := ⟨World.ownsRow_nil w B e s, by simp⟩
theorem flat_get {s : Nat} : ∀ {els : List (List Value)}, (∀ x ∈ els, x.length = s) → ∀ {j : Nat}, j < els.length → ∀ i, i < s → els.flatten[j * s + i]? = (els.getD j [])[i]?
  | [], _, _, hj, _, _ => by simp at hj
  | x :: l, h, 0, hj, i, hi => by
    have hx := h x (by simp)
    rw [List.flatten_cons, Nat.zero_mul, Nat.zero_add, List.getElem?_append_left (by omega)]
    rfl
  | x :: l, h, j + 1, hj, i, hi => by
    have hx := h x (by simp)
    rw [List.flatten_cons, List.getElem?_append_right (by rw [Nat.succ_mul]; omega), show (j + 1) * s + i - x.length = j * s + i by rw [Nat.succ_mul]; omega]
    exact flat_get (fun y hy => h y (by simp [hy])) (by simpa using hj) i hi
theorem Ow2.rd {w : World} {B : Nat} {e : TypeId} {s : Nat} {v : Value} {els : List (List Value)} (h : Ow2 w B e s v els) : ∃ A c, v = .slice A els.length c ∧ Rd2 w s A els.length c els ∧ ∀ x, A = some x → B ≤ x.block ∧ x.block < w.heap.size ∧ v.ownBlock = some x.block := by
  rcases h.own.2 with ⟨h1, h2⟩ | ⟨q, cap, cur, h1, h2, h3, h4, h5, h6, h7⟩
  · have : els = [] := List.eq_nil_of_length_eq_zero h2
    subst this
    exact ⟨none, 0, h1, Rd2.nil w s, fun x hx => by cases hx⟩
  · refine ⟨_, cap, h1, ⟨rfl, h4, h5, fun h0 => ⟨q, 0, rfl, (Array.getElem?_eq_some_iff.1 h3).1, fun j hj i x hx => ?_⟩⟩, fun x hx => ?_⟩
    · have hs : i < s := by
        have := (List.getElem?_eq_some_iff.1 hx).1
        rw [List.getD_eq_getElem?_getD, List.getElem?_eq_getElem hj] at this
        have e := h.each _ (List.getElem_mem hj)
        simp at this
        omega
      have hf := flat_get h.each hj i hs
      rw [hx, ← h7, List.getElem?_take_of_lt (by have := Nat.mul_le_mul_right s (show j + 1 ≤ els.length by omega); rw [Nat.succ_mul] at this; omega), Array.getElem?_toList] at hf
      rw [cell_of_row _ _ _ _ e _ h3, Nat.zero_add]
      exact hf
    · injection hx with hx
      subst hx
      exact ⟨h2, (Array.getElem?_eq_some_iff.1 h3).1, by rw [h1]; rfl⟩
theorem Ow2.keep {w w' : World} {B : Nat} {e : TypeId} {s : Nat} {v : Value} {els : List (List Value)} (h : Ow2 w B e s v els) (hv : ∀ q, v.ownBlock = some q → w'.heap[q]? = w.heap[q]?) : Ow2 w' B e s v els := by
  refine ⟨⟨h.own.1, ?_⟩, h.each⟩
  rcases h.own.2 with h1 | ⟨q, cap, cur, e1, h1, h2, h3⟩
  · exact .inl h1
  · exact .inr ⟨q, cap, cur, e1, h1, (hv q (by rw [e1]; rfl)).trans h2, h3⟩
theorem Ow2.below {w w' : World} {B : Nat} {e : TypeId} {s : Nat} {v : Value} {els : List (List Value)} (h : Ow2 w B e s v els) (hb : Below w.heap.size w w') : Ow2 w' B e s v els := h.keep fun q hq => hb.block q (World.ownsRow.lt h.own q hq).2
theorem Ow2.ne {w : World} {B g : Nat} {t e : TypeId} {s : Nat} {v : Value} {cs : List Value} {els : List (List Value)} (h : Ow2 w B e s v els) (hb : Blk w g t cs) (hne : t ≠ e) : some g ≠ v.ownBlock := blk_apart hb h.own hne
theorem Ow2.base {w : World} {B B' : Nat} {e : TypeId} {s : Nat} {v : Value} {els : List (List Value)} (h : Ow2 w B e s v els) (hB : B' ≤ B) : Ow2 w B' e s v els := by
  refine ⟨⟨h.own.1, ?_⟩, h.each⟩
  rcases h.own.2 with h1 | ⟨q, cap, cur, e1, h1, h2⟩
  · exact .inl h1
  · exact .inr ⟨q, cap, cur, e1, Nat.le_trans hB h1, h2⟩
theorem Ow2.slice {w : World} {B : Nat} {e : TypeId} {s : Nat} {v : Value} {els : List (List Value)} (h : Ow2 w B e s v els) : v.oneCell' = true := by
  obtain ⟨A, c, rfl, _⟩ := h.rd
  rfl
def RowAt (w : World) (B : Nat) (x : Value) (t : TypeId) (cs : List Value) : Prop := ∃ q, x = .slice (some ⟨q, 0, none⟩) 1 1 ∧ B ≤ q ∧ Blk w q t cs
theorem RowAt.below {w w' : World} {B : Nat} {x : Value} {t : TypeId} {cs : List Value} (h : RowAt w B x t cs) (hb : Below w.heap.size w w') : RowAt w' B x t cs := by
  obtain ⟨q, h1, h2, h3⟩ := h
  exact ⟨q, h1, h2, h3.below hb h3.lt⟩
theorem RowAt.new (w : World) {B : Nat} (t : TypeId) (cs : List Value) (hB : B ≤ w.heap.size) : RowAt (w.alloc (.cells cs.toArray t)) B (.slice (some ⟨w.heap.size, 0, none⟩) 1 1) t cs := ⟨_, rfl, hB, Blk.new w t cs⟩
theorem run_own2 {w : World} {B : Nat} {t ty e : TypeId} {i0 : TypeInfo} {z : Value} {s by_ : Nat} (ht : Tryd.prog.underlying t = some (.slice e)) (hi : Tryd.prog.info? e = some i0) (hz0 : i0.zero = some z) (hz1 : i0.size = s) (hz2 : i0.bytes = by_) (hzs : z.cells.size = s) (hs0 : 0 < s) (hby : by_ ≤ 1000) {v : Value} {els : List (List Value)} (h : Ow2 w B e s v els) {g c : Nat} {x : List Value} (hb : ∀ j u, x[j]? = some u → w.cell? ⟨g, j, none⟩ = some u) (hx : x.length = s) (h1 : ∀ u ∈ x, u.oneCell' = true) (hn : els.length ≤ 1000) (hB : B ≤ w.heap.size) :
    ∃ v' w', (Builtin.append_ #[t, t] ty #[v, .slice (some ⟨g, 0, none⟩) 1 c]).run Tryd.prog w = .ok v' w' ∧ Ow2 w' B e s v' (els ++ [x]) ∧ w.grownBy w' v.ownBlock ∧ Lies w v v' := by
  obtain ⟨g', cap, w', hr, h2, h3, h4, _⟩ := run_append_lies (P := Tryd.prog) w t ty B e i0 z s by_ ht hi hz0 hz1 hz2 hzs hs0 v els.length els.flatten h.own ⟨g, 0, none⟩ 1 c x (by rw [hx, Nat.one_mul]) (fun j u hu => by rw [add_plain, Nat.zero_add]; exact hb j u hu) h1 (by omega) (by unfold maxLen; omega) (Nat.le_trans (Nat.mul_le_mul (show els.length + 1 ≤ 1001 by omega) hby) (by omega)) hB w.heap.size rfl
  refine ⟨_, w', hr, ⟨by simpa using h2, fun y hy => ?_⟩, h3, ?_⟩
  · rcases List.mem_append.1 hy with hy | hy
    · exact h.each y hy
    · rw [List.mem_singleton.1 hy]; exact hx
  · rcases h4 with h4 | h4
    · exact .inl h4.symm
    · exact .inr ⟨g', rfl, by omega⟩
theorem step_append {P : Program} {ops : Array Oper} {op : Oper} {a : Act} {w w' : World} {v u v' : Value} {K : Act → World → Prop} {Q : Exit → Act → World → Prop} {E : Prop} (hgd : Region.wanted op (yielded ops a.tmps) = true) (s x : Operand) (t1 t2 : TypeId) (ho : op.op = .call { callee := .builtin .append, args := #[s, x], argTypes := #[t1, t2] }) (hs : a.eval s = v) (hx : a.eval x = u)
    (hr : (Builtin.append_ #[t1, t2] op.type #[v, u]).run P w = .ok v' w') (hk : K (a.put op.dst v') w') : if Region.wanted op (yielded ops a.tmps) = true then op.wp P a w K Q else E := by
  rw [if_pos hgd]
  unfold Oper.wp execOp
  simp only [ho, resolve, invoke, builtin, Sem.run_bind, Sem.run_pure, Result.andThen_ok, List.map_toArray, List.map_cons, List.map_nil, hs, hx, hr]
  exact hk
end Go.Proofs.YtajgjeialbgijaaDoor
