/- 'append(x, ys...)' of bytes that can be read, x nil or the call's own. -/
import Derived.Test.YtgjpppgcocmlhaaCame
namespace Go.Proofs.Ytgjpppgcocmlhaa
open Go.RowKit

theorem run_onto_none {wr : World} {B : Nat} {v : Value} {l : List UInt8} (hown : Ow wr B v l) (ty : TypeId) (c : Nat) : (Builtin.append_ #[22, 22] ty #[v, .slice none 0 c]).run Try.prog wr = .ok v wr := by
  obtain ⟨i0, hi, hz0, hz1, hz2⟩ := info_parts info5
  rcases hown.2 with ⟨rfl, _⟩ | ⟨g, cap, cur, rfl, _, _, hnc, _⟩
  · simp [Builtin.append_, run_underlying Try.underlying22, sizeOf, typeInfo, hi, Builtin.lenOf, Builtin.firstCells]
  · simp [Builtin.append_, run_underlying Try.underlying22, sizeOf, typeInfo, hi, Builtin.lenOf, Builtin.firstCells, hnc, storeCells]

theorem add_plain' (b off j : Nat) : (⟨b, off, none⟩ : Addr).add j = ⟨b, off + j, none⟩ := by unfold Addr.add; split <;> simp_all

theorem onto_law {ops : Array Oper} {rest : List Oper} {o : Oper} {a : Act} {Q : Exit → Act → World → Prop} {wr w0 : World} {B : Nat} {v : Value} {l : List UInt8} (hgd : o.guard = none) (s x : Operand)
    (ho : o.op = .call { callee := .builtin .append, args := #[s, x], argTypes := #[22, 22] }) (hs : a.eval s = v) {A : Option Addr} {m c : Nat} {news : List UInt8} (hx : a.eval x = .slice A m c) (hr : Rd wr A m c news) (hown : Ow wr B v l)
    (hlen : l.length + m ≤ 140737488355328) (hB : B ≤ wr.heap.size) (hbel : Below B w0 wr)
    (h : ∀ v' w', Hid (Ow w' B v' (l ++ news)) → Hid (Below B w0 w') → wpList Try.prog ops Q rest (a.put o.dst v') w') : wpList Try.prog ops Q (o :: rest) a wr := by
  obtain ⟨i0, hi, hz0, hz1, hz2⟩ := info_parts info5
  cases A with
  | none =>
    have hm : m = 0 := by
      rcases Nat.eq_zero_or_pos m with h0 | h0
      · exact h0
      · obtain ⟨b, off, e, _⟩ := hr.at_ h0
        cases e
    subst hm
    obtain rfl : news = [] := List.eq_nil_of_length_eq_zero hr.len
    refine wpList_plain hgd fun K hK => ?_
    have hrun := run_onto_none hown o.type c
    unfold Oper.wp
    simp [execOp, ho, resolve, invoke, builtin, hs, hx, hrun, Result.andThen]
    exact hK _ _ (h v wr (by unfold Hid; simpa using hown) hbel)
  | some ad =>
    refine wpList_append_own _ hgd s x 22 ho B 5 i0 (.int .u8 0) 1 1 Try.underlying22 hi hz0 hz1 hz2 rfl (by decide) v l.length (l.map cellOf) hs hown ad m c (news.map cellOf) hx (by simpa using hr.len)
      (fun j u hu => ?_) (cells_one news) (by unfold maxLen; omega) (by omega) hB ?_
    · have hj : j < news.length := by simpa using (List.getElem?_eq_some_iff.1 hu).1
      obtain ⟨b, off, e, _, hc⟩ := hr.at_ (by have := hr.len; omega)
      injection e with e
      subst e
      rw [add_plain', hc j (by have := hr.len; omega), ← hu]
      simp [List.getD_eq_getElem?_getD, List.getElem?_eq_getElem hj]
    · intro v' w' h2 h3 _
      have hn := hr.len
      subst hn
      refine h v' w' (by unfold Hid Ow; simpa using h2) ?_
      exact hbel.grown h3 hB fun k hk => (World.ownsRow.lt hown k hk).1

/-- What is owned can be read, nil too. -/
theorem Ow.value {w : World} {base : Nat} {v : Value} {l : List UInt8} (h : Ow w base v l) : ∃ A c, v = .slice A l.length c ∧ Rd w A l.length c l := by
  rcases Nat.eq_zero_or_pos l.length with h0 | h0
  · have hl : l = [] := List.eq_nil_of_length_eq_zero h0
    subst hl
    rcases h.2 with ⟨rfl, _⟩ | ⟨g, cap, cur, rfl, _, _, _, hm, _⟩
    · exact ⟨_, _, rfl, Rd.nil _ _ _ (by unfold maxLen; omega)⟩
    · exact ⟨_, _, rfl, Rd.nil _ _ _ hm⟩
  · obtain ⟨g, c, rfl, _, _, hr⟩ := h.slice _ rfl h0
    exact ⟨_, _, rfl, hr⟩

theorem Rd.drew {w : World} {A : Option Addr} {n c : Nat} {l : List UInt8} (h : Rd w A n c l) : Rd w.drew A n c l := h.below ((Below.refl _ _).drew)
end Go.Proofs.Ytgjpppgcocmlhaa
