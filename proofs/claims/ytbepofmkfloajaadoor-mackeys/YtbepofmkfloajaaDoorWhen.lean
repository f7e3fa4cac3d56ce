/- Append in a part of a statement that is guarded. -/
import Derived.Test.YtbepofmkfloajaaDoorApart
namespace Go.Proofs.YtbepofmkfloajaaDoor
set_option linter.unusedVariables false
set_option linter.unusedSimpArgs false
open Go.RowKit

theorem run_onto_any {wr : World} {B : Nat} {v : Value} {l : List UInt8} (hown : Ow wr B v l) (ty : TypeId) {A : Option Addr} {m c : Nat} {news : List UInt8} (hr : Rd wr A m c news) (hlen : l.length + m ≤ 140737488355328) (hB : B ≤ wr.heap.size) :
    ∃ v' w', (Builtin.append_ #[23, 23] ty #[v, .slice A m c]).run Tryd.prog wr = .ok v' w' ∧ Ow w' B v' (l ++ news) ∧ wr.grownBy w' v.ownBlock := by
  obtain ⟨i0, hi, hz0, hz1, hz2⟩ := info_parts info5
  cases A with
  | none =>
    have hm : m = 0 := by
      rcases Nat.eq_zero_or_pos m with h0 | h0
      · exact h0
      · obtain ⟨b, off, e, _⟩ := hr.at_ h0
        cases e
    subst hm
    obtain rfl : news = [] := List.eq_nil_of_length_eq_zero hr.len
    exact ⟨v, wr, run_onto_none hown ty c, by simpa using hown, only_refl _ _⟩
  | some ad =>
    have hn := hr.len
    have hl : (news.map cellOf).length = m * i0.size := by rw [hz1]; simpa using hn
    have hnews : ∀ j u, (news.map cellOf)[j]? = some u → wr.cell? (ad.add j) = some u := fun j u hu => by
      have hj : j < news.length := by simpa using (List.getElem?_eq_some_iff.1 hu).1
      obtain ⟨b, off, e, _, hc⟩ := hr.at_ (by omega)
      injection e with e
      subst e
      rw [add_plain, hc j (by omega), ← hu]
      simp [List.getD_eq_getElem?_getD, List.getElem?_eq_getElem hj]
    have h63 : l.length + m ≤ maxLen := by unfold maxLen; omega
    have hown' : wr.ownsRow B 5 i0.size v l.length (l.map cellOf) := by rw [hz1]; exact hown
    obtain ⟨v', w', hrun, h2, h3, h4⟩ := run_append_own (P := Tryd.prog) wr B 23 ty 5 i0 (.int .u8 0) i0.size i0.bytes Tryd.underlying23 hi hz0 rfl rfl (by rw [hz1]; rfl) (by rw [hz1]; omega) v l.length (l.map cellOf) hown' ad m c (news.map cellOf) hl hnews (cells_u8 news) h63 (by rw [hz2]; omega) hB
    refine ⟨v', w', hrun, ?_, h3⟩
    unfold Ow
    rw [hz1] at h2
    simpa [hn] using h2
/-- 'append(x, ys...)' of bytes that can be read, x nil or the call's own, wherever it is wanted. -/
theorem onto_when {ops : Array Oper} {rest : List Oper} {o : Oper} {a : Act} {Q : Exit → Act → World → Prop} {wr w0 : World} {B : Nat} {v : Value} {l : List UInt8} (hgd : Region.wanted o (yielded ops a.tmps) = true) (s x : Operand)
    (ho : o.op = .call { callee := .builtin .append, args := #[s, x], argTypes := #[23, 23] }) (hs : a.eval s = v) {A : Option Addr} {m c : Nat} {news : List UInt8} (hx : a.eval x = .slice A m c) (hr : Rd wr A m c news) (hown : Ow wr B v l)
    (hlen : l.length + m ≤ 140737488355328) (hB : B ≤ wr.heap.size) (hbel : Below B w0 wr)
    (h : ∀ v' w', Hid (Ow w' B v' (l ++ news)) → Hid (Below B w0 w') → Hid (wr.grownBy w' v.ownBlock) → wpList Tryd.prog ops Q rest (a.put o.dst v') w') : wpList Tryd.prog ops Q (o :: rest) a wr := by
  refine wpList_step fun K hK => ?_
  rw [if_pos hgd]
  obtain ⟨v', w', hrun, h2, h3⟩ := run_onto_any hown o.type hr hlen hB
  unfold Oper.wp execOp
  simp only [ho, resolve, invoke, builtin, Sem.run_bind, Sem.run_pure, Result.andThen_ok, List.map_toArray, List.map_cons, List.map_nil, hs, hx, hrun]
  exact hK _ _ (h v' w' h2 (hbel.grown h3 hB fun k hk => (hown.lt_ k hk).1) h3)
end Go.Proofs.YtbepofmkfloajaaDoor
