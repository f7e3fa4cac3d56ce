/- Loads and appends in guarded parts. -/
import Derived.Test.YtknpngeaodlmhaaDoorAeSame
namespace Go.Proofs.YtknpngeaodlmhaaDoor
set_option linter.unusedVariables false
set_option linter.unusedSimpArgs false
open Go.RowKit

/-- A whole array is loaded in a guarded part. -/
theorem load_when {P : Program} {ops : Array Oper} {rest : List Oper} {o : Oper} {a : Act} {w : World} {Q : Exit → Act → World → Prop} (hgd : Region.wanted o (yielded ops a.tmps) = true) (ty : TypeId) (x : Operand) (ho : o.op = .load ty x)
    (b off : Nat) (hx : a.eval x = .pointer (some ⟨b, off, none⟩)) (l : List Value) (d : TypeDesc) (hu : P.underlying ty = some d) (hd : (match d with | .struct _ | .array _ _ => true | _ => false) = true)
    (hi : (P.info? ty).map (·.size) = some l.length) (h : ∀ j v, l[j]? = some v → w.cell? ⟨b, off + j, none⟩ = some v)
    (hk : wpList P ops Q rest (a.put o.dst (.agg l.toArray)) w) : wpList P ops Q (o :: rest) a w :=
  wpList_step fun K hK => step_loadW hgd ty x ho b off hx l d hu hd hi h (hK _ _ hk)
/-- An append of bytes that can be read, as one step of a region that draws. -/
theorem step_any {ops : Array Oper} {o : Oper} {a : Act} {K : Act → World → Prop} {Q : Exit → Act → World → Prop} {E : Prop} {wr w0 : World} {B : Nat} {v : Value} {l : List UInt8} (hgd : Region.wanted o (yielded ops a.tmps) = true) (s x : Operand)
    (ho : o.op = .call { callee := .builtin .append, args := #[s, x], argTypes := #[23, 23] }) (hs : a.eval s = v) {A : Option Addr} {m c : Nat} {news : List UInt8} (hx : a.eval x = .slice A m c) (hr : Rd wr A m c news) (hown : Ow wr B v l)
    (hlen : l.length + m ≤ 140737488355328) (hB : B ≤ wr.heap.size) (hbel : Below B w0 wr)
    (h : ∀ v' w', Hid (Ow w' B v' (l ++ news)) → Hid (Below B w0 w') → K (a.put o.dst v') w') : if Region.wanted o (yielded ops a.tmps) = true then o.wp Tryd.prog a wr K Q else E := by
  rw [if_pos hgd]
  obtain ⟨v', w', hrun, h2, h3⟩ := run_onto_any hown o.type hr hlen hB
  unfold Oper.wp execOp
  simp only [ho, resolve, invoke, builtin, Sem.run_bind, Sem.run_pure, Result.andThen_ok, List.map_toArray, List.map_cons, List.map_nil, hs, hx, hrun]
  exact h v' w' h2 (hbel.grown h3 hB fun k hk => (hown.lt_ k hk).1)
/-- The same, and what it leaves as it was. -/
theorem step_grows {ops : Array Oper} {o : Oper} {a : Act} {K : Act → World → Prop} {Q : Exit → Act → World → Prop} {E : Prop} {wr w0 : World} {B : Nat} (hgd : Region.wanted o (yielded ops a.tmps) = true) (s x : Operand)
    (ho : o.op = .call { callee := .builtin .append, args := #[s, x], argTypes := #[23, 23] }) (hs : a.eval s = .slice none 0 0) {A : Option Addr} {m c : Nat} {news : List UInt8} (hx : a.eval x = .slice A m c) (hr : Rd wr A m c news)
    (hlen : m ≤ 140737488355328) (hB : B ≤ wr.heap.size) (hbel : Below B w0 wr)
    (h : ∀ v' w', Hid (Ow w' B v' news) → Hid (Below B w0 w') → Hid (Below wr.heap.size wr w') → K (a.put o.dst v') w') : if Region.wanted o (yielded ops a.tmps) = true then o.wp Tryd.prog a wr K Q else E := by
  rw [if_pos hgd]
  obtain ⟨v', w', hrun, h2, h3⟩ := run_onto_any (Ow.empty wr B) o.type hr (by simpa using hlen) hB
  unfold Oper.wp execOp
  simp only [ho, resolve, invoke, builtin, Sem.run_bind, Sem.run_pure, Result.andThen_ok, List.map_toArray, List.map_cons, List.map_nil, hs, hx, hrun]
  exact h v' w' h2 (hbel.grown h3 hB fun k hk => by cases hk) ((Below.refl wr.heap.size wr).grown h3 (Nat.le_refl _) fun k hk => by cases hk)
/-- Blocks of different types lie apart. -/
theorem blks_apart {w : World} {g g' : Nat} {t t' : TypeId} {cs cs' : List Value} (h : Blk w g t cs) (h' : Blk w g' t' cs') (hne : t ≠ t') : g ≠ g' := by
  intro e
  subst e
  unfold Blk at h h'
  rw [h] at h'
  injection h' with e1
  injection e1 with e2 e3
  exact hne e3
theorem one_at (x : UInt8) (j : Nat) (hj : j < 1) : ([Value.int .u8 (x.toNat : Int)] : List Value)[0 + j]? = some (cellOf ([x].getD j 0)) := by
  obtain rfl : j = 0 := by omega
  rfl
/-- The remainder of a number that is not below nought. -/
theorem rem_at (n : Int) (m : Nat) (h : 0 ≤ n) (hm : 0 < m) : ∃ k : Nat, n.tmod (m : Int) = (k : Int) ∧ k < m := by
  obtain ⟨q, rfl⟩ := Int.eq_ofNat_of_zero_le h
  exact ⟨q % m, rfl, Nat.mod_lt _ hm⟩
end Go.Proofs.YtknpngeaodlmhaaDoor
