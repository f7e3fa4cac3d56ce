/- Two rows of bytes beside each other, appended to in one statement. -/
import Derived.Test.YtbepofmkfloajaaDoorApart
import Derived.Test.YtbepofmkfloajaaDoorBegun
namespace Go.Proofs.YtbepofmkfloajaaDoor
set_option linter.unusedVariables false
set_option linter.unusedSimpArgs false
open Go.RowKit

/-- Two rows of bytes, both owned, in different blocks. -/
structure Two (w : World) (B : Nat) (v u : Value) (l r : List UInt8) : Prop where
  a : Ow w B v l
  b : Ow w B u r
  apart : Apart v u
theorem Two.swap {w : World} {B : Nat} {v u : Value} {l r : List UInt8} (h : Two w B v u l r) : Two w B u v r l := ⟨h.b, h.a, h.apart.symm⟩
theorem Two.keep {w w' : World} {B : Nat} {v u : Value} {l r : List UInt8} (h : Two w B v u l r) (hk : Below w.heap.size w w') : Two w' B v u l r := ⟨h.a.keep hk, h.b.keep hk, h.apart⟩
theorem Two.none (w : World) (B : Nat) : Two w B (.slice none 0 0) (.slice none 0 0) [] [] := ⟨Ow.empty w B, Ow.empty w B, .inl rfl⟩
/-- One byte in a block of its own, beside two rows. -/
structure Lone (w : World) (q : Nat) (x : UInt8) (v u : Value) : Prop where
  rd : Rd w (some ⟨q, 0, none⟩) 1 1 [x]
  v : v.ownBlock ≠ some q
  u : u.ownBlock ≠ some q
theorem Lone.swap {w : World} {q : Nat} {x : UInt8} {v u : Value} (h : Lone w q x v u) : Lone w q x u v := ⟨h.rd, h.u, h.v⟩
theorem Lone.keep {w w' : World} {q : Nat} {x : UInt8} {v u : Value} (h : Lone w q x v u) (hk : Below w.heap.size w w') : Lone w' q x v u := ⟨h.rd.below hk, h.v, h.u⟩
theorem Lone.lt {w : World} {q : Nat} {x : UInt8} {v u : Value} (h : Lone w q x v u) : q < w.heap.size := by
  obtain ⟨b, off, e, hlt, _⟩ := h.rd.at_ (by omega)
  injection e with e
  injection e with e1 _ _
  omega
theorem Lone.new {w : World} {B : Nat} {v u : Value} {l r : List UInt8} (h : Two w B v u l r) (x : UInt8) : Lone (w.alloc (.cells #[.int .u8 (x.toNat : Int)] 5)) w.heap.size x v u :=
  ⟨lit_bytes1 w x, fun e => Nat.lt_irrefl _ (h.a.lt_ _ e).2, fun e => Nat.lt_irrefl _ (h.b.lt_ _ e).2⟩
/-- Behind an append to the first row. -/
theorem Two.step {w w' : World} {B : Nat} {v v' u : Value} {l l' r : List UInt8} (h : Two w B v u l r) (ho : Ow w' B v' l') (hg : w.grownBy w' v.ownBlock) (hl : Lies w v v') : Two w' B v' u l' r :=
  ⟨ho, h.b.kept hg h.apart.symm, (Apart.lies h.apart.symm h.b hl).symm⟩
theorem Lone.step {w w' : World} {q : Nat} {x : UInt8} {v v' u : Value} (h : Lone w q x v u) (hg : w.grownBy w' v.ownBlock) (hl : Lies w v v') : Lone w' q x v' u := by
  have hlt := h.lt
  refine ⟨h.rd.keep hg.size (fun b off e _ hb => hg.block b hb (fun e2 => h.v ?_)), ?_, h.u⟩
  · injection e with e
    injection e with e1 _ _
    rw [← e2, e1]
  · rcases hl with hl | ⟨p, hp, hge⟩
    · rw [hl]; exact h.v
    · rw [hp]
      intro e
      injection e with e
      omega

/-- 'append(x, ys...)' of bytes that can be read, x nil or the call's own: which blocks it leaves alone. -/
theorem onto_grown {ops : Array Oper} {rest : List Oper} {o : Oper} {a : Act} {Q : Exit → Act → World → Prop} {wr w0 : World} {B : Nat} {v : Value} {l : List UInt8} (hgd : o.guard = none) (s x : Operand)
    (ho : o.op = .call { callee := .builtin .append, args := #[s, x], argTypes := #[23, 23] }) (hs : a.eval s = v) {A : Option Addr} {m c : Nat} {news : List UInt8} (hx : a.eval x = .slice A m c) (hr : Rd wr A m c news) (hown : Ow wr B v l)
    (hlen : l.length + m ≤ 140737488355328) (hB : B ≤ wr.heap.size) (hbel : Below B w0 wr)
    (h : ∀ v' w', Hid (Ow w' B v' (l ++ news)) → Hid (Below B w0 w') → Hid (wr.grownBy w' v.ownBlock) → wpList Tryd.prog ops Q rest (a.put o.dst v') w') : wpList Tryd.prog ops Q (o :: rest) a wr := by
  obtain ⟨i0, hi, hz0, hz1, hz2⟩ := info_parts info5
  cases A with
  | none =>
    have hm : m = 0 := by
      rcases Nat.eq_zero_or_pos m with h0 | h0
      · exact h0
      · obtain ⟨b, off, e, _⟩ := hr.at_ h0
        cases e
    subst hm
    obtain rfl : news = [] := List.eq_nil_of_length_eq_zero hr.len
    refine wpList_plain hgd fun K hK => ?_
    have hrun := run_onto_none hown o.type c
    unfold Oper.wp
    simp [execOp, ho, resolve, invoke, builtin, hs, hx, hrun, Result.andThen]
    exact hK _ _ (h v wr (by unfold Hid; simpa using hown) hbel (only_refl _ _))
  | some ad =>
    refine wpList_append_own _ hgd s x 23 ho B 5 i0 (.int .u8 0) 1 1 Tryd.underlying23 hi hz0 hz1 hz2 rfl (by decide) v l.length (l.map cellOf) hs hown ad m c (news.map cellOf) hx (by simpa using hr.len)
      (fun j u hu => ?_) (cells_u8 news) (by unfold maxLen; omega) (by omega) hB ?_
    · have hj : j < news.length := by simpa using (List.getElem?_eq_some_iff.1 hu).1
      obtain ⟨b, off, e, _, hc⟩ := hr.at_ (by have := hr.len; omega)
      injection e with e
      subst e
      rw [add_plain, hc j (by have := hr.len; omega), ← hu]
      simp [List.getD_eq_getElem?_getD, List.getElem?_eq_getElem hj]
    · intro v' w' h2 h3 _
      have hn := hr.len
      subst hn
      refine h v' w' (by unfold Hid Ow; simpa using h2) ?_ h3
      exact hbel.grown h3 hB fun k hk => (World.ownsRow.lt hown k hk).1
theorem mask_take (x : UInt8) (b : List UInt8) (k : Nat) (h : k < b.length) : Sha.mask x (b.take (k + 1)) = Sha.mask x (b.take k) ++ [b.getD k 0 ^^^ x] := by
  unfold Sha.mask
  rw [List.take_add_one, List.getElem?_eq_getElem h, List.map_append]
  simp [List.getD_eq_getElem?_getD, List.getElem?_eq_getElem h]
end Go.Proofs.YtbepofmkfloajaaDoor
