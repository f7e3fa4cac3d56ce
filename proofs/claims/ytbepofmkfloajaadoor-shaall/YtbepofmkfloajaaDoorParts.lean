/- A slice of slices of bytes that a call owns, and one that came in; rows and states beside each other. -/
import Derived.Test.YtbepofmkfloajaaDoorTwo
import Derived.Test.YtbepofmkfloajaaDoorCommon
import Derived.Deep.Matrix
namespace Go.Proofs.YtbepofmkfloajaaDoor
set_option linter.unusedVariables false
set_option linter.unusedSimpArgs false
open Go.RowKit

theorem info23 : (Tryd.prog.info? 23).map (fun i => (i.zero, i.size, i.bytes)) = some (some (.slice none 0 0), 1, 24) := by kernel_rfl
/-- The value v owns the slices xs, in a row from block 'base' on. -/
def OwP (w : World) (base : Nat) (v : Value) (xs : List Value) : Prop := w.ownsRow base 23 1 v xs.length xs
theorem OwP.empty (w : World) (B : Nat) : OwP w B (.slice none 0 0) [] := World.ownsRow_nil w B 23 1
theorem OwP.kept {w w' : World} {B : Nat} {v : Value} {xs : List Value} {row : Option Nat} (h : OwP w B v xs) (hg : w.grownBy w' row) (hne : v.ownBlock = none ∨ v.ownBlock ≠ row) : OwP w' B v xs := World.ownsRow.kept h hg hne
theorem OwP.keep {w w' : World} {B : Nat} {v : Value} {xs : List Value} (h : OwP w B v xs) (hk : Below w.heap.size w w') : OwP w' B v xs := by
  refine ⟨h.1, ?_⟩
  rcases h.2 with ⟨rfl, h2⟩ | ⟨g, cap, cur, rfl, hb, hg, h3⟩
  · exact .inl ⟨rfl, h2⟩
  · refine .inr ⟨g, cap, cur, rfl, hb, ?_, h3⟩
    rw [hk.block g ?_]
    · exact hg
    · rcases Nat.lt_or_ge g w.heap.size with hlt | hge
      · exact hlt
      · rw [Array.getElem?_eq_none hge] at hg; cases hg

/-- Rows of different types lie in different blocks. -/
theorem rows_apart {w : World} {B B' : Nat} {v u : Value} {n m s s' : Nat} {xs ys : List Value} {e e' : TypeId} (h : w.ownsRow B e s v n xs) (k : w.ownsRow B' e' s' u m ys) (hne : e ≠ e') : v.ownBlock = none ∨ v.ownBlock ≠ u.ownBlock := by
  rcases h.2 with ⟨rfl, _⟩ | ⟨g, cap, cur, rfl, _, hg, _⟩
  · exact .inl rfl
  · rcases k.2 with ⟨rfl, _⟩ | ⟨g', cap', cur', rfl, _, hg', _⟩
    · exact .inr (by simp [Value.ownBlock])
    · refine .inr fun e1 => ?_
      have e2 : g = g' := by simpa [Value.ownBlock] using e1
      subst e2
      rw [hg] at hg'
      injection hg' with h1
      injection h1 with _ h2 _
      exact hne h2
/-- A block of another type is not a row's. -/
theorem blk_apart {w : World} {B g : Nat} {t e : TypeId} {cs : List Value} {v : Value} {n s : Nat} {xs : List Value} (hb : Blk w g t cs) (h : w.ownsRow B e s v n xs) (hne : t ≠ e) : some g ≠ v.ownBlock := by
  rcases h.2 with ⟨rfl, _⟩ | ⟨g', cap, cur, rfl, _, hg, _⟩
  · simp [Value.ownBlock]
  · intro e1
    have e2 : g = g' := by simpa [Value.ownBlock] using e1
    subst e2
    unfold Blk at hb
    rw [hg] at hb
    injection hb with h1
    injection h1 with _ h2 _
    exact hne h2.symm
theorem Holds.bytes_ne {w : World} {g B : Nat} {m l : List UInt8} {v : Value} (h : Holds w g m) (k : Ow w B v l) : some g ≠ v.ownBlock := by
  obtain ⟨hs, bl, h1, _⟩ := h
  exact blk_apart h1 k (by decide)
theorem Holds.parts_ne {w : World} {g B : Nat} {m : List UInt8} {xs : List Value} {v : Value} (h : Holds w g m) (k : OwP w B v xs) : some g ≠ v.ownBlock := by
  obtain ⟨hs, bl, h1, _⟩ := h
  exact blk_apart h1 k (by decide)

theorem Ow.rdv {w : World} {B : Nat} {A : Option Addr} {n c : Nat} {l : List UInt8} (h : Ow w B (.slice A n c) l) (hn : l.length = n) : Rd w A n c l := by
  obtain ⟨A', c', e, hr, _⟩ := h.value
  rw [hn] at e hr
  injection e with e1 e2 e3
  subst e1; subst e3
  exact hr
/-- 'append(l, p)' of one slice. -/
theorem push_part {ops : Array Oper} {rest : List Oper} {o : Oper} {a : Act} {Q : Exit → Act → World → Prop} {wr w0 : World} {B : Nat} {v p : Value} {xs : List Value} (hgd : o.guard = none) (s x : Operand)
    (ho : o.op = .call { callee := .builtin .append, args := #[s, x], argTypes := #[22, 22] }) (hs : a.eval s = v) (hx : a.eval x = .slice (some ⟨wr.heap.size, 0, none⟩) 1 1) (hp : p.oneCell' = true) (hown : OwP wr B v xs)
    (hlen : xs.length + 1 ≤ 1000000) (hB : B ≤ wr.heap.size) (hbel : Below B w0 wr)
    (h : ∀ v' w', Hid (OwP w' B v' (xs ++ [p])) → Hid (Below B w0 w') → Hid (wr.grownBy w' v.ownBlock) → wpList Tryd.prog ops Q rest (a.put o.dst v') w') : wpList Tryd.prog ops Q (o :: rest) a (wr.alloc (.cells #[p] 23)) := by
  obtain ⟨i0, hi, hz0, hz1, hz2⟩ := info_parts info23
  refine wpList_append_own _ hgd s x 22 ho B 23 i0 (.slice none 0 0) 1 24 Tryd.underlying22 hi hz0 hz1 hz2 rfl (by decide) v xs.length xs hs (World.ownsRow.alloc hown _) ⟨wr.heap.size, 0, none⟩ 1 1 [p] hx rfl
    (cell_one_new _ _ _) (fun u hu => by simp at hu; subst hu; exact hp) (by unfold maxLen; omega) (by omega) (by simp; omega) ?_
  intro v' w' h2 h3 _
  refine h v' w' (by unfold Hid OwP; simpa using h2) ?_ (only_trans (only_alloc (only_refl wr _) _) h3)
  refine (hbel.alloc hB _).grown h3 (by simp; omega) fun k hk => ?_
  exact (World.ownsRow.lt hown k hk).1
/-- What is owned can be read, nil too. -/
theorem OwP.parts {w : World} {B : Nat} {v : Value} {xs : List Value} {ps : List (List UInt8)} (h : OwP w B v xs) (hl : ps.length = xs.length) (hp : ∀ j, j < xs.length → ∃ A n c, xs[j]? = some (.slice A n c) ∧ Rd w A n c (ps.getD j [])) :
    ∃ A c, v = .slice A xs.length c ∧ RdP w A xs.length ps := by
  rcases Nat.eq_zero_or_pos xs.length with h0 | h0
  · rcases h.2 with ⟨rfl, _⟩ | ⟨g, cap, cur, rfl, _⟩
    · exact ⟨none, 0, by rw [h0], hl, fun j hj => by omega⟩
    · exact ⟨_, _, rfl, hl, fun j hj => by omega⟩
  · obtain ⟨g, c, rfl, hb, hlt⟩ := World.ownsRow.form h h0
    refine ⟨_, _, rfl, hl, fun j hj => ?_⟩
    obtain ⟨A, n, c', hx, hr⟩ := hp j hj
    refine ⟨g, 0, A, n, c', rfl, hlt, ?_, hr⟩
    have h1 := World.ownsRow.cellAt h j (by simpa using hj)
    rw [Nat.zero_add, h1]
    exact hx

theorem rdp_came {w : World} {base : Nat} {a : Addr} {len cap : Nat} {A : Nat → Option Addr} {L C : Nat → Nat} {Z : Nat → List Int} (hl : len ≤ cap)
    (hx : ∀ r, r < cap → w.cell? (a.add r) = some (.slice (A r) (L r) (C r)) ∧ L r ≤ C r ∧ C r ≤ maxLen ∧ (Z r).length = C r ∧ (∀ n ∈ Z r, (Lit.int .u8 n).wf = true) ∧ (A r = none → C r = 0) ∧
        ∀ a', A r = some a' → base ≤ a'.block ∧ ∀ c, c < C r → w.cell? (a'.add c) = some (.int .u8 ((Z r).getD c 0))) : ∃ ps, RdP w (some a) len ps := by
  have each : ∀ r, ∃ l, r < len → Rd w (A r) (L r) (C r) l := fun r => by
    by_cases hr : r < len
    · obtain ⟨_, h1, h2, h3, h4, h5, h6⟩ := hx r (by omega)
      have : ∃ l, Rd w (A r) (L r) (C r) l := by
        refine rd_came (zs := Z r) ?_
        cases hA : A r with
        | none =>
          have hc := h5 hA
          exact .inl ⟨rfl, by omega, hc, List.eq_nil_of_length_eq_zero (by omega)⟩
        | some a' =>
          exact .inr ⟨a', rfl, h1, h2, h3, fun i hi => (h6 a' hA).2 i (by omega), h4⟩
      obtain ⟨l, hl⟩ := this
      exact ⟨l, fun _ => hl⟩
    · exact ⟨[], fun h => absurd h hr⟩
  obtain ⟨F, hF⟩ := Classical.axiomOfChoice each
  refine ⟨(List.range len).map F, by simp, fun j hj => ?_⟩
  obtain ⟨h0, _⟩ := hx j (by omega)
  obtain ⟨b, off, spot⟩ := a
  have hspot : spot = none := by simpa [Addr.add] using World.cell?_spot (hx 0 (by omega)).1
  subst hspot
  rw [add_plain] at h0
  refine ⟨b, off, A j, L j, C j, rfl, World.block_lt_of_cell? w ⟨b, off + j, none⟩ h0, h0, ?_⟩
  have e : ((List.range len).map F).getD j [] = F j := by simp [List.getD_eq_getElem?_getD, List.getElem?_range hj]
  rw [e]
  exact hF j hj

set_option maxRecDepth 100000 in
set_option maxHeartbeats 400000 in
/-- Short keeps the place. -/
theorem short_eq {A : Option Addr} {k c : Nat} {w : World} (n : Nat) (hk : k ≤ c) (hm : c ≤ maxLen) (hn : n ≤ 1000) :
    Calls Tryd.prog 16 #[.slice A k c, .int .i64 n] w fun e w' => e = .returned (.slice A (min k n) c) ∧ w = w' := by
  unfold maxLen at hm
  by_cases h : n < k
  · have e : min k n = n := by omega
    rw [e]
    clear e
    go_enter Tryd.func16, Tryd.ntmps16
    go_wp2
    go_ret
    exact ⟨rfl, rfl⟩
  · have e : min k n = k := by omega
    rw [e]
    clear e
    go_enter Tryd.func16, Tryd.ntmps16
    go_wp2
    go_ret
    exact ⟨rfl, rfl⟩
theorem Rd.short {w : World} {A : Option Addr} {k c : Nat} {l : List UInt8} (h : Rd w A k c l) (n : Nat) : Rd w A (min k n) c (l.take n) :=
  ⟨by rw [List.length_take, h.len]; omega, by have := h.cap; omega, h.max, fun h0 => by
    obtain ⟨b, off, e1, hlt, hc⟩ := h.at_ (by omega)
    refine ⟨b, off, e1, hlt, fun j hj => ?_⟩
    rw [hc j (by omega)]
    simp [List.getD_eq_getElem?_getD, List.getElem?_take, show j < n by omega]⟩
end Go.Proofs.YtbepofmkfloajaaDoor
