/- Append of bytes to a row that is owned, beside another row: where what comes of it lies. -/
import Derived.Test.YtbepofmkfloajaaDoorOwned
namespace Go.Proofs.YtbepofmkfloajaaDoor
set_option linter.unusedVariables false
set_option linter.unusedSimpArgs false
open Go.RowKit

/-- What an append gives lies where the row lay, or in a new block. -/
def Lies (w : World) (v v' : Value) : Prop := v'.ownBlock = v.ownBlock ∨ ∃ q, v'.ownBlock = some q ∧ w.heap.size ≤ q
/-- Two rows in different blocks. -/
def Apart (v u : Value) : Prop := v.ownBlock = none ∨ v.ownBlock ≠ u.ownBlock
theorem Apart.symm {v u : Value} (h : Apart v u) : Apart u v := by
  rcases h with h | h
  · by_cases hu : u.ownBlock = none
    · exact .inl hu
    · exact .inr (by rw [h]; exact hu)
  · exact .inr (Ne.symm h)
theorem Ow.lt_ {w : World} {B : Nat} {v : Value} {l : List UInt8} (h : Ow w B v l) : ∀ k, v.ownBlock = some k → B ≤ k ∧ k < w.heap.size := World.ownsRow.lt h
theorem Ow.kept {w w' : World} {B : Nat} {v : Value} {l : List UInt8} {row : Option Nat} (h : Ow w B v l) (hg : w.grownBy w' row) (hne : v.ownBlock = none ∨ v.ownBlock ≠ row) : Ow w' B v l := World.ownsRow.kept h hg hne
/-- Behind an append to v the row u is still apart from what came of it. -/
theorem Apart.lies {w : World} {B : Nat} {v v' u : Value} {l : List UInt8} (h : Apart u v) (hu : Ow w B u l) (hv : Lies w v v') : Apart u v' := by
  rcases hv with hv | ⟨q, hq, hge⟩
  · unfold Apart; rw [hv]; exact h
  · by_cases h0 : u.ownBlock = none
    · exact .inl h0
    · obtain ⟨k, hk⟩ := Option.ne_none_iff_exists'.1 h0
      have := (hu.lt_ k hk).2
      exact .inr (by rw [hk, hq]; intro e; injection e with e; omega)

theorem run_onto {wr : World} {B : Nat} {v : Value} {l : List UInt8} (hown : Ow wr B v l) (ty : TypeId) {ad : Addr} {m c : Nat} {news : List UInt8} (hr : Rd wr (some ad) m c news) (hm : 0 < m) (hlen : l.length + m ≤ 140737488355328) (hB : B ≤ wr.heap.size) :
    ∃ v' w', (Builtin.append_ #[23, 23] ty #[v, .slice (some ad) m c]).run Tryd.prog wr = .ok v' w' ∧ Ow w' B v' (l ++ news) ∧ wr.grownBy w' v.ownBlock ∧ Lies wr v v' := by
  obtain ⟨i0, hi, hz0, hz1, hz2⟩ := info_parts info5
  have hn := hr.len
  have hl : (news.map cellOf).length = m * i0.size := by rw [hz1]; simpa using hn
  have hnews : ∀ j u, (news.map cellOf)[j]? = some u → wr.cell? (ad.add j) = some u := fun j u hu => by
    have hj : j < news.length := by simpa using (List.getElem?_eq_some_iff.1 hu).1
    obtain ⟨b, off, e, _, hc⟩ := hr.at_ hm
    injection e with e
    subst e
    rw [add_plain, hc j (by omega), ← hu]
    simp [List.getD_eq_getElem?_getD, List.getElem?_eq_getElem hj]
  have h63 : l.length + m ≤ maxLen := by unfold maxLen; omega
  have hown' : wr.ownsRow B 5 i0.size v l.length (l.map cellOf) := by rw [hz1]; exact hown
  obtain ⟨v', w', hrun, h2, h3, h4⟩ := run_append_own (P := Tryd.prog) wr B 23 ty 5 i0 (.int .u8 0) i0.size i0.bytes Tryd.underlying23 hi hz0 rfl rfl (by rw [hz1]; rfl) (by rw [hz1]; omega) v l.length (l.map cellOf) hown' ad m c (news.map cellOf) hl hnews (cells_u8 news) h63 (by rw [hz2]; omega) hB
  refine ⟨v', w', hrun, ?_, h3, ?_⟩
  · unfold Ow
    rw [hz1] at h2
    simpa [hn] using h2
  · rcases hown'.2 with ⟨rfl, hl0⟩ | ⟨g, cap, cur, rfl, hbg, hg, hnc, hcm, hcs, htake⟩
    · have hr2 := run_append_nil (P := Tryd.prog) wr 23 ty 5 i0 (.int .u8 0) Tryd.underlying23 hi hz0 ad m c (news.map cellOf) hl hnews (by omega) (by omega) (by rw [hz2]; omega)
      rw [hrun] at hr2
      injection hr2 with e1 e2
      subst e1
      exact .inr ⟨wr.heap.size, rfl, Nat.le_refl _⟩
    · by_cases hroom : l.length + m ≤ cap
      · have hfit : l.length * i0.size + (news.map cellOf).length ≤ cur.size := by rw [hl, hcs, ← Nat.add_mul]; exact Nat.mul_le_mul_right _ hroom
        have hr2 := run_append_room (P := Tryd.prog) wr 23 ty 5 i0 Tryd.underlying23 hi g l.length cap cur hg ad m c (news.map cellOf) hl hnews (cells_u8 news) hroom hfit
        rw [hrun] at hr2
        injection hr2 with e1 e2
        subst e1
        exact .inl rfl
      · have hr2 := run_append_grow (P := Tryd.prog) wr 23 ty 5 i0 (.int .u8 0) Tryd.underlying23 hi hz0 ⟨g, 0, none⟩ l.length cap (l.map cellOf) hown'.1 (World.ownsRow.cells hown' (g := g) rfl) ad m c (news.map cellOf) hl hnews (by omega) (by omega) (growslice_fits (by omega) (by rw [hz2]; omega))
        rw [hrun] at hr2
        injection hr2 with e1 e2
        subst e1
        exact .inr ⟨wr.heap.size, rfl, Nat.le_refl _⟩

/-- An append as one step of a region that draws. -/
theorem step_app {ops : Array Oper} {o : Oper} {a : Act} {K : Act → World → Prop} {Q : Exit → Act → World → Prop} {E : Prop} {wr w0 : World} {B : Nat} {v : Value} {l : List UInt8} (hgd : Region.wanted o (yielded ops a.tmps) = true) (s x : Operand)
    (ho : o.op = .call { callee := .builtin .append, args := #[s, x], argTypes := #[23, 23] }) (hs : a.eval s = v) {ad : Addr} {m c : Nat} {news : List UInt8} (hx : a.eval x = .slice (some ad) m c) (hr : Rd wr (some ad) m c news) (hown : Ow wr B v l)
    (hlen : l.length + m ≤ 140737488355328) (hm : 0 < m) (hB : B ≤ wr.heap.size) (hbel : Below B w0 wr)
    (h : ∀ v' w', Hid (Ow w' B v' (l ++ news)) → Hid (Below B w0 w') → Hid (wr.grownBy w' v.ownBlock) → Hid (Lies wr v v') → K (a.put o.dst v') w') : if Region.wanted o (yielded ops a.tmps) = true then o.wp Tryd.prog a wr K Q else E := by
  rw [if_pos hgd]
  obtain ⟨v', w', hrun, h2, h3, h4⟩ := run_onto hown o.type hr hm hlen hB
  unfold Oper.wp execOp
  simp only [ho, resolve, invoke, builtin, Sem.run_bind, Sem.run_pure, Result.andThen_ok, List.map_toArray, List.map_cons, List.map_nil, hs, hx, hrun]
  exact h v' w' h2 (hbel.grown h3 hB fun k hk => (hown.lt_ k hk).1) h3 h4
/-- A row that is owned: its block. -/
theorem own_blk {w : World} {base : Nat} {v : Value} {l : List UInt8} (h : Ow w base v l) (h0 : 0 < l.length) : ∃ g c cur, v = .slice (some ⟨g, 0, none⟩) l.length c ∧ base ≤ g ∧ Blk w g 5 cur ∧ l.length ≤ c ∧ c ≤ maxLen ∧ ∀ j, j < l.length → cur[j]? = some (cellOf (l.getD j 0)) := by
  have h' := h
  rcases h.2 with ⟨rfl, hn⟩ | ⟨g, cap, cur, rfl, hb, hg, hnc, hcm, _⟩
  · have := h.form h0
    obtain ⟨g, c, e, _⟩ := this
    cases e
  · have hg' : Blk w g 5 cur.toList := by unfold Blk; rw [Array.toArray_toList]; exact hg
    refine ⟨g, cap, cur.toList, rfl, hb, hg', hnc, hcm, fun j hj => ?_⟩
    have h1 := World.ownsRow.cellAt h' j (by simpa using hj)
    rw [hg'.cell] at h1
    rw [h1]
    simp [cellOf, List.getD_eq_getElem?_getD, List.getElem?_eq_getElem hj]
/-- What is read out of a row with one byte turned. -/
theorem rd_set {w : World} {g c k : Nat} {l : List UInt8} {cur : List Value} (y : UInt8) (hb : Blk w g 5 cur) (hc : l.length ≤ c) (hm : c ≤ maxLen) (hj : ∀ j, j < l.length → cur[j]? = some (cellOf (l.getD j 0))) (hk : k < l.length) :
    Rd (w.setCell ⟨g, k, none⟩ (cellOf y)) (some ⟨g, 0, none⟩) l.length c (l.set k y) := by
  refine Rd.of_block (hb.set_ k (cellOf y)) (by simp) hc hm (fun j hjl => ?_)
  rw [Nat.zero_add, List.getElem?_set, List.getD_eq_getElem?_getD, List.getElem?_set]
  have hcl : cur.length > k := by have := hj k hk; exact (List.getElem?_eq_some_iff.1 this).1
  by_cases e : k = j
  · subst e; simp [hcl, hk]
  · simp [e]; rw [hj j hjl, List.getD_eq_getElem?_getD]
end Go.Proofs.YtbepofmkfloajaaDoor
