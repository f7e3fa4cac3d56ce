import Derived.Test.YtmidbpjdpakkoaaDoorSTh
namespace Go.Proofs.YtmidbpjdpakkoaaDoor
set_option linter.unusedVariables false
set_option linter.unusedSimpArgs false
set_option maxRecDepth 100000
open Go.RowKit
theorem put_set {p : Tm.P} : ∀ {l : List Tm.P} {k : Nat} (hk : k < l.length), (∀ j (hj : j < k), (l[j]'(by omega)).1 ≠ p.1) → l[k].1 = p.1 → Tm.put p l = l.set k p
  | [], _, hk, _, _ => by simp at hk
  | q :: l, 0, _, _, h => by
    rw [Tm.put, if_pos (by simpa using h)]; rfl
  | q :: l, k + 1, hk, hn, h => by
    have h0 : q.1 ≠ p.1 := hn 0 (by omega)
    rw [Tm.put, if_neg h0, List.set_cons_succ, put_set (k := k) (by simpa using hk) (fun j hj => hn (j + 1) (by omega)) (by simpa using h)]
theorem put_new {p : Tm.P} : ∀ {l : List Tm.P}, (∀ q ∈ l, q.1 ≠ p.1) → Tm.put p l = l ++ [p]
  | [], _ => rfl
  | q :: l, h => by
    rw [Tm.put, if_neg (h q (by simp)), put_new fun r hr => h r (by simp [hr])]; rfl
theorem pairs_get {l : List Tm.P} {k : Nat} (hk : k < l.length) : (pairs l).getD k [] = leafL l[k] := by
  unfold pairs
  rw [List.getD_eq_getElem?_getD, List.getElem?_map, List.getElem?_eq_getElem hk]; rfl
theorem rd2_pair {w : World} {A : Option Addr} {n c : Nat} {l : List Tm.P} (h : Rd2 w 64 A n c (pairs l)) (hl : ∀ p ∈ l, p.1.length = 32 ∧ p.2.length = 32) {k : Nat} (hk : k < l.length) : ∃ b off, A = some ⟨b, off, none⟩ ∧ b < w.heap.size ∧ k < n ∧
    (∀ i x, (leafL l[k])[i]? = some x → w.cell? ⟨b, off + k * 64 + i, none⟩ = some x) ∧ (∀ i x, (l[k].1.map cellOf)[i]? = some x → w.cell? ⟨b, off + k * 64 + i, none⟩ = some x) ∧ (∀ i x, (l[k].2.map cellOf)[i]? = some x → w.cell? ⟨b, off + k * 64 + 32 + i, none⟩ = some x) := by
  have hn : n = l.length := by rw [← h.len]; simp [pairs]
  obtain ⟨b, off, e, hb, hc⟩ := h.at_ (by omega)
  have hc := hc k (by omega)
  rw [pairs_get hk] at hc
  have h1 := (hl l[k] (List.getElem_mem hk)).1
  refine ⟨b, off, e, hb, by omega, hc, fun i x hx => hc i x ?_, fun i x hx => ?_⟩
  · have hi : i < 32 := by have := (List.getElem?_eq_some_iff.1 hx).1; simpa [h1] using this
    rw [leafL, List.getElem?_append_left (by simpa [h1] using hi), hx]
  · have := hc (32 + i) x (by rw [leafL, List.getElem?_append_right (by simp [h1]), List.length_map, h1, Nat.add_sub_cancel_left, hx])
    rwa [← Nat.add_assoc] at this
theorem Ow2.blk {w : World} {B : Nat} {e : TypeId} {s : Nat} {v : Value} {els : List (List Value)} (h : Ow2 w B e s v els) (h0 : 0 < els.length) : ∃ q cap cur, v = .slice (some ⟨q, 0, none⟩) els.length cap ∧ B ≤ q ∧ Blk w q e cur ∧ els.length ≤ cap ∧ cap ≤ maxLen ∧ cur.length = cap * s ∧ cur.take (els.length * s) = els.flatten := by
  rcases h.own.2 with ⟨_, h1⟩ | ⟨q, cap, cur, h1, h2, h3, h4, h5, h6, h7⟩
  · omega
  · exact ⟨q, cap, cur.toList, h1, h2, h3, h4, h5, by simpa using h6, h7⟩
theorem set_flat {els : List (List Value)} {k : Nat} (hk : k < els.length) (x : List Value) : (els.set k x).flatten = (els.take k).flatten ++ x ++ (els.drop (k + 1)).flatten := by
  rw [List.set_eq_take_append_cons_drop, if_pos hk]; simp
theorem flat_at2 {els : List (List Value)} {k : Nat} (hk : k < els.length) : els.flatten = (els.take k).flatten ++ els[k] ++ (els.drop (k + 1)).flatten := by
  have e : els.flatten = (els.take k ++ els.drop k).flatten := by rw [List.take_append_drop]
  rw [e, List.drop_eq_getElem_cons hk, List.flatten_append, List.flatten_cons, List.append_assoc]
theorem Ow2.part {w : World} {B q cap : Nat} {e : TypeId} {s : Nat} {els : List (List Value)} {cur : List Value} (h : Ow2 w B e s (.slice (some ⟨q, 0, none⟩) els.length cap) els) (hq : B ≤ q) (hb : Blk w q e cur) (h1 : els.length ≤ cap) (h2 : cap ≤ maxLen) (h3 : cur.length = cap * s) (h4 : cur.take (els.length * s) = els.flatten) {k o : Nat} (hk : k < els.length) {vs : List Value} (ho : o + vs.length ≤ s) :
    Ow2 (w.setRow q (cur.take (k * s + o) ++ vs ++ cur.drop (k * s + o + vs.length)).toArray) B e s (.slice (some ⟨q, 0, none⟩) els.length cap) (els.set k (els[k].take o ++ vs ++ els[k].drop (o + vs.length))) := by
  have hy : els[k].length = s := h.each _ (List.getElem_mem hk)
  have hP : (els.take k).flatten.length = k * s := by rw [flat_len fun x hx => h.each x (List.mem_of_mem_take hx), List.length_take]; rw [Nat.min_eq_left (by omega)]
  have hcur : cur = (els.take k).flatten ++ (els[k] ++ ((els.drop (k + 1)).flatten ++ cur.drop (els.length * s))) := by
    conv => lhs; rw [← List.take_append_drop (els.length * s) cur, h4, flat_at2 hk]
    simp
  have hR : ((els.drop (k + 1)).flatten).length = (els.length - (k + 1)) * s := by rw [flat_len fun x hx => h.each x (List.mem_of_mem_drop hx), List.length_drop]
  have hnew : cur.take (k * s + o) ++ vs ++ cur.drop (k * s + o + vs.length) = (els.take k).flatten ++ ((els[k].take o ++ vs ++ els[k].drop (o + vs.length)) ++ ((els.drop (k + 1)).flatten ++ cur.drop (els.length * s))) := by
    generalize hT : cur.drop (els.length * s) = T at *
    rw [hcur, List.take_append, hP, Nat.add_sub_cancel_left, List.take_of_length_le (by omega), List.take_append_of_le_length (by omega), List.drop_append, hP, List.drop_of_length_le (by omega), show k * s + o + vs.length - k * s = o + vs.length by omega, List.drop_append_of_le_length (by omega)]
    simp
  have hx : (els[k].take o ++ vs ++ els[k].drop (o + vs.length)).length = s := by simp; omega
  have hset : (els.set k (els[k].take o ++ vs ++ els[k].drop (o + vs.length))).length = els.length := by simp
  refine ⟨⟨?_, .inr ⟨q, cap, _, by rw [hset], hq, Blk.row hb, by omega, h2, ?_, ?_⟩⟩, fun x hx' => ?_⟩
  · rw [flat_len (s := s)]
    intro x hx'
    rcases List.mem_or_eq_of_mem_set hx' with h' | h'
    · exact h.each x h'
    · rw [h']; exact hx
  · have : cur.length = (k * s) + (s + ((els.length - (k + 1)) * s + (cur.drop (els.length * s)).length)) := by
      conv => lhs; rw [hcur]
      simp only [List.length_append, hP, hy, hR]
    rw [hnew]
    simp only [List.size_toArray, List.length_append, hP, hR]
    have e1 : (els[k].take o).length + vs.length + (els[k].drop (o + vs.length)).length = s := by have := hx; simp only [List.length_append] at this; exact this
    omega
  · rw [hnew, set_flat hk, hset]
    have e2 : els.length * s = k * s + (s + (els.length - (k + 1)) * s) := by
      have : els.length = k + (1 + (els.length - (k + 1))) := by omega
      conv => lhs; rw [this]
      rw [Nat.add_mul, Nat.add_mul, Nat.one_mul]
    generalize hX : els[k].take o ++ vs ++ els[k].drop (o + vs.length) = X at *
    generalize cur.drop (els.length * s) = T at *
    rw [show (((els.take k).flatten ++ (X ++ ((els.drop (k + 1)).flatten ++ T))).toArray).toList = ((els.take k).flatten ++ X ++ (els.drop (k + 1)).flatten) ++ T by simp, List.take_left' (by rw [List.length_append, List.length_append, hP, hR, hx, e2]; omega)]
  · rcases List.mem_or_eq_of_mem_set hx' with h' | h'
    · exact h.each x h'
    · rw [h']; exact hx
theorem push_all {w : World} {B : Nat} {ty : TypeId} {A : Option Addr} {n c : Nat} {l : List Tm.P} (h : Rd2 w 64 A n c (pairs l)) (hl : ∀ p ∈ l, p.1.length = 32 ∧ p.2.length = 32) (hn : n ≤ 1000) (hB : B ≤ w.heap.size) :
    ∃ v' w', (Builtin.append_ #[25, 25] ty #[.slice none 0 0, .slice A n c]).run Tryd.prog w = .ok v' w' ∧ Ow2 w' B 47 64 v' (pairs l) ∧ w.grownBy w' none := by
  obtain ⟨i0, hi, hz0, hz1, hz2⟩ := info_parts infoPair
  have hln : l.length = n := by rw [← h.len]; simp [pairs]
  have each : ∀ x ∈ pairs l, x.length = 64 := fun x hx => by
    unfold pairs at hx
    obtain ⟨p, hp, rfl⟩ := List.mem_map.1 hx
    exact leafL_length (hl p hp).1 (hl p hp).2
  rcases Nat.eq_zero_or_pos n with h0 | h0
  · subst h0
    obtain rfl : l = [] := List.eq_nil_of_length_eq_zero hln
    refine ⟨.slice none 0 0, w, ?_, Ow2.empty _ _ _ _, only_refl _ _⟩
    cases A <;> simp [Builtin.append_, run_underlying Tryd.underlying25, sizeOf, typeInfo, hi, Builtin.lenOf, Builtin.firstCells, storeCells, loadCells, loadCellsFrom]
  · obtain ⟨b, off, rfl, hb, hc⟩ := h.at_ h0
    have hf := flat_len each
    have hlen : (pairs l).length = n := h.len
    have hcell : ∀ j u, (pairs l).flatten[j]? = some u → w.cell? ((⟨b, off, none⟩ : Addr).add j) = some u := fun j u hu => by
      have hj : j < n * 64 := by have := (List.getElem?_eq_some_iff.1 hu).1; rw [hf, hlen] at this; exact this
      have hg := flat_get each (j := j / 64) (by rw [hlen]; omega) (j % 64) (by omega)
      rw [show j / 64 * 64 + j % 64 = j by omega, hu] at hg
      have := hc (j / 64) (by omega) (j % 64) u hg.symm
      rw [add_plain]
      rwa [show off + j / 64 * 64 + j % 64 = off + j by omega] at this
    have hone : ∀ u ∈ (pairs l).flatten, u.oneCell' = true := fun u hu => by
      obtain ⟨x, hx, hux⟩ := List.mem_flatten.1 hu
      unfold pairs at hx
      obtain ⟨p, hp, rfl⟩ := List.mem_map.1 hx
      exact leafL_one p u hux
    obtain ⟨v', w', hr, h2, h3, _⟩ := run_append_own (P := Tryd.prog) w B 25 ty 47 i0 (.agg (List.replicate 64 (Value.int .u8 0)).toArray) 64 64 Tryd.underlying25 hi hz0 hz1 hz2 (by rfl) (by decide) (.slice none 0 0) 0 [] (World.ownsRow_nil w B 47 64) ⟨b, off, none⟩ n c (pairs l).flatten (by rw [hf, hlen]) hcell hone (by unfold maxLen; omega) (by omega) hB
    refine ⟨v', w', hr, ⟨?_, each⟩, h3⟩
    simpa [hlen] using h2
end Go.Proofs.YtmidbpjdpakkoaaDoor
