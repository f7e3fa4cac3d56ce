/- Maps whose keys are structs of a sum, numbers and texts: what is looked up, what is put. -/
import Derived.Test.YtpbfeobifpmjbaaDoorGrow
import Derived.DeepKeys4
import Derived.ChangeMaps5
import Derived.MapFrom
namespace Go.Proofs.YtpbfeobifpmjbaaDoor
set_option linter.unusedVariables false
set_option linter.unusedSimpArgs false
set_option maxRecDepth 100000
open Go.RowKit

theorem mapM_all {α β : Type} {f : α → Option β} : ∀ (l : List α), (∀ x ∈ l, ∃ y, f x = some y) → ∃ ys, l.mapM f = some ys
  | [], _ => ⟨[], rfl⟩
  | x :: l, h => by
    obtain ⟨y, hy⟩ := h x (by simp)
    obtain ⟨ys, hys⟩ := mapM_all l (fun z hz => h z (by simp [hz]))
    exact ⟨y :: ys, by simp [List.mapM_cons, hy, hys]⟩
/-- A book's key, a note's key. -/
def mkKey (key b : List UInt8) : Value := .agg (key.map cellOf ++ [Value.string ⟨b.toArray⟩]).toArray
def lkKey (key : List UInt8) (num : Int) (ad c : List UInt8) : Value := .agg (key.map cellOf ++ [Value.int .i64 num, .string ⟨ad.toArray⟩, .string ⟨c.toArray⟩]).toArray
theorem str_inj {a b : List UInt8} (h : (⟨a.toArray⟩ : ByteArray) = ⟨b.toArray⟩) : a = b := by
  injection h with h
  simpa using h
theorem cells_inj {a b : List UInt8} (h : a.map cellOf = b.map cellOf) : a = b := by
  have : ∀ (a b : List UInt8), a.map cellOf = b.map cellOf → a = b := by
    intro a
    induction a with
    | nil => intro b h; cases b with | nil => rfl | cons _ _ => simp at h
    | cons x a ih =>
      intro b h
      cases b with
      | nil => simp at h
      | cons y b =>
        simp only [List.map_cons, List.cons.injEq] at h
        have e : x = y := by
          have h1 := h.1
          unfold cellOf at h1
          injection h1 with _ h1
          exact UInt8.toNat_inj.1 (by omega)
        rw [e, ih b h.2]
  exact this a b h
theorem mkKey_inj {k k' b b' : List UInt8} (hk : k.length = 32) (hk' : k'.length = 32) (h : mkKey k b = mkKey k' b') : k = k' ∧ b = b' := by
  unfold mkKey at h
  injection h with h
  have h := congrArg Array.toList h
  simp only at h
  obtain ⟨h1, h2⟩ := List.append_inj h (by simp [hk, hk'])
  simp only [List.cons.injEq, and_true] at h2
  injection h2 with h2
  exact ⟨cells_inj h1, str_inj h2⟩
theorem lkKey_inj {k k' ad ad' c c' : List UInt8} {n n' : Int} (hk : k.length = 32) (hk' : k'.length = 32) (h : lkKey k n ad c = lkKey k' n' ad' c') : k = k' ∧ n = n' ∧ ad = ad' ∧ c = c' := by
  unfold lkKey at h
  injection h with h
  have h := congrArg Array.toList h
  simp only at h
  obtain ⟨h1, h2⟩ := List.append_inj h (by simp [hk, hk'])
  simp only [List.cons.injEq, and_true] at h2
  obtain ⟨h2, h3, h4⟩ := h2
  injection h2 with _ h2
  injection h3 with h3
  injection h4 with h4
  exact ⟨cells_inj h1, h2, str_inj h3, str_inj h4⟩

theorem c34_ : Tryd.prog.cellsOf 34 = 32 := by kernel_rfl
theorem c9_ : Tryd.prog.cellsOf 9 = 1 := by kernel_rfl
theorem c2_ : Tryd.prog.cellsOf 2 = 1 := by kernel_rfl
theorem cM_ : Tryd.prog.cellsOf 67 = 33 := by kernel_rfl
theorem cL_ : Tryd.prog.cellsOf 79 = 35 := by kernel_rfl
theorem lits5 (D : Nat) (x : UInt8) : ∃ ls, Tryd.prog.keyLits (D + 1) 5 [cellOf x] = some ls := by
  refine ⟨[.int .u8 x.toNat], ?_⟩
  have hw : (Lit.int .u8 (x.toNat : Int)).wf = true := by
    have := x.toNat_lt
    have e1 : IntKind.u8.min = 0 := by decide
    have e2 : IntKind.u8.max = 255 := by decide
    simp [Lit.wf, e1, e2]
    omega
  unfold Program.keyLits
  simp [Tryd.underlying5, cellOf, hw]
theorem lits34 (D : Nat) (l : List UInt8) (hl : l.length = 32) : ∃ ls, Tryd.prog.keyLits (D + 2) 34 (l.map cellOf) = some ls := by
  obtain ⟨ys, hys⟩ := mapM_all (f := fun i => Tryd.prog.keyLits (D + 1) 5 (((l.map cellOf).drop (i * Tryd.prog.cellsOf 5)).take (Tryd.prog.cellsOf 5))) (List.range 32) (fun i hi => by
    have hi' : i < (l.map cellOf).length := by have := List.mem_range.1 hi; simp; omega
    obtain ⟨ls, h⟩ := lits5 D (l[i]'(by simpa using hi'))
    refine ⟨ls, ?_⟩
    simp only [c5, Nat.mul_one]
    rw [List.drop_eq_getElem_cons hi']
    simpa using h)
  refine ⟨ys.flatten, ?_⟩
  unfold Program.keyLits
  simp only [Tryd.underlying34, List.length_map, hl, c34_, if_true, hys, Option.map_some]
theorem lits9 (D : Nat) (b : List UInt8) (hb : b.length ≤ maxLen) : ∃ ls, Tryd.prog.keyLits (D + 1) 9 [.string ⟨b.toArray⟩] = some ls := by
  have hs : ((⟨b.toArray⟩ : ByteArray).size ≤ maxLen) := by
    show b.toArray.size ≤ maxLen
    simpa using hb
  unfold Program.keyLits
  simp [Tryd.underlying9, hs]
theorem lits2 (D : Nat) (n : Int) (h1 : -9223372036854775808 ≤ n) (h2 : n ≤ 9223372036854775807) : ∃ ls, Tryd.prog.keyLits (D + 1) 2 [.int .i64 n] = some ls := by
  have hw : (Lit.int .i64 n).wf = true := by
    have e1 : IntKind.i64.min = -9223372036854775808 := by decide
    have e2 : IntKind.i64.max = 9223372036854775807 := by decide
    simp [Lit.wf, e1, e2]
    omega
  unfold Program.keyLits
  simp [Tryd.underlying2, hw]
theorem types_many : ∃ D, Tryd.prog.types.size + 1 = D + 3 := by
  have : 2 ≤ Tryd.prog.types.size := of_decide_eq_true (by kernel_rfl)
  exact ⟨Tryd.prog.types.size - 2, by omega⟩
theorem keyM {key b : List UInt8} (hk : key.length = 32) (hb : b.length ≤ maxLen) : ∃ l, keyOf Tryd.prog 67 (mkKey key b) = some l := by
  have hT : Tryd.prog.keyType 67 = true := by kernel_rfl
  have hF : (mkKey key b).formed Tryd.prog 67 = true := by simp [mkKey, Value.formed, Tryd.underlying67, cM_, hk]
  obtain ⟨ls, h⟩ : ∃ ls, Tryd.prog.keyLits (Tryd.prog.types.size + 1) 67 (key.map cellOf ++ [Value.string ⟨b.toArray⟩]) = some ls := by
    obtain ⟨D, hD⟩ := types_many
    rw [hD]
    obtain ⟨l1, h1⟩ := lits34 D key hk
    obtain ⟨l2, h2⟩ := lits9 (D + 1) b hb
    have e1 : ((key.map cellOf ++ [Value.string ⟨b.toArray⟩]).drop 0).take 32 = key.map cellOf := by rw [List.drop_zero, List.take_append_of_le_length (by simp [hk])]; exact List.take_of_length_le (by simp [hk])
    have e2 : ((key.map cellOf ++ [Value.string ⟨b.toArray⟩]).drop 32).take 1 = [Value.string ⟨b.toArray⟩] := by rw [List.drop_left' (by simp [hk])]; rfl
    refine ⟨[l1, l2].flatten, ?_⟩
    unfold Program.keyLits
    simp only [Tryd.underlying67, List.length_append, List.length_map, hk, List.length_cons, List.length_nil, cM_]
    simp [List.mapM_cons, e1, e2, c34_, c9_, h1, h2, -List.drop_zero]
  exact ⟨_, by simp only [keyOf, Tryd.underlying67, hT, hF, Bool.and_true, if_true]; show Option.map _ (Tryd.prog.keyLits _ _ (key.map cellOf ++ [Value.string ⟨b.toArray⟩])) = _; rw [h]; rfl⟩
theorem keyL {key ad c : List UInt8} {num : Int} (hk : key.length = 32) (h1 : -9223372036854775808 ≤ num) (h2 : num ≤ 9223372036854775807) (ha : ad.length ≤ maxLen) (hc : c.length ≤ maxLen) : ∃ l, keyOf Tryd.prog 79 (lkKey key num ad c) = some l := by
  have hT : Tryd.prog.keyType 79 = true := by kernel_rfl
  have hF : (lkKey key num ad c).formed Tryd.prog 79 = true := by simp [lkKey, Value.formed, Tryd.underlying79, cL_, hk]
  obtain ⟨cs, hcs⟩ : ∃ cs, cs = key.map cellOf ++ [Value.int .i64 num, .string ⟨ad.toArray⟩, .string ⟨c.toArray⟩] := ⟨_, rfl⟩
  have hl : cs.length = 35 := by rw [hcs]; simp [hk]
  obtain ⟨ls, h⟩ : ∃ ls, Tryd.prog.keyLits (Tryd.prog.types.size + 1) 79 cs = some ls := by
    obtain ⟨D, hD⟩ := types_many
    rw [hD]
    obtain ⟨l1, g1⟩ := lits34 D key hk
    obtain ⟨l2, g2⟩ := lits2 (D + 1) num h1 h2
    obtain ⟨l3, g3⟩ := lits9 (D + 1) ad ha
    obtain ⟨l4, g4⟩ := lits9 (D + 1) c hc
    have e1 : (cs.drop 0).take 32 = key.map cellOf := by rw [hcs, List.drop_zero, List.take_append_of_le_length (by simp [hk])]; exact List.take_of_length_le (by simp [hk])
    have e2 : (cs.drop 32).take 1 = [Value.int .i64 num] := by rw [hcs, List.drop_left' (by simp [hk])]; rfl
    have e3 : (cs.drop 33).take 1 = [Value.string ⟨ad.toArray⟩] := by rw [hcs, show 33 = 32 + 1 from rfl, ← List.drop_drop, List.drop_left' (by simp [hk])]; rfl
    have e4 : (cs.drop 34).take 1 = [Value.string ⟨c.toArray⟩] := by rw [hcs, show 34 = 32 + 2 from rfl, ← List.drop_drop, List.drop_left' (by simp [hk])]; rfl
    refine ⟨[l1, l2, l3, l4].flatten, ?_⟩
    clear hcs
    unfold Program.keyLits
    simp only [Tryd.underlying79, hl, cL_]
    simp [List.mapM_cons, e1, e2, e3, e4, c34_, c9_, c2_, g1, g2, g3, g4, -List.drop_zero]
  exact ⟨_, by simp only [keyOf, Tryd.underlying79, hT, hF, Bool.and_true, if_true]; show Option.map _ (Tryd.prog.keyLits _ _ (key.map cellOf ++ [Value.int .i64 num, .string ⟨ad.toArray⟩, .string ⟨c.toArray⟩])) = _; rw [← hcs, h]; rfl⟩
theorem mapsLaid : laidOutB Tryd.prog = true := by kernel_rfl
theorem lawM : WideMaps.KeyLaw Tryd.prog 67 := deep_law_laid mapsLaid (m := 4) (by omega) (of_decide_eq_true (by kernel_rfl)) (by kernel_rfl) (by rw [Tryd.underlying67])
theorem lawL : WideMaps.KeyLaw Tryd.prog 79 := deep_law_laid mapsLaid (m := 4) (by omega) (of_decide_eq_true (by kernel_rfl)) (by kernel_rfl) (by rw [Tryd.underlying79])

/-- At r lies a map of these entries, each key once. -/
structure MapIs (k : TypeId) (w : World) (r : Nat) (E : List (Value × Value)) : Prop where
  at_ : ∃ es clock, w.heap[r]? = some (.map es clock) ∧ es.toList.map (fun e => (e.key, e.val)) = E
  keys : ∀ p ∈ E, ∃ l, keyOf Tryd.prog k p.1 = some l
  once : (E.map (·.1)).Nodup
theorem MapIs.lt {k : TypeId} {w : World} {r : Nat} {E : List (Value × Value)} (h : MapIs k w r E) : r < w.heap.size := by
  obtain ⟨es, clock, he, _⟩ := h.at_
  exact (Array.getElem?_eq_some_iff.1 he).1
theorem MapIs.keep {k : TypeId} {w w' : World} {r : Nat} {E : List (Value × Value)} (h : MapIs k w r E) (hb : w'.heap[r]? = w.heap[r]?) : MapIs k w' r E := by
  obtain ⟨es, clock, he, hE⟩ := h.at_
  exact ⟨⟨es, clock, hb.trans he, hE⟩, h.keys, h.once⟩
theorem MapIs.new {k : TypeId} (w : World) : MapIs k (w.alloc (.map #[] 0)) w.heap.size [] :=
  ⟨⟨#[], 0, heap_alloc_new w _, rfl⟩, fun p hp => by simp at hp, List.nodup_nil⟩
/-- 'v, ok := m[x]'. -/
theorem MapIs.look {k t e : TypeId} {w : World} {r : Nat} {E : List (Value × Value)} (K : WideMaps.KeyLaw Tryd.prog k) (h : MapIs k w r E) (ht : Tryd.prog.underlying t = some (.map k e)) {z : Value} (hz : (zeroValue e).run Tryd.prog w = .ok z w) {x : Value} (hx : ∃ l, keyOf Tryd.prog k x = some l) :
    ((Instr.lookup t (.map (some r)) x true).run Tryd.prog w = .ok (.tuple #[z, .bool false]) w ∧ ∀ v, (x, v) ∉ E) ∨ ∃ v, (Instr.lookup t (.map (some r)) x true).run Tryd.prog w = .ok (.tuple #[v, .bool true]) w ∧ (x, v) ∈ E := by
  obtain ⟨es, clock, hb, hE⟩ := h.at_
  obtain ⟨kl, hkey⟩ := hx
  have hks : ∀ e ∈ es.toList, ∃ l, keyOf Tryd.prog k e.key = some l := fun e he => h.keys (e.key, e.val) (by rw [← hE]; exact List.mem_map.2 ⟨e, he, rfl⟩)
  rcases K.find w hkey es.toList hks with ⟨h1, h2⟩ | ⟨j, e0, h1, h2, h3⟩
  · refine Or.inl ⟨by simp [Instr.lookup, run_underlying ht, MapKept.run_getObj_map hb, K.check w _ hkey, h1, hz, Result.andThen], fun v hv => ?_⟩
    rw [← hE] at hv
    obtain ⟨e, he, eq⟩ := List.mem_map.1 hv
    injection eq with e1 e2
    exact h2 e he e1
  · refine Or.inr ⟨e0.val, by simp [Instr.lookup, run_underlying ht, MapKept.run_getObj_map hb, K.check w _ hkey, h1, Result.andThen], ?_⟩
    rw [← hE]
    exact List.mem_map.2 ⟨e0, List.mem_of_getElem? h2, by rw [h3]⟩
/-- 'm[x] = v'. -/
theorem MapIs.put {k t e : TypeId} {w : World} {r : Nat} {E : List (Value × Value)} (K : WideMaps.KeyLaw Tryd.prog k) (h : MapIs k w r E) (ht : Tryd.prog.underlying t = some (.map k e)) {x : Value} (hx : ∃ l, keyOf Tryd.prog k x = some l) (v : Value) :
    ∃ w' E', (Instr.mapUpdate t (.map (some r)) x v).run Tryd.prog w = .ok () w' ∧ MapIs k w' r E' ∧ (∀ p, p ∈ E' ↔ p = (x, v) ∨ (p ∈ E ∧ p.1 ≠ x)) ∧ w'.os = w.os ∧ w'.tape = w.tape ∧ w'.output = w.output ∧ w'.heap.size = w.heap.size ∧ ∀ i : Nat, i ≠ r → w'.heap[i]? = w.heap[i]? := by
  obtain ⟨es, clock, hb, hE⟩ := h.at_
  obtain ⟨kl, hkey⟩ := hx
  have hks : ∀ e ∈ es.toList, ∃ l, keyOf Tryd.prog k e.key = some l := fun e he => h.keys (e.key, e.val) (by rw [← hE]; exact List.mem_map.2 ⟨e, he, rfl⟩)
  rcases K.find w hkey es.toList hks with ⟨h1, h2⟩ | ⟨j, e0, h1, h2, h3⟩
  · have hno : ∀ p ∈ E, p.1 ≠ x := fun p hp => by
      rw [← hE] at hp
      obtain ⟨e, he, rfl⟩ := List.mem_map.1 hp
      exact h2 e he
    refine ⟨ChangeMaps.setBlock w r (.map (es.push ⟨x, v, clock⟩) (clock + 1)), E ++ [(x, v)], ?_, ⟨⟨_, _, ChangeMaps.heap_setBlock_same hb _, ?_⟩, ?_, ?_⟩, ?_, rfl, rfl, rfl, by simp [ChangeMaps.setBlock], fun i hi => ChangeMaps.heap_setBlock_other hb _ hi⟩
    · simp [Instr.mapUpdate, run_underlying ht, MapKept.run_getObj_map hb, K.check w false hkey, h1, MapKept.run_setObj_map _ hb, Result.andThen, ChangeMaps.setBlock]
    · simp [hE]
    · intro p hp
      rcases List.mem_append.1 hp with hp | hp
      · exact h.keys p hp
      · simp at hp; subst hp; exact ⟨kl, hkey⟩
    · rw [List.map_append, List.nodup_append]
      refine ⟨h.once, by simp, fun a ha b hb' => ?_⟩
      obtain ⟨p, hp, rfl⟩ := List.mem_map.1 ha
      simp at hb'
      subst hb'
      exact hno p hp
    · intro p
      rw [List.mem_append, List.mem_singleton]
      constructor
      · rintro (hp | hp)
        · exact .inr ⟨hp, hno p hp⟩
        · exact .inl hp
      · rintro (hp | hp)
        · exact .inr hp
        · exact .inl hp.1
  · have hj : es[j]? = some e0 := by simpa using h2
    have hjl : j < es.toList.length := (List.getElem?_eq_some_iff.1 h2).1
    have hEj : E[j]? = some (x, e0.val) := by rw [← hE, List.getElem?_map, h2]; simp [h3]
    have hjE : j < E.length := (List.getElem?_eq_some_iff.1 hEj).1
    have hset : (es.modify j (fun e' => { e' with key := x, val := v })).toList.map (fun e => (e.key, e.val)) = E.set j (x, v) := by
      rw [Array.toList_modify, ChangeMaps.modify_eq_set _ _ _ _ h2, List.map_set, hE]
    have hks' : (E.set j (x, v)).map (·.1) = E.map (·.1) := by
      rw [List.map_set]
      apply List.ext_getElem?
      intro i
      rw [List.getElem?_set]
      by_cases hij : j = i
      · subst hij
        rw [if_pos rfl, if_pos (by simpa using hjE), List.getElem?_map, hEj]
        rfl
      · simp [hij]
    refine ⟨ChangeMaps.setBlock w r (.map (es.modify j (fun e' => { e' with key := x, val := v })) clock), E.set j (x, v), ?_, ⟨⟨_, _, ChangeMaps.heap_setBlock_same hb _, hset⟩, ?_, by rw [hks']; exact h.once⟩, ?_, rfl, rfl, rfl, by simp [ChangeMaps.setBlock], fun i hi => ChangeMaps.heap_setBlock_other hb _ hi⟩
    · simp [Instr.mapUpdate, run_underlying ht, MapKept.run_getObj_map hb, K.check w false hkey, h1, hj, h3, K.stays w hkey, MapKept.run_setObj_map _ hb, Result.andThen, ChangeMaps.setBlock]
    · intro p hp
      rcases List.mem_or_eq_of_mem_set hp with hp | rfl
      · exact h.keys p hp
      · exact ⟨kl, hkey⟩
    · intro p
      have huniq : ∀ i q, E[i]? = some q → q.1 = x → i = j := fun i q hq hqx => by
        have n1 : (E.map (·.1))[i]? = some x := by rw [List.getElem?_map, hq]; simp [hqx]
        have n2 : (E.map (·.1))[j]? = some x := by rw [List.getElem?_map, hEj]; rfl
        have hi : i < (E.map (·.1)).length := (List.getElem?_eq_some_iff.1 n1).1
        exact (List.getElem?_inj hi h.once).1 (n1.trans n2.symm)
      constructor
      · intro hp
        obtain ⟨i, hi⟩ := List.mem_iff_getElem?.1 hp
        rw [List.getElem?_set] at hi
        by_cases hij : j = i
        · rw [if_pos hij, if_pos (by omega)] at hi
          exact .inl (Option.some.inj hi).symm
        · rw [if_neg hij] at hi
          refine .inr ⟨List.mem_iff_getElem?.2 ⟨i, hi⟩, fun hpx => hij (huniq i p hi hpx).symm⟩
      · rintro (rfl | ⟨hp, hpx⟩)
        · exact List.mem_iff_getElem?.2 ⟨j, by rw [List.getElem?_set]; simp [hjE]⟩
        · obtain ⟨i, hi⟩ := List.mem_iff_getElem?.1 hp
          refine List.mem_iff_getElem?.2 ⟨i, ?_⟩
          rw [List.getElem?_set, if_neg (fun e => ?_)]
          · exact hi
          · subst e
            rw [hEj] at hi
            exact hpx (by rw [← Option.some.inj hi])
end Go.Proofs.YtpbfeobifpmjbaaDoor
