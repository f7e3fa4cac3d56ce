import Derived.Test.YtajgjeialbgijaaDoorSTh0
import Derived.Test.YtajgjeialbgijaaDoorSVbg
namespace Go.Proofs.YtajgjeialbgijaaDoor.Vs
set_option linter.unusedVariables false
set_option linter.unusedSimpArgs false
set_option maxRecDepth 100000
set_option linter.unusedSectionVars false
structure Ch (i : Nat) (last : V) (L : List V) : Prop where
  len : L.length = i
  ok : Ok last
  count : last.count = (i : Int)
  vec : ∀ z ∈ last.vec, 0 ≤ z ∧ z ≤ (i : Int)
  ep : 0 ≤ last.ep ∧ last.ep ≤ (i : Int)
  each : ∀ (k : Nat) (v : V), L[k]? = some v → Ok v ∧ v.count = (k : Int) + 1
theorem Ch.nil : Ch 0 zero [] := ⟨rfl, zero_ok, rfl, by intro z hz; simp [zero] at hz; omega, by decide, by simp⟩
def chN (last : V) (c : Int) (e : Int) (r : UInt8) : V := { next last c with root := (next last c).root.set 0 r, ep := last.ep + e }
section
variable {i : Nat} {last : V} {L : List V} (h : Ch i last L) (hi : i < 15) {k : Nat} (hk : k < 4)
include h hi hk
theorem ch_own : 0 ≤ mine last ((k : Int) + 1) ∧ mine last ((k : Int) + 1) ≤ (i : Int) := by
  have hl := h.ok.vec
  rw [mine, show ((k : Int) + 1).toNat - 1 = k by omega, List.getD_eq_getElem?_getD, List.getElem?_eq_getElem (by omega)]
  exact h.vec _ (List.getElem_mem _)
theorem ch_c : isC ((k : Int) + 1) = true := by simp [isC]; omega
theorem ch_next : next last ((k : Int) + 1) = ⟨(k : Int) + 1, mine last ((k : Int) + 1) + 1, (i : Int) + 1, vhash last, last.root, last.ep, last.vec.set k (mine last ((k : Int) + 1) + 1), no32⟩ := by
  have h1 := ch_own h hi hk
  have h2 := h.count
  rw [next, if_pos ⟨ch_c h hi hk, by unfold top; omega, by unfold top; omega⟩, h2, show ((k : Int) + 1).toNat - 1 = k by omega]
theorem ch_vec (e : Int) (r : UInt8) : (chN last ((k : Int) + 1) e r).vec = last.vec.set k (mine last ((k : Int) + 1) + 1) := by rw [chN, ch_next h hi hk]
theorem ch_n (e : Int) (r : UInt8) : (chN last ((k : Int) + 1) e r).n = mine last ((k : Int) + 1) + 1 := by rw [chN, ch_next h hi hk]
theorem ch_count (e : Int) (r : UInt8) : (chN last ((k : Int) + 1) e r).count = (i : Int) + 1 := by rw [chN, ch_next h hi hk]
theorem ch_ok (e : Int) (r : UInt8) (he : 0 ≤ e ∧ e ≤ 1) : Ok (chN last ((k : Int) + 1) e r) := by
  have hn := next_ok h.ok ((k : Int) + 1)
  have h3 := h.ep
  exact ⟨hn.prev, by show ((next last _).root.set 0 r).length = 32; rw [List.length_set]; exact hn.root, hn.vec, hn.tag, hn.client, hn.n, hn.count, ⟨by show _ ≤ last.ep + e; omega, by show last.ep + e ≤ _; omega⟩, hn.each⟩
theorem ch_follows (e : Int) (r : UInt8) (he : e = 0 ∨ e = 1) : follows last (chN last ((k : Int) + 1) e r) = true := by
  have h1 := ch_own h hi hk
  have h2 := h.count
  have h3 := h.ep
  have hf := follows_next (last := last) (ch_c h hi hk) (by unfold top; omega) (by unfold top; omega) ((next last ((k : Int) + 1)).root.set 0 r) no32 (last.ep + e)
  have ht : (next last ((k : Int) + 1)).tag = no32 := by rw [ch_next h hi hk]
  have hv : chN last ((k : Int) + 1) e r = { next last ((k : Int) + 1) with root := (next last ((k : Int) + 1)).root.set 0 r, ep := last.ep + e, tag := no32 } := by
    rw [← ht]
    rfl
  rw [hv, hf]
  simp only [epF, decide_eq_true_iff]
  unfold top
  omega
theorem ch_all (e : Int) (r : UInt8) : ∀ z ∈ (chN last ((k : Int) + 1) e r).vec, 0 ≤ z ∧ z ≤ (i : Int) + 1 := fun z hz => by
  rw [ch_vec h hi hk] at hz
  have h1 := ch_own h hi hk
  rcases List.mem_or_eq_of_mem_set hz with hz | rfl
  · have := h.vec z hz; omega
  · omega
theorem ch_may (e : Int) (r : UInt8) (he : 0 ≤ e ∧ e ≤ 1) : may (chN last ((k : Int) + 1) e r) = true := by
  have h1 := ch_own h hi hk
  have h3 := h.ep
  have h4 : (chN last ((k : Int) + 1) e r).client = (k : Int) + 1 := by rw [chN, ch_next h hi hk]
  have h5 : (chN last ((k : Int) + 1) e r).ep = last.ep + e := rfl
  simp only [may, Bool.and_eq_true, List.all_eq_true, h4, ch_n h hi hk, ch_count h hi hk, h5, lim, decide_eq_true_iff, ch_c h hi hk, true_and]
  refine ⟨fun z hz => ?_, by omega, by omega, by omega⟩
  have := ch_all h hi hk e r z hz
  omega
theorem ch_more (e : Int) (r : UInt8) (he : 0 ≤ e ∧ e ≤ 1) : Ch (i + 1) (chN last ((k : Int) + 1) e r) (L ++ [chN last ((k : Int) + 1) e r]) := by
  have h3 := h.ep
  have h5 : (chN last ((k : Int) + 1) e r).ep = last.ep + e := rfl
  have hok := ch_ok h hi hk e r he
  refine ⟨by simp [h.len], hok, by rw [ch_count h hi hk]; omega, fun z hz => ?_, by rw [h5]; omega, fun j v hv => ?_⟩
  · have := ch_all h hi hk e r z hz
    omega
  · rcases Nat.lt_or_ge j L.length with hj | hj
    · rw [List.getElem?_append_left hj] at hv
      exact h.each j v hv
    · rw [List.getElem?_append_right hj] at hv
      have hj0 : j - L.length = 0 := by
        have := (List.getElem?_eq_some_iff.1 hv).1
        simp at this
        omega
      rw [hj0] at hv
      simp at hv
      subst hv
      have := h.len
      exact ⟨hok, by rw [ch_count h hi hk]; omega⟩
theorem ch_other (e : Int) (r : UInt8) {j : Nat} {v : V} (hj : j + 1 < i) (hv : L[j]? = some v) : follows v (chN last ((k : Int) + 1) e r) = false := by
  have hc := (h.each j v hv).2
  have hne : chN last ((k : Int) + 1) e r ≠ { next v (chN last ((k : Int) + 1) e r).client with root := (chN last ((k : Int) + 1) e r).root, ep := (chN last ((k : Int) + 1) e r).ep, tag := (chN last ((k : Int) + 1) e r).tag } := by
    intro hh
    have h1 := congrArg V.count hh
    rw [ch_count h hi hk] at h1
    have h2 : (next v (chN last ((k : Int) + 1) e r).client).count = v.count + 1 ∨ (next v (chN last ((k : Int) + 1) e r).client).count = 0 := by
      unfold next
      split
      · exact .inl rfl
      · exact .inr rfl
    have h3 : (i : Int) + 1 = (next v (chN last ((k : Int) + 1) e r).client).count := h1
    omega
  unfold follows
  rw [decide_eq_false hne]
  simp
end
end Go.Proofs.YtajgjeialbgijaaDoor.Vs
namespace Go.Proofs.YtajgjeialbgijaaDoor
set_option linter.unusedVariables false
set_option linter.unusedSimpArgs false
set_option maxRecDepth 100000
open Go.RowKit Vs
theorem infoV : (Tryd.prog.info? 30).map (fun i => (i.zero, i.size, i.bytes)) = some (some (.agg zero.cells.toArray), 104, 160) := by kernel_rfl
def versL (l : List V) : List (List Value) := l.map V.cells
theorem versFill {D R L T : List Value} (hd : D.length = 32) (hr : R.length = 32) (hl : L.length = 4) (ht : T.length = 32) (c n k e : Value) : Instr.fill (fun i => some (i * 104, 104)) ((Array.range (1 * 104)).map ((Value.agg zero.cells.toArray).cells[· % (Value.agg zero.cells.toArray).cells.size]!)) [(0, .agg (c :: n :: k :: (D ++ (R ++ (e :: (L ++ T))))).toArray)] = some (c :: n :: k :: (D ++ (R ++ (e :: (L ++ T))))).toArray := by
  obtain ⟨a0, a1, a2, a3, a4, a5, a6, a7, a8, a9, a10, a11, a12, a13, a14, a15, a16, a17, a18, a19, a20, a21, a22, a23, a24, a25, a26, a27, a28, a29, a30, a31, rfl⟩ := list32 hd
  obtain ⟨b0, b1, b2, b3, b4, b5, b6, b7, b8, b9, b10, b11, b12, b13, b14, b15, b16, b17, b18, b19, b20, b21, b22, b23, b24, b25, b26, b27, b28, b29, b30, b31, rfl⟩ := list32 hr
  obtain ⟨t0, t1, t2, t3, t4, t5, t6, t7, t8, t9, t10, t11, t12, t13, t14, t15, t16, t17, t18, t19, t20, t21, t22, t23, t24, t25, t26, t27, t28, t29, t30, t31, rfl⟩ := list32 ht
  obtain ⟨v0, v1, v2, v3, rfl⟩ := list4 hl
  kernel_rfl
theorem versRow {v : V} (h : Ok v) (W : World) : (Instr.buildSlice 25 1 #[(0, .agg v.cells.toArray)]).run Tryd.prog W = .ok (.slice (some ⟨W.heap.size, 0, none⟩) 1 1) (W.alloc (.cells v.cells.toArray 30)) := by
  obtain ⟨i0, hi, hz0, hz1, hz2⟩ := info_parts infoV
  refine run_buildSlice W 25 30 1 _ _ i0 _ Tryd.underlying25 hi hz0 (by rw [hz1]; decide) (by rw [hz1]; decide) ?_
  rw [hz1]
  exact versFill (by rw [List.length_map, h.prev]) (by rw [List.length_map, h.root]) (by rw [List.length_map, h.vec]) (by rw [List.length_map, h.tag]) _ _ _ _
theorem index_vers (b off n c k : Nat) (h : k < n) (W : World) : (Instr.indexAt 25 (.slice (some ⟨b, off, none⟩) n c) (.int .i64 (k : Int))).run Tryd.prog W = .ok (.pointer (some ⟨b, off + k * 104, none⟩)) W := by
  obtain ⟨i0, hi, hz0, hz1, hz2⟩ := info_parts infoV
  have hel : Tryd.prog.elem 25 = 30 := by kernel_rfl
  rw [run_indexAt_slice (P := Tryd.prog) W 25 ⟨b, off, none⟩ n c .i64 (k : Int) (by rw [hel]; exact Tryd.underlying25), if_pos ⟨by omega, by omega⟩, hel]
  simp [sizeOf, typeInfo, hi, hz1, add_plain]
theorem push_vers {w : World} {B : Nat} {ty : TypeId} {u : Value} {l : List V} {v : V} (h : Ow2 w B 30 104 u (versL l)) {g c : Nat} (hb : Blk w g 30 v.cells) (hv : Ok v) (hn : l.length ≤ 1000) (hB : B ≤ w.heap.size) :
    ∃ v' w', (Builtin.append_ #[25, 25] ty #[u, .slice (some ⟨g, 0, none⟩) 1 c]).run Tryd.prog w = .ok v' w' ∧ Ow2 w' B 30 104 v' (versL (l ++ [v])) ∧ w.grownBy w' u.ownBlock ∧ Lies w u v' := by
  obtain ⟨i0, hi, hz0, hz1, hz2⟩ := info_parts infoV
  have := run_own2 (ty := ty) (c := c) Tryd.underlying25 hi hz0 hz1 hz2 (by rfl) (by decide) (by decide) h (x := v.cells) (fun j u hu => by rw [hb.cell, hu]) (cells_length hv) (cells_one _) (by simpa [versL] using hn) hB
  simpa [versL] using this
end Go.Proofs.YtajgjeialbgijaaDoor
