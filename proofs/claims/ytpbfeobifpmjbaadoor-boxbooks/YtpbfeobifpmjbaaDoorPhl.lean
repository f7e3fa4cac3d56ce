/- Operations that come up in any order, by a check that does not list the orders. -/
import Derived.Test.YtpbfeobifpmjbaaDoorGphase
namespace Go.Proofs.YtpbfeobifpmjbaaDoor
set_option linter.unusedVariables false
set_option linter.unusedSimpArgs false
set_option maxRecDepth 100000

/-- The operations that i waits for. -/
def preds (md : Region.Mode) (ops : Array Oper) (i : Nat) : List Nat := ((ops[i]?).map fun o => (o.after.toList.filter fun e => Region.binds md e).map (·.on)).getD []
/-- All that j waits for, as bits. -/
def maskOf (pr : List Nat) (t : List Nat) : Nat := pr.foldl (fun m p => m ||| ((1 <<< p) ||| t.getD p 0)) 0
def tabOf (pr : Nat → List Nat) (n : Nat) : List Nat := (List.range n).foldl (fun t j => t ++ [maskOf (pr j) t]) []
theorem bit_one (p x : Nat) : (1 <<< p).testBit x = decide (x = p) := by
  rw [Nat.one_shiftLeft, Nat.testBit_two_pow]
  simp [eq_comm]
theorem mask_bit (t : List Nat) (x : Nat) : ∀ (pr : List Nat) (m : Nat), (pr.foldl (fun m p => m ||| ((1 <<< p) ||| t.getD p 0)) m).testBit x = true → m.testBit x = true ∨ ∃ p ∈ pr, x = p ∨ (t.getD p 0).testBit x = true
  | [], m, h => .inl h
  | p :: pr, m, h => by
    rw [List.foldl_cons] at h
    rcases mask_bit t x pr _ h with h1 | ⟨q, hq, h1⟩
    · rw [Nat.testBit_or, Nat.testBit_or, bit_one, Bool.or_eq_true, Bool.or_eq_true, decide_eq_true_iff] at h1
      rcases h1 with h1 | h1 | h1
      · exact .inl h1
      · exact .inr ⟨p, by simp, .inl h1⟩
      · exact .inr ⟨p, by simp, .inr h1⟩
    · exact .inr ⟨q, by simp [hq], h1⟩
theorem tab_succ (pr : Nat → List Nat) (n : Nat) : tabOf pr (n + 1) = tabOf pr n ++ [maskOf (pr n) (tabOf pr n)] := by
  unfold tabOf
  rw [List.range_succ, List.foldl_append]
  rfl
theorem tab_length (pr : Nat → List Nat) : ∀ n, (tabOf pr n).length = n
  | 0 => rfl
  | n + 1 => by rw [tab_succ, List.length_append, tab_length pr n]; rfl
theorem tab_at (pr : Nat → List Nat) : ∀ (n j : Nat), j < n → (tabOf pr n).getD j 0 = maskOf (pr j) (tabOf pr j)
  | 0, j, h => by omega
  | n + 1, j, h => by
    rw [tab_succ, List.getD_eq_getElem?_getD]
    rcases Nat.lt_or_ge j n with h1 | h1
    · rw [List.getElem?_append_left (by rw [tab_length]; exact h1), ← List.getD_eq_getElem?_getD]
      exact tab_at pr n j h1
    · obtain rfl : j = n := by omega
      rw [List.getElem?_append_right (by rw [tab_length]; exact Nat.le_refl _), tab_length]
      simp
/-- Whoever is ready has all that it waits for, near and far, behind it. -/
theorem tab_listed (pr : Nat → List Nat) (n : Nat) (hpr : ∀ j, j < n → ∀ p ∈ pr j, p < j) (L : Nat → Bool) (cl : ∀ j, j < n → L j = true → ∀ p ∈ pr j, L p = true) :
    ∀ (m j : Nat), j ≤ m → j < n → (∀ p ∈ pr j, L p = true) → ∀ x, ((tabOf pr n).getD j 0).testBit x = true → L x = true
  | m, j, hm, hj, hp, x, hx => by
    rw [tab_at pr n j hj] at hx
    rcases mask_bit _ x _ _ hx with h1 | ⟨p, hpm, h1⟩
    · simp at h1
    · have hpj := hpr j hj p hpm
      rcases h1 with rfl | h1
      · exact hp _ hpm
      · rw [tab_at pr j p hpj, ← tab_at pr n p (by omega)] at h1
        match m, hm with
        | 0, hm => omega
        | m + 1, hm => exact tab_listed pr n hpr L cl m p (by omega) (by omega) (cl p (by omega) (hp p hpm)) x h1

structure Fits (md : Region.Mode) (ops : Array Oper) (deps : Nat → List Nat) (is : List Nat) (listed : Array Bool) : Prop where
  size : listed.size = ops.size
  tp : ∀ j, j < ops.size → ∀ p ∈ preds md ops j, p < j
  lt : ∀ i ∈ is, i < ops.size ∧ listed.getD i false = false
  dp : ∀ i ∈ is, ∀ j ∈ deps i, j ∈ preds md ops i
  cl : ∀ j, j < ops.size → listed.getD j false = true → ∀ p ∈ preds md ops j, listed.getD p false = true
  out : ∀ j, j < ops.size → listed.getD j false = false → j ∉ is → ∀ i ∈ is, ((tabOf (preds md ops) ops.size).getD j 0).testBit i = true
def fits (md : Region.Mode) (ops : Array Oper) (deps : Nat → List Nat) (is : List Nat) (listed : Array Bool) : Bool :=
  (listed.size == ops.size) && ((List.range ops.size).all fun j => (preds md ops j).all fun p => decide (p < j)) && (is.all fun i => decide (i < ops.size) && !listed.getD i false && ((deps i).all fun j => (preds md ops i).contains j)) &&
  ((List.range ops.size).all fun j => !listed.getD j false || ((preds md ops j).all fun p => listed.getD p false)) &&
  (match tabOf (preds md ops) ops.size with
   | t => (List.range ops.size).all fun j => listed.getD j false || is.contains j || (is.all fun i => (t.getD j 0).testBit i))
theorem Fits.of {md : Region.Mode} {ops : Array Oper} {deps : Nat → List Nat} {is : List Nat} {listed : Array Bool} (h : fits md ops deps is listed = true) : Fits md ops deps is listed := by
  simp only [fits, Bool.and_eq_true, beq_iff_eq, List.all_eq_true, List.mem_range, decide_eq_true_iff, Bool.or_eq_true, Bool.not_eq_true', List.contains_iff_mem] at h
  obtain ⟨⟨⟨⟨h1, h2⟩, h3⟩, h4⟩, h5⟩ := h
  refine ⟨h1, h2, fun i hi => ⟨(h3 i hi).1.1, (h3 i hi).1.2⟩, fun i hi => (h3 i hi).2, fun j hj hl p hp => ?_, fun j hj hl hn i hi => ?_⟩
  · rcases h4 j hj with h | h
    · rw [hl] at h; cases h
    · exact h p hp
  · rcases h5 j hj with (h | h) | h
    · rw [hl] at h; cases h
    · exact absurd h hn
    · exact h i hi
theorem ready_spec {md : Region.Mode} {ops : Array Oper} {listed : Array Bool} (hs : listed.size = ops.size) {i : Nat} : i ∈ Region.ready md ops listed ↔ i < ops.size ∧ listed.getD i false = false ∧ ∀ p ∈ preds md ops i, listed.getD p false = true := by
  unfold Region.ready
  rw [List.mem_filter, List.mem_range]
  refine and_congr_right fun hi => ?_
  have ho : ops[i]? = some ops[i] := Array.getElem?_eq_getElem hi
  have hl : listed.getD i true = listed.getD i false := by
    rw [Array.getD_eq_getD_getElem?, Array.getD_eq_getD_getElem?, Array.getElem?_eq_getElem (show i < listed.size by omega)]
    rfl
  rw [hl, ho, Bool.and_eq_true, Bool.not_eq_true']
  refine and_congr_right fun _ => ?_
  simp only [Option.map_some, Option.getD_some, preds, ho, Array.all_eq_true_iff_forall_mem, List.mem_map, List.mem_filter, Array.mem_toList_iff]
  constructor
  · rintro h p ⟨e, ⟨he, hb⟩, rfl⟩
    have := h e he
    rw [hb] at this
    simpa using this
  · intro h e he
    cases hb : Region.binds md e with
    | false => rfl
    | true => simpa using h e.on ⟨e, ⟨he, hb⟩, rfl⟩
theorem Fits.ready {md : Region.Mode} {ops : Array Oper} {deps : Nat → List Nat} {is : List Nat} {listed : Array Bool} (h : Fits md ops deps is listed) {i j : Nat} (hj : j ∈ is) (hi : i ∈ Region.ready md ops listed) : i ∈ is := by
  obtain ⟨h1, h2, h3⟩ := (ready_spec h.size).1 hi
  refine Classical.byContradiction fun hn => ?_
  have := tab_listed (preds md ops) ops.size h.tp (fun j => listed.getD j false) h.cl i i (Nat.le_refl _) h1 h3 j (h.out i h1 h2 hn j hj)
  have h4 := (h.lt j hj).2
  rw [h4] at this
  cases this
theorem Fits.some_ready {md : Region.Mode} {ops : Array Oper} {deps : Nat → List Nat} {is : List Nat} {listed : Array Bool} (h : Fits md ops deps is listed) {j : Nat} (hj : j ∈ is) : Region.ready md ops listed ≠ [] := by
  have key : ∀ m, (∃ j, j ≤ m ∧ j < ops.size ∧ listed.getD j false = false) → ∃ i, i ∈ Region.ready md ops listed := by
    intro m
    induction m with
    | zero =>
      rintro ⟨j, h0, h1, h2⟩
      obtain rfl : j = 0 := by omega
      exact ⟨0, (ready_spec h.size).2 ⟨h1, h2, fun p hp => by have := h.tp 0 h1 p hp; omega⟩⟩
    | succ m ih =>
      rintro ⟨j, h0, h1, h2⟩
      by_cases hb : ∃ i, i ≤ m ∧ i < ops.size ∧ listed.getD i false = false
      · exact ih hb
      · refine ⟨j, (ready_spec h.size).2 ⟨h1, h2, fun p hp => ?_⟩⟩
        have hp1 := h.tp j h1 p hp
        cases hl : listed.getD p false with
        | true => rfl
        | false => exact absurd ⟨p, by omega, by omega, hl⟩ hb
  obtain ⟨i, hi⟩ := key j ⟨j, Nat.le_refl _, h.lt j hj⟩
  intro h0
  rw [h0] at hi
  cases hi
theorem getD_set (listed : Array Bool) (i : Nat) (hi : i < listed.size) (j : Nat) : (listed.setIfInBounds i true).getD j false = (listed.getD j false || j == i) := by
  by_cases hj : j = i
  · subst hj
    simp [Array.getD_eq_getD_getElem?, Array.getElem?_setIfInBounds, hi]
  · simp [Array.getD_eq_getD_getElem?, Array.getElem?_setIfInBounds, Ne.symm hj, hj]
theorem Fits.step {md : Region.Mode} {ops : Array Oper} {deps : Nat → List Nat} {is : List Nat} {listed : Array Bool} (h : Fits md ops deps is listed) (hnd : is.Nodup) {i : Nat} (him : i ∈ is) (hi : i ∈ Region.ready md ops listed) : Fits md ops deps (is.erase i) (listed.setIfInBounds i true) := by
  obtain ⟨h1, h2, h3⟩ := (ready_spec h.size).1 hi
  have hil : i < listed.size := by rw [h.size]; exact h1
  refine ⟨by simp [h.size], h.tp, fun j hj => ?_, fun j hj => h.dp j (List.mem_of_mem_erase hj), fun j hj hl p hp => ?_, fun j hj hl hn k hk => ?_⟩
  · have hne : j ≠ i := fun e => by
      subst e
      exact (List.Nodup.not_mem_erase hnd) hj
    have := h.lt j (List.mem_of_mem_erase hj)
    refine ⟨this.1, ?_⟩
    rw [getD_set _ _ hil, this.2]
    simpa using hne
  · rw [getD_set _ _ hil, Bool.or_eq_true, beq_iff_eq] at hl
    rw [getD_set _ _ hil]
    rcases hl with hl | rfl
    · rw [h.cl j hj hl p hp]; rfl
    · rw [h3 p hp]; rfl
  · rw [getD_set _ _ hil, Bool.or_eq_false_iff, beq_eq_false_iff_ne] at hl
    refine h.out j hj hl.1 (fun hm => hn ?_) k (List.mem_of_mem_erase hk)
    exact (List.mem_erase_of_ne hl.2).2 hm
theorem phaseL {P : Program} {md : Region.Mode} {ops : Array Oper} {Q : Exit → Act → World → Prop} (deps : Nat → List Nat) (I : (Nat → Bool) → Act → World → Prop) (all : List Nat)
    (step : ∀ i ∈ all, ∀ d a w, I d a w → d i = false → (∀ j ∈ deps i, d j = true) → wpOp P ops Q i (I fun j => d j || j == i) a w) (fuel : Nat) :
    ∀ (n : Nat) (is : List Nat) (listed : Array Bool) (a : Act) (w : World), is.length = n → is.Nodup → (∀ i ∈ is, i ∈ all) → Fits md ops deps is listed → I (fun j => listed.getD j false) a w →
      (∀ a w, I (fun j => (is.foldl (fun l i => l.setIfInBounds i true) listed).getD j false) a w → wpAny P md ops Q fuel (is.foldl (fun l i => l.setIfInBounds i true) listed) a w) → wpAny P md ops Q (fuel + n) listed a w
  | 0, is, listed, a, w, hn, _, _, _, hI, fin => by
    obtain rfl : is = [] := List.eq_nil_of_length_eq_zero hn
    exact fin a w hI
  | n + 1, is, listed, a, w, hn, hnd, hsub, hw, hI, fin => by
    show wpAny P md ops Q ((fuel + n) + 1) listed a w
    obtain ⟨j0, hj0⟩ : ∃ j, j ∈ is := by
      cases is with
      | nil => simp at hn
      | cons j l => exact ⟨j, by simp⟩
    refine ⟨fun h0 => absurd h0 (hw.some_ready hj0), fun i hi => ?_⟩
    have him := hw.ready hj0 hi
    obtain ⟨h1, h2, h3⟩ := (ready_spec hw.size).1 hi
    have hil : i < listed.size := by rw [hw.size]; exact h1
    refine wpOp_mono (fun a' w' hI' => ?_) (step i (hsub i him) _ a w hI h2 fun j hj => h3 j (hw.dp i him j hj))
    have hfun : (fun j => listed.getD j false || j == i) = fun j => (listed.setIfInBounds i true).getD j false := by
      funext j
      rw [getD_set _ _ hil]
    rw [hfun] at hI'
    have hfold : (is.erase i).foldl (fun (l : Array Bool) i => l.setIfInBounds i true) (listed.setIfInBounds i true) = is.foldl (fun l i => l.setIfInBounds i true) listed := by
      obtain ⟨s, t, rfl⟩ := List.append_of_mem him
      have hns : i ∉ s := fun hs => by
        rw [List.nodup_append] at hnd
        exact hnd.2.2 _ hs _ (by simp) rfl
      rw [List.erase_append_right _ hns, List.erase_cons_head]
      exact foldl_mid (fun (l : Array Bool) i => l.setIfInBounds i true) i s t listed (fun q hq z => Array.setIfInBounds_comm _ _ (fun e => hns (e ▸ hq)))
    refine phaseL deps I all step fuel n (is.erase i) _ a' w' (by rw [List.length_erase_of_mem him]; omega) (hnd.erase _) (fun j hj => hsub j (List.mem_of_mem_erase hj)) (hw.step hnd him hi) hI' ?_
    rw [hfold]
    exact fin
end Go.Proofs.YtpbfeobifpmjbaaDoor
