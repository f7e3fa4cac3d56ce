/- Gphase: Phase Inv. -/
import Derived.Orders
import Derived.Test.YtpbfeobifpmjbaaDoorGsha1
/- Operations that only read, and for which all that follows waits: any order of them is as good as one. -/
namespace Go.Proofs.YtpbfeobifpmjbaaDoor
set_option linter.unusedVariables false
set_option linter.unusedSimpArgs false
set_option maxRecDepth 100000

/-- In whichever order those numbers come up, nobody else comes up between them. -/
def alone (md : Region.Mode) (ops : Array Oper) : Nat → List Nat → Array Bool → Bool
  | 0, _, _ => true
  | n + 1, is, listed => (Region.ready md ops listed == is) && is.all fun i => alone md ops n (is.erase i) (listed.setIfInBounds i true)

theorem foldl_late {α β : Type} (f : β → α → β) (r : α) : ∀ (s : List α) (z : β), (∀ q ∈ s, ∀ z, f (f z q) r = f (f z r) q) → s.foldl f (f z r) = f (s.foldl f z) r
  | [], _, _ => rfl
  | q :: s, z, h => by
    rw [List.foldl_cons, List.foldl_cons, ← h q (by simp) z]
    exact foldl_late f r s (f z q) (fun p hp => h p (by simp [hp]))
theorem foldl_mid {α β : Type} (f : β → α → β) (r : α) (s t : List α) (z : β) (h : ∀ q ∈ s, ∀ z, f (f z q) r = f (f z r) q) : (s ++ t).foldl f (f z r) = (s ++ r :: t).foldl f z := by
  rw [List.foldl_append, List.foldl_append, List.foldl_cons, foldl_late f r s z h]

/-- R: numbers of operations, themselves, what each yields. -/
theorem reads_first {P : Program} {md : Region.Mode} {ops : Array Oper} {Q : Exit → Act → World → Prop} {w : World} (hs : Region.noSelect ops = true) :
    ∀ (n : Nat) (R : List (Nat × Oper × Value)) (fuel : Nat) (listed : Array Bool) (a : Act), R.length = n →
      (∀ r ∈ R, ops[r.1]? = some r.2.1 ∧ Region.wanted r.2.1 (yielded ops a.tmps) = true ∧ (execOp a.eval r.2.1).run P w = .ok (.value r.2.2) w) →
      (∀ r ∈ R, ∀ q ∈ R, r.1 ≠ q.1 → r.2.1.apart ops q.2.1 = true) → (R.map (·.1)).Nodup → alone md ops n (R.map (·.1)) listed = true →
      wpAny P md ops Q fuel ((R.map (·.1)).foldl (fun l i => l.setIfInBounds i true) listed) (R.foldl (fun a r => a.put r.2.1.dst r.2.2) a) w →
      wpAny P md ops Q (fuel + n) listed a w
  | 0, R, fuel, listed, a, hn, _, _, _, _, h => by
    obtain rfl : R = [] := List.eq_nil_of_length_eq_zero hn
    exact h
  | n + 1, R, fuel, listed, a, hn, h1, h2, h3, h4, h => by
    rw [alone, Bool.and_eq_true, List.all_eq_true] at h4
    have hr : Region.ready md ops listed = R.map (·.1) := by simpa using h4.1
    show wpAny P md ops Q ((fuel + n) + 1) listed a w
    refine ⟨fun h0 => ?_, fun i hi => ?_⟩
    · rw [hr] at h0
      have : R = [] := by simpa using h0
      rw [this] at hn
      simp at hn
    · rw [hr] at hi
      have hall := h4.2 i hi
      obtain ⟨r, hrm, rfl⟩ := List.mem_map.1 hi
      obtain ⟨ho, hw, hrun⟩ := h1 r hrm
      obtain ⟨s, t, rfl⟩ := List.append_of_mem hrm
      have hns : ∀ q ∈ s ++ t, q.1 ≠ r.1 := fun q hq e => by
        rw [List.map_append, List.map_cons, List.nodup_append] at h3
        rcases List.mem_append.1 hq with hq | hq
        · exact h3.2.2 _ (List.mem_map_of_mem hq) _ (by simp) e
        · exact (List.nodup_cons.1 h3.2.1).1 (e ▸ List.mem_map_of_mem hq)
      have hsub : ∀ q ∈ s ++ t, q ∈ s ++ r :: t := fun q hq => by
        rcases List.mem_append.1 hq with hq | hq
        · exact List.mem_append_left _ hq
        · exact List.mem_append_right _ (List.mem_cons_of_mem _ hq)
      have herase : ((s ++ r :: t).map (·.1)).erase r.1 = (s ++ t).map (·.1) := by
        rw [List.map_append, List.map_cons, List.erase_append_right _ (fun hm => by
          obtain ⟨q, hq, e⟩ := List.mem_map.1 hm
          exact hns q (List.mem_append_left _ hq) e), List.erase_cons_head, List.map_append]
      rw [herase] at hall
      have hap : ∀ q ∈ s ++ t, r.2.1.apart ops q.2.1 = true := fun q hq => h2 r hrm q (hsub q hq) (Ne.symm (hns q hq))
      have hsel : ∀ q ∈ s ++ t, ∀ cs b, q.2.1.op ≠ .select cs b := fun q hq cs b => Region.noSelect_spec hs q.1 q.2.1 cs b (h1 q (hsub q hq)).1
      have key : wpAny P md ops Q (fuel + n) (listed.setIfInBounds r.1 true) (a.put r.2.1.dst r.2.2) w := by
        refine reads_first hs n (s ++ t) fuel _ _ (by simp at hn ⊢; omega) (fun q hq => ?_) (fun p hp q hq => h2 p (hsub p hp) q (hsub q hq)) ?_ hall ?_
        · obtain ⟨q1, q2, q3⟩ := h1 q (hsub q hq)
          have hl := (Oper.apart_spec (hap q hq)).1
          exact ⟨q1, by rw [wanted_put q.2.1 a _ _ hl]; exact q2, by rw [execOp_put q.2.1 (hsel q hq) a _ _ hl]; exact q3⟩
        · rw [← herase]
          exact h3.erase _
        · have e1 : ((s ++ t).map (·.1)).foldl (fun l i => l.setIfInBounds i true) (listed.setIfInBounds r.1 true) = ((s ++ r :: t).map (·.1)).foldl (fun l i => l.setIfInBounds i true) listed := by
            rw [List.map_append, List.map_append, List.map_cons]
            refine foldl_mid (fun (l : Array Bool) i => l.setIfInBounds i true) r.1 (s.map (·.1)) (t.map (·.1)) listed (fun i hi z => ?_)
            obtain ⟨q, hq, rfl⟩ := List.mem_map.1 hi
            exact Array.setIfInBounds_comm _ _ (hns q (List.mem_append_left _ hq))
          have e2 : (s ++ t).foldl (fun a r => a.put r.2.1.dst r.2.2) (a.put r.2.1.dst r.2.2) = (s ++ r :: t).foldl (fun a r => a.put r.2.1.dst r.2.2) a :=
            foldl_mid (fun (a : Act) (r : Nat × Oper × Value) => a.put r.2.1.dst r.2.2) r s t a (fun q hq z => (Act.put_comm z r.2.2 q.2.2 (Oper.apart_spec (hap q (List.mem_append_left _ hq))).2.1).symm)
          rw [e1, e2]
          exact h
      unfold wpOp
      simp only [ho, hw, if_true]
      left
      unfold Oper.wp
      rw [hrun]
      exact key

def Reads (P : Program) (ops : Array Oper) (w : World) (a : Act) (o : Oper) (v : Value) : Prop := Region.wanted o (yielded ops a.tmps) = true ∧ (execOp a.eval o).run P w = .ok (.value v) w
/-- Four of them. -/
theorem reads4 {P : Program} {md : Region.Mode} {ops : Array Oper} {Q : Exit → Act → World → Prop} {w : World} {fuel : Nat} {listed : Array Bool} {a : Act} {i1 i2 i3 i4 : Nat} {o1 o2 o3 o4 : Oper} {v1 v2 v3 v4 : Value}
    (h1 : ops[i1]? = some o1) (h2 : ops[i2]? = some o2) (h3 : ops[i3]? = some o3) (h4 : ops[i4]? = some o4)
    (hs : Region.noSelect ops = true) (hap : ([(o1, o2), (o1, o3), (o1, o4), (o2, o3), (o2, o4), (o3, o4)].all fun p => p.1.apart ops p.2 && p.2.apart ops p.1) = true) (hal : alone md ops 4 [i1, i2, i3, i4] listed = true) (hnd : [i1, i2, i3, i4].Nodup)
    (y1 : Reads P ops w a o1 v1) (y2 : Reads P ops w a o2 v2) (y3 : Reads P ops w a o3 v3) (y4 : Reads P ops w a o4 v4)
    (h : wpAny P md ops Q fuel ((((listed.setIfInBounds i1 true).setIfInBounds i2 true).setIfInBounds i3 true).setIfInBounds i4 true) ((((a.put o1.dst v1).put o2.dst v2).put o3.dst v3).put o4.dst v4) w) : wpAny P md ops Q (fuel + 4) listed a w := by
  simp only [List.all_cons, List.all_nil, Bool.and_true, Bool.and_eq_true] at hap
  obtain ⟨⟨p12, p21⟩, ⟨p13, p31⟩, ⟨p14, p41⟩, ⟨p23, p32⟩, ⟨p24, p42⟩, p34, p43⟩ := hap
  refine reads_first hs 4 [(i1, o1, v1), (i2, o2, v2), (i3, o3, v3), (i4, o4, v4)] fuel listed a rfl ?_ ?_ (by simpa using hnd) hal h
  · intro r hr
    simp only [List.mem_cons, List.not_mem_nil, or_false] at hr
    rcases hr with rfl | rfl | rfl | rfl
    · exact ⟨h1, y1⟩
    · exact ⟨h2, y2⟩
    · exact ⟨h3, y3⟩
    · exact ⟨h4, y4⟩
  · intro r hr q hq hne
    simp only [List.mem_cons, List.not_mem_nil, or_false] at hr hq
    rcases hr with rfl | rfl | rfl | rfl <;> rcases hq with rfl | rfl | rfl | rfl <;> first | exact absurd rfl hne | assumption
end Go.Proofs.YtpbfeobifpmjbaaDoor
/- A region that draws its order, by what holds all the while: whichever operation comes up next keeps it. -/
namespace Go.Proofs.YtpbfeobifpmjbaaDoor
set_option linter.unusedVariables false
set_option linter.unusedSimpArgs false
set_option maxRecDepth 100000

/-- For n steps just numbers out of 'is' come up, each behind those that it waits for. -/
def within (md : Region.Mode) (ops : Array Oper) (deps : Nat → List Nat) : Nat → List Nat → Array Bool → Bool
  | 0, _, _ => true
  | n + 1, is, listed => (!(Region.ready md ops listed).isEmpty) && (Region.ready md ops listed).all fun i => is.contains i && (!listed.getD i true) && ((deps i).all fun j => listed.getD j false) && within md ops deps n (is.erase i) (listed.setIfInBounds i true)

theorem done_set (listed : Array Bool) (i : Nat) (h : listed.getD i true = false) : (fun j => (listed.setIfInBounds i true).getD j false) = fun j => listed.getD j false || j == i := by
  have hi : i < listed.size := by
    rcases Nat.lt_or_ge i listed.size with hlt | hge
    · exact hlt
    · simp [Array.getD_eq_getD_getElem?, Array.getElem?_eq_none hge] at h
  funext j
  by_cases hj : j = i
  · subst hj
    simp [Array.getD_eq_getD_getElem?, Array.getElem?_setIfInBounds, hi]
  · simp [Array.getD_eq_getD_getElem?, Array.getElem?_setIfInBounds, Ne.symm hj, hj]

theorem phase {P : Program} {md : Region.Mode} {ops : Array Oper} {Q : Exit → Act → World → Prop} (deps : Nat → List Nat) (I : (Nat → Bool) → Act → World → Prop) (all : List Nat)
    (step : ∀ i ∈ all, ∀ d a w, I d a w → d i = false → (∀ j ∈ deps i, d j = true) → wpOp P ops Q i (I fun j => d j || j == i) a w) (fuel : Nat) :
    ∀ (n : Nat) (is : List Nat) (listed : Array Bool) (a : Act) (w : World), is.length = n → is.Nodup → (∀ i ∈ is, i ∈ all) → within md ops deps n is listed = true → I (fun j => listed.getD j false) a w →
      (∀ a w, I (fun j => (is.foldl (fun l i => l.setIfInBounds i true) listed).getD j false) a w → wpAny P md ops Q fuel (is.foldl (fun l i => l.setIfInBounds i true) listed) a w) → wpAny P md ops Q (fuel + n) listed a w
  | 0, is, listed, a, w, hn, _, _, _, hI, fin => by
    obtain rfl : is = [] := List.eq_nil_of_length_eq_zero hn
    exact fin a w hI
  | n + 1, is, listed, a, w, hn, hnd, hsub, hw, hI, fin => by
    rw [within, Bool.and_eq_true, List.all_eq_true] at hw
    show wpAny P md ops Q ((fuel + n) + 1) listed a w
    refine ⟨fun h0 => ?_, fun i hi => ?_⟩
    · rw [h0] at hw; simp at hw
    · have hx := hw.2 i hi
      simp only [Bool.and_eq_true] at hx
      obtain ⟨⟨⟨h1, h2⟩, h3⟩, h4⟩ := hx
      have him : i ∈ is := by simpa using h1
      have hnot : listed.getD i true = false := by simpa using h2
      have hdf : listed.getD i false = false := by
        rw [Array.getD_eq_getD_getElem?] at hnot ⊢
        cases hq : listed[i]? with
        | none => rfl
        | some b => rw [hq] at hnot; simpa using hnot
      have hdeps : ∀ j ∈ deps i, listed.getD j false = true := by simpa using h3
      refine wpOp_mono (fun a' w' hI' => ?_) (step i (hsub i him) _ a w hI hdf hdeps)
      rw [← done_set listed i hnot] at hI'
      have hfold : (is.erase i).foldl (fun (l : Array Bool) i => l.setIfInBounds i true) (listed.setIfInBounds i true) = is.foldl (fun l i => l.setIfInBounds i true) listed := by
        obtain ⟨s, t, rfl⟩ := List.append_of_mem him
        have hns : i ∉ s := fun hs => by
          rw [List.nodup_append] at hnd
          exact hnd.2.2 _ hs _ (by simp) rfl
        rw [List.erase_append_right _ hns, List.erase_cons_head]
        exact foldl_mid (fun (l : Array Bool) i => l.setIfInBounds i true) i s t listed (fun q hq z => Array.setIfInBounds_comm _ _ (fun e => hns (e ▸ hq)))
      refine phase deps I all step fuel n (is.erase i) _ a' w' (by rw [List.length_erase_of_mem him]; omega) (hnd.erase _) (fun j hj => hsub j (List.mem_of_mem_erase hj)) h4 hI' ?_
      rw [hfold]
      exact fin
/-- A step, where the operation is known. -/
theorem op_step {P : Program} {ops : Array Oper} {Q : Exit → Act → World → Prop} {i : Nat} {o : Oper} {K : Act → World → Prop} {a : Act} {w : World} (ho : ops[i]? = some o) (hg : o.guard = none) (h : o.wp P a w K Q) : wpOp P ops Q i K a w := by
  unfold wpOp
  simp only [ho, Region.wanted, hg, if_true]
  exact .inl h
/-- A whole array is loaded, as one step of a region that draws. -/
theorem step_loadL {P : Program} {ops : Array Oper} {op : Oper} {a : Act} {w : World} {K : Act → World → Prop} {Q : Exit → Act → World → Prop} {E : Prop} (hgd : op.guard = none) (ty : TypeId) (x : Operand) (ho : op.op = .load ty x)
    (b off : Nat) (hx : a.eval x = .pointer (some ⟨b, off, none⟩)) (l : List Value) (d : TypeDesc) (hu : P.underlying ty = some d) (hd : (match d with | .struct _ | .array _ _ => true | _ => false) = true)
    (hi : (P.info? ty).map (·.size) = some l.length) (h : ∀ j v, l[j]? = some v → w.cell? ⟨b, off + j, none⟩ = some v)
    (hk : K (a.put op.dst (.agg l.toArray)) w) : if Region.wanted op (yielded ops a.tmps) = true then op.wp P a w K Q else E := by
  rw [if_pos (by simp [Region.wanted, hgd])]
  unfold Oper.wp execOp
  simp only [ho, hx, Instr.loadAt, Instr.sureAddr, Sem.run_bind, Sem.run_pure, Result.andThen_ok, run_loadVar_list w ty b off l d hu hd hi h]
  exact hk
/-- The whole of a block is stored, as one step of a region that draws. -/
theorem step_storeAll {P : Program} {ops : Array Oper} {op : Oper} {a : Act} {w : World} {K : Act → World → Prop} {Q : Exit → Act → World → Prop} {E : Prop} (hgd : op.guard = none) (ty : TypeId) (x y : Operand) (ho : op.op = .store ty x y)
    (g : Nat) (hx : a.eval x = .pointer (some ⟨g, 0, none⟩)) (vs : List Value) (hy : a.eval y = .agg vs.toArray) (t : TypeId) (cs : List Value) (hb : Blk w g t cs) (hi : (P.info? ty).map (·.size) = some vs.length)
    (hfit : cs.length = vs.length) (h1 : ∀ v ∈ vs, v.oneCell' = true) (h : K (a.put op.dst undef) (w.setRow g vs.toArray)) : if Region.wanted op (yielded ops a.tmps) = true then op.wp P a w K Q else E := by
  rw [if_pos (by simp [Region.wanted, hgd])]
  have hs := run_storeVar_part (P := P) w ty g 0 t cs vs hb hi (by omega) h1
  rw [splice_all hfit] at hs
  unfold Oper.wp execOp
  simp only [ho, hx, hy, Instr.storeAt, Instr.sureAddr, Sem.run_bind, Sem.run_pure, Result.andThen_ok, hs]
  exact h
end Go.Proofs.YtpbfeobifpmjbaaDoor
