import Derived.Test.YtajgjeialbgijaaDoorSVbg
namespace Go.Proofs.YtajgjeialbgijaaDoor.versLimits
set_option linter.unusedVariables false
set_option linter.unusedSimpArgs false
set_option maxRecDepth 100000
open Go.RowKit Vs
theorem turn5 (t : Int) : (t.tmod 5 + 5).tmod 5 = 0 ∨ (t.tmod 5 + 5).tmod 5 = 1 ∨ (t.tmod 5 + 5).tmod 5 = 2 ∨ (t.tmod 5 + 5).tmod 5 = 3 ∨ (t.tmod 5 + 5).tmod 5 = 4 := by
  have h0 : -5 < t.tmod 5 := by
    rcases Int.le_total 0 t with h | h
    · have := Int.tmod_nonneg 5 h; omega
    · have h3 := Int.tmod_lt_of_pos (-t) (show (0 : Int) < 5 by decide)
      rw [Int.neg_tmod] at h3
      omega
  have := Int.tmod_lt_of_pos (t.tmod 5 + 5) (show (0 : Int) < 5 by decide)
  have := Int.tmod_nonneg 5 (show 0 ≤ t.tmod 5 + 5 by omega)
  omega
def v1 : V := ⟨1, 1, 1, no32, no32, 0, [0, 0, 0, 0], no32⟩
theorem v1_ok : Ok v1 := ⟨rfl, rfl, rfl, rfl, by decide, by decide, by decide, by decide, by decide⟩
theorem v1_built : Tryd.prog.built 30 [(0, .int .i64 1), (1, .int .i64 1), (2, .int .i64 1)] = some v1.cells.toArray := by kernel_rfl
set_option maxRecDepth 100000 in
set_option maxHeartbeats 4000000 in
theorem walk {P : BxP} (hB : BoxOk P) (which x : Int) (w : World) (hg : Gl w) (hw : In which) (hx : In x) : Calls Tryd.prog 5 #[.int .i64 which, .int .i64 x] w fun e w' => e = .returned (.bool true) ∧ Below w.heap.size w w' := by
  have HG := Lib.hid hg
  have HX := Lib.hid hx
  have hsz := hg.size
  have CG : Hid (∀ W, Gl W → Calls Tryd.prog 7 #[] W fun e w' => e = .returned (.bool true) ∧ Below W.heap.size W w') := fun W hW => begun14_any hB hW
  have ZB := Lib.hid zero_blk
  have BV := Lib.hid v1_built
  have IV := Lib.hid (vinfo v1_ok)
  have OV := Lib.hid (cells_one v1)
  have ZV : Hid (zero.cells.length = v1.cells.length) := by unfold Hid; rw [cells_length zero_ok, cells_length v1_ok]
  have A0 : Hid (v1.cells[0]? = some (.int .i64 1)) := rfl
  have A1 : Hid (v1.cells[1]? = some (.int .i64 1)) := rfl
  have A2 : Hid (v1.cells[2]? = some (.int .i64 1)) := rfl
  have A67 : Hid (v1.cells[67]? = some (.int .i64 0)) := at_ep v1_ok
  have A71 : Hid (v1.cells[71]? = some (.int .i64 0)) := lay_vec v1_ok 3 _ rfl
  have hmw : IntKind.i64.wrap (which.tmod 5 + 5) = which.tmod 5 + 5 := by
    have h1 := Int.tmod_lt_of_pos which (show (0 : Int) < 5 by decide)
    have h2 : -5 < which.tmod 5 := by
      rcases Int.le_total 0 which with h | h
      · have := Int.tmod_nonneg 5 h; omega
      · have h3 := Int.tmod_lt_of_pos (-which) (show (0 : Int) < 5 by decide)
        rw [Int.neg_tmod] at h3
        omega
    rw [IntKind.wrap_i64]
    omega
  obtain ⟨VC, hVC⟩ : ∃ X, X = v1.cells := ⟨_, rfl⟩
  rw [← hVC] at BV IV OV ZV A0 A1 A2 A67 A71
  have HVC := Lib.hid hVC
  have W := Lib.hid (Below.refl w.heap.size w)
  clear hg hVC hw hx
  go_enter Tryd.func5, Tryd.ntmps5
  go_upto_region 5 with (first
    | (go_at_call 7; (with_reducible refine (CG.out _ (HG.out.below W.out hsz)).mono ?_); rintro e w2 ⟨rfl, hX⟩; replace W := Lib.hid (W.out.trans (hX.mono W.out.size)); clear hX; have W2s : Hid (w.heap.size ≤ w2.heap.size) := W.out.size)
    | (refine build_law rfl 30 #[(0, .const (.int .i64 1)), (1, .const (.int .i64 1)), (2, .const (.int .i64 1))] rfl VC (by simp only [List.map_toArray, List.map_cons, List.map_nil]; with_unfolding_all exact BV.out) ?_)
    | ((with_reducible refine storeGen_law rfl 30 (.tmp 6) (.tmp 10) rfl w2.heap.size rfl VC rfl 30 zero.cells IV.out ZV.out OV.out w2.heap.size w2 ?_ ?_ (Nat.le_refl _) ?_); (exact ZB.out w2); (exact alloc_below w2 _); intro w3 BQ hX'; have hX := hX'.out; clear hX'; replace W := Lib.hid (W.out.trans (hX.mono W.out.size)); clear hX))
  obtain ⟨q, hq⟩ : ∃ q, q = w2.heap.size := ⟨_, rfl⟩
  rw [← hq] at BQ W2s ⊢
  have hwq := W2s.out
  try simp only [Act.put]
  clear hq W2s
  rcases turn5 which with e | e | e | e | e
  · have hok : Ok ({ v1 with client := x } : V) := ⟨v1_ok.prev, v1_ok.root, v1_ok.vec, v1_ok.tag, HX.out, v1_ok.n, v1_ok.count, v1_ok.ep, v1_ok.each⟩
    have SE : Hid (VC.set 0 (.int .i64 x) = ({ v1 with client := x } : V).cells) := by unfold Hid; rw [HVC.out]; exact rfl
    have CM : Hid (∀ W, Calls Tryd.prog 10 #[.agg ({ v1 with client := x } : V).cells.toArray] W fun e w' => e = .returned (.bool (may { v1 with client := x })) ∧ Below W.heap.size W w') := fun W => vmay_any hok W
    have IN := Lib.hid (vinfo hok)
    have hmay : may { v1 with client := x } = (decide ((1 : Int) ≤ x) && decide (x ≤ (4 : Int))) := by
      rw [Bool.eq_iff_iff]
      simp [may, v1, lim, isC]
    rw [hmay] at CM
    obtain ⟨NC, hNC⟩ : ∃ X, X = ({ v1 with client := x } : V).cells := ⟨_, rfl⟩
    rw [← hNC] at SE CM IN
    clear hok hNC hmay
    have c0 : w3.cell? ⟨q, 0, none⟩ = some (.int .i64 1) := (BQ.out.cell 0).trans A0.out
    have f0 : w3.frozen? ⟨q, 0, none⟩ = false := BQ.out.frozen _
    go_upto_region 10 with (fail)
    try simp only [Act.put]
    have B5 : Hid (Blk (w3.setCell ⟨q, 0, none⟩ (.int .i64 x)) q 30 NC) := by have := BQ.out.set_ 0 (.int .i64 x); rw [SE.out] at this; exact this
    have W5 : Hid (Below w.heap.size w (w3.setCell ⟨q, 0, none⟩ (.int .i64 x))) := W.out.setCell (by show w.heap.size ≤ q; omega) _
    generalize w3.setCell ⟨q, 0, none⟩ (.int .i64 x) = w5 at *
    clear c0 f0 BQ W SE
    obtain ⟨p1, hp1⟩ : ∃ b, decide ((1 : Int) ≤ x) = b := ⟨_, rfl⟩
    obtain ⟨p2, hp2⟩ : ∃ b, decide (x ≤ (4 : Int)) = b := ⟨_, rfl⟩
    rw [hp1, hp2] at CM
    cases p1 <;> cases p2
    all_goals
      go_wp2_with (first
        | (with_reducible refine load_law rfl 30 (.tmp 6) rfl q 0 rfl NC _ Tryd.underlying30 rfl IN.out B5.out.cells ?_)
        | (go_at_call 10; (with_reducible refine (CM.out _).mono ?_); rintro e w6 ⟨rfl, hX⟩; have W6 := Lib.hid (W5.out.trans (hX.mono W5.out.size)); clear hX))
      go_ret
      exact ⟨rfl, W6.out⟩
  · have hok : Ok ({ v1 with n := x } : V) := ⟨v1_ok.prev, v1_ok.root, v1_ok.vec, v1_ok.tag, v1_ok.client, HX.out, v1_ok.count, v1_ok.ep, v1_ok.each⟩
    have SE : Hid (VC.set 1 (.int .i64 x) = ({ v1 with n := x } : V).cells) := by unfold Hid; rw [HVC.out]; exact rfl
    have CM : Hid (∀ W, Calls Tryd.prog 10 #[.agg ({ v1 with n := x } : V).cells.toArray] W fun e w' => e = .returned (.bool (may { v1 with n := x })) ∧ Below W.heap.size W w') := fun W => vmay_any hok W
    have IN := Lib.hid (vinfo hok)
    have hmay : may { v1 with n := x } = (decide ((1 : Int) ≤ x) && decide (x ≤ (150 : Int))) := by
      rw [Bool.eq_iff_iff]
      simp [may, v1, lim, isC]
    rw [hmay] at CM
    obtain ⟨NC, hNC⟩ : ∃ X, X = ({ v1 with n := x } : V).cells := ⟨_, rfl⟩
    rw [← hNC] at SE CM IN
    clear hok hNC hmay
    have c0 : w3.cell? ⟨q, 1, none⟩ = some (.int .i64 1) := (BQ.out.cell 1).trans A1.out
    have f0 : w3.frozen? ⟨q, 1, none⟩ = false := BQ.out.frozen _
    go_upto_region 18 with (fail)
    try simp only [Act.put]
    have B5 : Hid (Blk (w3.setCell ⟨q, 1, none⟩ (.int .i64 x)) q 30 NC) := by have := BQ.out.set_ 1 (.int .i64 x); rw [SE.out] at this; exact this
    have W5 : Hid (Below w.heap.size w (w3.setCell ⟨q, 1, none⟩ (.int .i64 x))) := W.out.setCell (by show w.heap.size ≤ q; omega) _
    generalize w3.setCell ⟨q, 1, none⟩ (.int .i64 x) = w5 at *
    clear c0 f0 BQ W SE
    obtain ⟨p1, hp1⟩ : ∃ b, decide ((1 : Int) ≤ x) = b := ⟨_, rfl⟩
    obtain ⟨p2, hp2⟩ : ∃ b, decide (x ≤ (150 : Int)) = b := ⟨_, rfl⟩
    rw [hp1, hp2] at CM
    cases p1 <;> cases p2
    all_goals
      go_wp2_with (first
        | (with_reducible refine load_law rfl 30 (.tmp 6) rfl q 0 rfl NC _ Tryd.underlying30 rfl IN.out B5.out.cells ?_)
        | (go_at_call 10; (with_reducible refine (CM.out _).mono ?_); rintro e w6 ⟨rfl, hX⟩; have W6 := Lib.hid (W5.out.trans (hX.mono W5.out.size)); clear hX))
      go_ret
      exact ⟨rfl, W6.out⟩
  · have hok : Ok ({ v1 with count := x } : V) := ⟨v1_ok.prev, v1_ok.root, v1_ok.vec, v1_ok.tag, v1_ok.client, v1_ok.n, HX.out, v1_ok.ep, v1_ok.each⟩
    have SE : Hid (VC.set 2 (.int .i64 x) = ({ v1 with count := x } : V).cells) := by unfold Hid; rw [HVC.out]; exact rfl
    have CM : Hid (∀ W, Calls Tryd.prog 10 #[.agg ({ v1 with count := x } : V).cells.toArray] W fun e w' => e = .returned (.bool (may { v1 with count := x })) ∧ Below W.heap.size W w') := fun W => vmay_any hok W
    have IN := Lib.hid (vinfo hok)
    have hmay : may { v1 with count := x } = (decide ((1 : Int) ≤ x) && decide (x ≤ (150 : Int))) := by
      rw [Bool.eq_iff_iff]
      simp [may, v1, lim, isC]
    rw [hmay] at CM
    obtain ⟨NC, hNC⟩ : ∃ X, X = ({ v1 with count := x } : V).cells := ⟨_, rfl⟩
    rw [← hNC] at SE CM IN
    clear hok hNC hmay
    have c0 : w3.cell? ⟨q, 2, none⟩ = some (.int .i64 1) := (BQ.out.cell 2).trans A2.out
    have f0 : w3.frozen? ⟨q, 2, none⟩ = false := BQ.out.frozen _
    go_upto_region 18 with (fail)
    try simp only [Act.put]
    have B5 : Hid (Blk (w3.setCell ⟨q, 2, none⟩ (.int .i64 x)) q 30 NC) := by have := BQ.out.set_ 2 (.int .i64 x); rw [SE.out] at this; exact this
    have W5 : Hid (Below w.heap.size w (w3.setCell ⟨q, 2, none⟩ (.int .i64 x))) := W.out.setCell (by show w.heap.size ≤ q; omega) _
    generalize w3.setCell ⟨q, 2, none⟩ (.int .i64 x) = w5 at *
    clear c0 f0 BQ W SE
    obtain ⟨p1, hp1⟩ : ∃ b, decide ((1 : Int) ≤ x) = b := ⟨_, rfl⟩
    obtain ⟨p2, hp2⟩ : ∃ b, decide (x ≤ (150 : Int)) = b := ⟨_, rfl⟩
    rw [hp1, hp2] at CM
    cases p1 <;> cases p2
    all_goals
      go_wp2_with (first
        | (with_reducible refine load_law rfl 30 (.tmp 6) rfl q 0 rfl NC _ Tryd.underlying30 rfl IN.out B5.out.cells ?_)
        | (go_at_call 10; (with_reducible refine (CM.out _).mono ?_); rintro e w6 ⟨rfl, hX⟩; have W6 := Lib.hid (W5.out.trans (hX.mono W5.out.size)); clear hX))
      go_ret
      exact ⟨rfl, W6.out⟩
  · have hok : Ok ({ v1 with ep := x } : V) := ⟨v1_ok.prev, v1_ok.root, v1_ok.vec, v1_ok.tag, v1_ok.client, v1_ok.n, v1_ok.count, HX.out, v1_ok.each⟩
    have SE : Hid (VC.set 67 (.int .i64 x) = ({ v1 with ep := x } : V).cells) := by unfold Hid; rw [HVC.out]; exact set_ep v1_ok x
    have CM : Hid (∀ W, Calls Tryd.prog 10 #[.agg ({ v1 with ep := x } : V).cells.toArray] W fun e w' => e = .returned (.bool (may { v1 with ep := x })) ∧ Below W.heap.size W w') := fun W => vmay_any hok W
    have IN := Lib.hid (vinfo hok)
    have hmay : may { v1 with ep := x } = (decide ((0 : Int) ≤ x) && decide (x ≤ (150 : Int))) := by
      rw [Bool.eq_iff_iff]
      simp [may, v1, lim, isC]
    rw [hmay] at CM
    obtain ⟨NC, hNC⟩ : ∃ X, X = ({ v1 with ep := x } : V).cells := ⟨_, rfl⟩
    rw [← hNC] at SE CM IN
    clear hok hNC hmay
    have c0 : w3.cell? ⟨q, 67, none⟩ = some (.int .i64 0) := (BQ.out.cell 67).trans A67.out
    have f0 : w3.frozen? ⟨q, 67, none⟩ = false := BQ.out.frozen _
    go_upto_region 17 with (fail)
    try simp only [Act.put]
    have B5 : Hid (Blk (w3.setCell ⟨q, 67, none⟩ (.int .i64 x)) q 30 NC) := by have := BQ.out.set_ 67 (.int .i64 x); rw [SE.out] at this; exact this
    have W5 : Hid (Below w.heap.size w (w3.setCell ⟨q, 67, none⟩ (.int .i64 x))) := W.out.setCell (by show w.heap.size ≤ q; omega) _
    generalize w3.setCell ⟨q, 67, none⟩ (.int .i64 x) = w5 at *
    clear c0 f0 BQ W SE
    obtain ⟨p1, hp1⟩ : ∃ b, decide ((0 : Int) ≤ x) = b := ⟨_, rfl⟩
    obtain ⟨p2, hp2⟩ : ∃ b, decide (x ≤ (150 : Int)) = b := ⟨_, rfl⟩
    rw [hp1, hp2] at CM
    cases p1 <;> cases p2
    all_goals
      go_wp2_with (first
        | (with_reducible refine load_law rfl 30 (.tmp 6) rfl q 0 rfl NC _ Tryd.underlying30 rfl IN.out B5.out.cells ?_)
        | (go_at_call 10; (with_reducible refine (CM.out _).mono ?_); rintro e w6 ⟨rfl, hX⟩; have W6 := Lib.hid (W5.out.trans (hX.mono W5.out.size)); clear hX))
      go_ret
      exact ⟨rfl, W6.out⟩
  · have hok : Ok ({ v1 with vec := [0, 0, 0, x] } : V) := ⟨v1_ok.prev, v1_ok.root, rfl, v1_ok.tag, v1_ok.client, v1_ok.n, v1_ok.count, v1_ok.ep, by intro z hz; simp at hz; rcases hz with rfl | rfl; exact ⟨by decide, by decide⟩; exact HX.out⟩
    have SE : Hid (VC.set 71 (.int .i64 x) = ({ v1 with vec := [0, 0, 0, x] } : V).cells) := by unfold Hid; rw [HVC.out]; exact set_vec v1_ok 3 x (by omega)
    have CM : Hid (∀ W, Calls Tryd.prog 10 #[.agg ({ v1 with vec := [0, 0, 0, x] } : V).cells.toArray] W fun e w' => e = .returned (.bool (may { v1 with vec := [0, 0, 0, x] })) ∧ Below W.heap.size W w') := fun W => vmay_any hok W
    have IN := Lib.hid (vinfo hok)
    have hmay : may { v1 with vec := [0, 0, 0, x] } = (decide ((0 : Int) ≤ x) && decide (x ≤ (150 : Int))) := by
      rw [Bool.eq_iff_iff]
      simp [may, v1, lim, isC]
    rw [hmay] at CM
    obtain ⟨NC, hNC⟩ : ∃ X, X = ({ v1 with vec := [0, 0, 0, x] } : V).cells := ⟨_, rfl⟩
    rw [← hNC] at SE CM IN
    clear hok hNC hmay
    have c0 : w3.cell? ⟨q, 71, none⟩ = some (.int .i64 0) := (BQ.out.cell 71).trans A71.out
    have f0 : w3.frozen? ⟨q, 71, none⟩ = false := BQ.out.frozen _
    go_upto_region 7 with (fail)
    try simp only [Act.put]
    have B5 : Hid (Blk (w3.setCell ⟨q, 71, none⟩ (.int .i64 x)) q 30 NC) := by have := BQ.out.set_ 71 (.int .i64 x); rw [SE.out] at this; exact this
    have W5 : Hid (Below w.heap.size w (w3.setCell ⟨q, 71, none⟩ (.int .i64 x))) := W.out.setCell (by show w.heap.size ≤ q; omega) _
    generalize w3.setCell ⟨q, 71, none⟩ (.int .i64 x) = w5 at *
    clear c0 f0 BQ W SE
    obtain ⟨p1, hp1⟩ : ∃ b, decide ((0 : Int) ≤ x) = b := ⟨_, rfl⟩
    obtain ⟨p2, hp2⟩ : ∃ b, decide (x ≤ (150 : Int)) = b := ⟨_, rfl⟩
    rw [hp1, hp2] at CM
    cases p1 <;> cases p2
    all_goals
      go_wp2_with (first
        | (with_reducible refine load_law rfl 30 (.tmp 6) rfl q 0 rfl NC _ Tryd.underlying30 rfl IN.out B5.out.cells ?_)
        | (go_at_call 10; (with_reducible refine (CM.out _).mono ?_); rintro e w6 ⟨rfl, hX⟩; have W6 := Lib.hid (W5.out.trans (hX.mono W5.out.size)); clear hX))
      go_ret
      exact ⟨rfl, W6.out⟩
end Go.Proofs.YtajgjeialbgijaaDoor.versLimits
