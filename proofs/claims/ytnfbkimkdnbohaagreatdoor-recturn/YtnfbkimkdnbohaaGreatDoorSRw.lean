import Derived.Test.YtnfbkimkdnbohaaGreatDoorSBegun9
import Derived.Test.YtnfbkimkdnbohaaGreatDoorSDocs
import Derived.Test.YtnfbkimkdnbohaaGreatDoorSRin
namespace Go.Proofs.YtnfbkimkdnbohaaGreatDoor
set_option linter.unusedVariables false
set_option linter.unusedSimpArgs false
set_option maxRecDepth 100000
open Go.RowKit
theorem rec_parts (v v' : Int) (g g' : Bool) (l l' : List UInt8) (W : World) : (Op.equalIn 10000 23 (.agg #[.int .i64 v, .bool g, .string ⟨l.toArray⟩]) (.agg #[.int .i64 v', .bool g', .string ⟨l'.toArray⟩])).run Tryz.prog W = .ok (decide (v = v') && (decide (g = g') && decide (l = l'))) W := by
  by_cases h : v = v'
  · subst h
    by_cases h1 : g = g'
    · subst h1
      by_cases h2 : l = l'
      · subst h2
        rw [decide_eq_true rfl, decide_eq_true rfl, decide_eq_true rfl]
        go_simp
      · have h3 := str_ne h2
        rw [decide_eq_true rfl, decide_eq_true rfl, decide_eq_false h2]
        go_simp
    · rw [decide_eq_true rfl, decide_eq_false h1]
      cases g <;> cases g' <;> first | exact absurd rfl h1 | (go_simp)
  · rw [decide_eq_false h]
    go_simp
theorem rec_eql (x y : Rc.R) (W : World) : ∃ t : Bool, (Op.equalIn 10000 23 (.agg (recL x).toArray) (.agg (recL y).toArray)).run Tryz.prog W = .ok t W ∧ (t = true ↔ x = y) := by
  obtain ⟨v, g, l⟩ := x
  obtain ⟨v', g', l'⟩ := y
  refine ⟨_, rec_parts v v' g g' l l' W, ?_⟩
  simp
theorem rec_same (x : Rc.R) (W : World) : (Op.equalIn 10000 23 (.agg (recL x).toArray) (.agg (recL x).toArray)).run Tryz.prog W = .ok true W := by
  obtain ⟨t, h1, h2⟩ := rec_eql x x W
  rw [h1, h2.2 rfl]
set_option maxRecDepth 100000 in
set_option maxHeartbeats 4000000 in
theorem rgets_any {w : World} {A : Option Addr} {n c : Nat} {b : List UInt8} (hg : Gl w) (hr : Rd w A n c b) (hn : n ≤ 1000000) : Calls Tryz.prog 13 #[.slice A n c] w fun e w' => e = .returned (.bool true) ∧ Below w.heap.size w w' := by
  have HG := Lib.hid hg
  have hsz := hg.size
  have HR := Lib.hid hr
  obtain ⟨L, hL⟩ : ∃ l, l = recL (Rc.got b) := ⟨_, rfl⟩
  obtain ⟨er, her⟩ : ∃ er : Int, er = if Rc.gets b then 0 else 1 := ⟨_, rfl⟩
  have C1 : Hid (∀ W : World, Gl W → Rd W A n c b → Calls Tryz.prog 14 #[.slice A n c] W fun e w' => e = .returned (.tuple #[.agg L.toArray, .int .i64 er]) ∧ Below W.heap.size W w') := fun W h1 h2 => by rw [hL, her]; exact rget_any h1 h2 hn
  have C2 : Hid (∀ W : World, Rd W A n c b → Calls Tryz.prog 32 #[.slice A n c] W fun e w' => e = .returned (.tuple #[.agg L.toArray, .int .i64 er]) ∧ Below W.heap.size W w') := fun W h2 => by rw [hL, her]; exact rrget_any h2
  obtain ⟨Z0, hZ0⟩ : ∃ l, l = recL ⟨0, false, []⟩ := ⟨_, rfl⟩
  have HZ0 : Hid (Z0 = [.int .i64 0, .bool false, .string ⟨#[]⟩]) := hZ0
  have IL : Hid ((Tryz.prog.info? 23).map (·.size) = some L.length) := by unfold Hid; rw [hL]; kernel_rfl
  have LL : Hid (Z0.length = L.length) := by unfold Hid; rw [hL, hZ0]; rfl
  have OL : Hid (∀ v ∈ L, v.oneCell' = true) := by unfold Hid; rw [hL]; simp [recL, Value.oneCell']
  have EQ : Hid (∀ W, (Op.equalIn 10000 23 (.agg L.toArray) (.agg L.toArray)).run Tryz.prog W = .ok true W) := by unfold Hid; rw [hL]; exact rec_same _
  clear hg hr hL her hZ0
  go_enter Tryz.func13, Tryz.ntmps13
  go_wp2_with fail
  refine (C1.out w HG.out HR.out).mono ?_
  rintro e w1 ⟨rfl, hX⟩
  have W1 := Lib.hid hX
  replace HR := Lib.hid (HR.out.below hX)
  clear hX C1
  go_upto_region 2 with (first
    | ((with_reducible refine storeGen_law rfl 23 (.tmp 3) (.tmp 10) rfl w1.heap.size rfl L rfl 23 Z0 IL.out LL.out OL.out w1.heap.size w1 ?_ ?_ (Nat.le_refl _) ?_)
       · rw [HZ0.out]; exact Blk.at_new _ _ 23 _ _ (by rfl) rfl
       · exact (Below.refl _ _).alloc (Nat.le_refl _) _
       intro w2 B2 X2))
  have W2 := Lib.hid (W1.out.trans (X2.out.mono W1.out.size))
  replace HR := Lib.hid (HR.out.below X2.out)
  clear X2
  go_wp2_with fail
  refine (C2.out w2 HR.out).mono ?_
  rintro e w3 ⟨rfl, hX⟩
  have W3 := Lib.hid (W2.out.trans (hX.mono W2.out.size))
  have B3 := Lib.hid (B2.out.below hX B2.out.lt)
  clear hX C2 HR B2
  go_upto_region 3 with (first
    | ((with_reducible refine storeGen_law rfl 23 (.tmp 5) (.tmp 15) rfl w3.heap.size rfl L rfl 23 Z0 IL.out LL.out OL.out w3.heap.size w3 ?_ ?_ (Nat.le_refl _) ?_)
       · rw [HZ0.out]; exact Blk.at_new _ _ 23 _ _ (by rfl) rfl
       · exact (Below.refl _ _).alloc (Nat.le_refl _) _
       intro w4 B4 X4))
  have W4 := Lib.hid (W3.out.trans (X4.out.mono W3.out.size))
  have B5 := Lib.hid (B3.out.below X4.out B3.out.lt)
  have heq := EQ.out
  clear X4 B3
  go_wp2_with (first
    | ((with_reducible refine loadW_law ?gd 23 (.tmp 3) rfl w1.heap.size 0 ?hx L _ Tryz.underlying23 rfl IL.out B5.out.cells ?_); (case gd => rfl); (case hx => rfl))
    | ((with_reducible refine loadW_law ?gd 23 (.tmp 5) rfl w3.heap.size 0 ?hx L _ Tryz.underlying23 rfl IL.out B4.out.cells ?_); (case gd => rfl); (case hx => rfl)))
  go_ret
  exact ⟨rfl, W4.out⟩
end Go.Proofs.YtnfbkimkdnbohaaGreatDoor
