/- The contracts of package tape's New and Copy, and of Next where there is no tape or no such length. -/
import Derived.Test.YtpbfeobifpmjbaaDoorNput
import Derived.Test.YtpbfeobifpmjbaaDoorGphase
namespace Go.Proofs.YtpbfeobifpmjbaaDoor
set_option linter.unusedVariables false
set_option linter.unusedSimpArgs false
set_option maxRecDepth 100000
open Go.RowKit

/-- At g lies a tape of seed s that stands at byte a. -/
structure TapeAt (w : World) (g : Nat) (s : Int) (a : Nat) : Prop where
  blk : Blk w g 56 [.int .i64 s, .int .i64 (a : Int)]
  lo : -9223372036854775808 ≤ s
  hi : s ≤ 9223372036854775807
/-- Its memory is that block. -/
def TapeMem (_ : World) (g b : Nat) : Prop := b = g

theorem tnew_any (s : Int) (w : World) (h1 : -9223372036854775808 ≤ s) (h2 : s ≤ 9223372036854775807) : Calls Tryd.prog 10 #[.int .i64 s] w fun e w' => ∃ g, e = .returned (.pointer (some ⟨g, 0, none⟩)) ∧ w.heap.size ≤ g ∧ TapeAt w' g s 0 ∧ Below w.heap.size w w' := by
  go_enter Tryd.func10, Tryd.ntmps10
  go_wp2_with fail
  go_ret
  exact ⟨_, rfl, Nat.le_refl _, ⟨Blk.at_new _ _ _ _ _ rfl rfl, h1, h2⟩, (Below.refl _ _).alloc (Nat.le_refl _) _⟩

theorem tcopy_any {w : World} {g : Nat} {s : Int} {a : Nat} (hT : TapeAt w g s a) : Calls Tryd.prog 52 #[.pointer (some ⟨g, 0, none⟩)] w fun e w' => ∃ h, e = .returned (.pointer (some ⟨h, 0, none⟩)) ∧ w.heap.size ≤ h ∧ TapeAt w' h s a ∧ Below w.heap.size w w' := by
  obtain ⟨D, hD⟩ : ∃ D : List Value, D = [.int .i64 s, .int .i64 (a : Int)] := ⟨_, rfl⟩
  have HB : Hid (Blk w g 56 D) := by unfold Hid; rw [hD]; exact hT.blk
  have HI : Hid ((Tryd.prog.info? 56).map (·.size) = some D.length) := by unfold Hid; rw [hD]; kernel_rfl
  have HZ : Hid (([.int .i64 0, .int .i64 0] : List Value).length = D.length) := by unfold Hid; rw [hD]; rfl
  have H1 : Hid (∀ v ∈ D, v.oneCell' = true) := by unfold Hid; rw [hD]; simp [Value.oneCell']
  have HD := Lib.hid hD
  have HT := Lib.hid hT
  clear hD hT
  go_enter Tryd.func52, Tryd.ntmps52
  go_wp2_with (first
    | (with_reducible refine load_law rfl 56 (.tmp 7) rfl g 0 rfl D _ Tryd.underlying56 rfl HI.out HB.out.cells ?_)
    | ((with_reducible refine storeGen_law rfl 56 (.tmp 3) (.tmp 8) rfl w.heap.size rfl D rfl 56 [.int .i64 0, .int .i64 0] HI.out HZ.out H1.out w.heap.size w ?_ ?_ (Nat.le_refl _) ?_)
       · exact Blk.at_new _ _ 56 _ _ (by rfl) rfl
       · exact (Below.refl _ _).alloc (Nat.le_refl _) _
       intro w1 B1 X1))
  go_ret
  refine ⟨_, rfl, Nat.le_refl _, ⟨?_, HT.out.lo, HT.out.hi⟩, X1.out⟩
  rw [← HD.out]
  exact B1.out

theorem tnilCopy (w : World) : Calls Tryd.prog 52 #[.pointer none] w fun e w' => e = .returned (.pointer none) ∧ Below w.heap.size w w' := by
  go_enter Tryd.func52, Tryd.ntmps52
  go_wp2_with fail
  go_ret
  exact ⟨rfl, Below.refl _ _⟩
theorem tnilNext (n : Int) (w : World) : Calls Tryd.prog 38 #[.pointer none, .int .i64 n] w fun e w' => e = .returned (.slice none 0 0) ∧ Below w.heap.size w w' := by
  go_enter Tryd.func38, Tryd.ntmps38
  go_wp2_with fail
  go_ret
  exact ⟨rfl, Below.refl _ _⟩
theorem tnone_any {w : World} {g : Nat} (n : Int) (hn : n < 0 ∨ 4000 < n) : Calls Tryd.prog 38 #[.pointer (some ⟨g, 0, none⟩), .int .i64 n] w fun e w' => e = .returned (.slice none 0 0) ∧ Below w.heap.size w w' := by
  rcases hn with hn | hn
  · go_enter Tryd.func38, Tryd.ntmps38
    go_wp2_with fail
    go_ret
    exact ⟨rfl, Below.refl _ _⟩
  · have hn0 : ¬ n < 0 := by omega
    go_enter Tryd.func38, Tryd.ntmps38
    go_wp2_with fail
    go_ret
    exact ⟨rfl, Below.refl _ _⟩
end Go.Proofs.YtpbfeobifpmjbaaDoor
