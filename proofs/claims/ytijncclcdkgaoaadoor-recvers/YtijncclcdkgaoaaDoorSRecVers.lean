import Derived.Test.YtijncclcdkgaoaaDoorSBegun9
import Derived.Test.YtijncclcdkgaoaaDoorSPadAlike
namespace Go.Proofs.YtijncclcdkgaoaaDoor
set_option linter.unusedVariables false
set_option linter.unusedSimpArgs false
set_option maxRecDepth 100000
open Go.RowKit
theorem rput_all {w : World} (r : Rc.R) (hg : Gl w) : Calls Tryd.prog 27 #[recV r] w fun e w' => ∃ A n c, e = .returned (.tuple #[.slice A n c, .int .i64 (if Rc.may r then 0 else 1)]) ∧ Rd w' A n c (if Rc.may r then Rc.put r else []) ∧ Below w.heap.size w w' ∧ ∀ x, A = some x → 0 < n → w.heap.size ≤ x.block := by
  by_cases h : Rc.may r = true
  · rw [if_pos h, if_pos h]
    exact rput_may r hg h
  · rw [if_neg h, if_neg h]
    exact rput_no r w (by simpa using h)
end Go.Proofs.YtijncclcdkgaoaaDoor
namespace Go.Proofs.YtijncclcdkgaoaaDoor.recVers
set_option linter.unusedVariables false
set_option linter.unusedSimpArgs false
set_option maxRecDepth 100000
open Go.RowKit
set_option maxRecDepth 100000 in
set_option maxHeartbeats 4000000 in
theorem walk {P : BxP} (hB : BoxOk P) (v : Int) (g : Bool) (k : Int) (w : World) (hg : Gl w) : Calls Tryd.prog 10 #[.int .i64 v, .bool g, .int .i64 k] w fun e w' => e = .returned (.bool true) ∧ Below w.heap.size w w' := by
  have HG := Lib.hid hg
  have HB := Lib.hid hB
  have hsz := hg.size
  clear hg hB
  go_enter Tryd.func10, Tryd.ntmps10
  go_wp2_with fail
  refine (begun9_any HB.out HG.out).mono ?_
  rintro e w1 ⟨rfl, hX⟩
  have W1 := Lib.hid hX
  clear hX
  by_cases h1 : k < 0
  · go_wp2_with fail
    go_ret
    exact ⟨rfl, W1.out⟩
  · by_cases h2 : 1005 < k
    · go_wp2_with fail
      go_ret
      exact ⟨rfl, W1.out⟩
    · obtain ⟨n, rfl⟩ := Int.eq_ofNat_of_zero_le (show 0 ≤ k by omega)
      have hn1 : n ≤ 1005 := by omega
      have hmk := fun W => make_bytes n (by omega) W
      obtain ⟨O1, hO1⟩ : ∃ O, O = outC [] n := ⟨_, rfl⟩
      rw [← hO1] at hmk
      obtain ⟨l, hl⟩ : ∃ l : List UInt8, l = List.replicate n 0 := ⟨_, rfl⟩
      have hcv : (convert 22 9 (.slice (some ⟨w1.heap.size, 0, none⟩) n n)).run Tryd.prog (w1.alloc (.cells O1.toArray 5)) = .ok (.string ⟨l.toArray⟩) (w1.alloc (.cells O1.toArray 5)) := by
        rw [hl]
        refine conv_bytes ?_
        rw [hO1]
        exact noughts_rd w1 n (by omega)
      have hll : l.length = n := by rw [hl]; simp
      have IL : Hid ((Tryd.prog.info? 42).map (·.size) = some ([.int .i64 v, .bool g, .string ⟨l.toArray⟩] : List Value).length) := by unfold Hid; kernel_rfl
      obtain ⟨good, hgood⟩ : ∃ b, b = Rc.may ⟨v, g, l⟩ := ⟨_, rfl⟩
      have HGD := Lib.hid hgood
      have CM : Hid (∀ W : World, Calls Tryd.prog 28 #[.agg #[.int .i64 v, .bool g, .string ⟨l.toArray⟩]] W fun e w' => e = .returned (.bool good) ∧ Below W.heap.size W w') := fun W => by rw [hgood]; exact rmay_any ⟨v, g, l⟩ W
      have CP : Hid (∀ W : World, Gl W → Calls Tryd.prog 27 #[.agg #[.int .i64 v, .bool g, .string ⟨l.toArray⟩]] W fun e w' => ∃ A m c, e = .returned (.tuple #[.slice A m c, .int .i64 (if good then 0 else 1)]) ∧ Hid (0 < m ↔ good = true) ∧ Below W.heap.size W w') := fun W h => by
        rw [hgood]
        refine (rput_all ⟨v, g, l⟩ h).mono ?_
        rintro e w' ⟨A, m, c, rfl, hR, hX, _⟩
        refine ⟨A, m, c, rfl, ?_, hX⟩
        unfold Hid
        rw [← hR.len]
        by_cases hm : Rc.may ⟨v, g, l⟩ = true
        · rw [if_pos hm, Rc.put_length hm, hm]
          have := Rc.size_room (n := 9 + l.length) (by have := Rc.may_val hm; simp at this; omega)
          exact ⟨fun _ => rfl, fun _ => by show 0 < Rc.size ((9 + l.length : Nat) : Int); omega⟩
        · rw [if_neg hm]
          exact ⟨fun h => absurd h (by simp), fun h => absurd h hm⟩
      clear hO1 hl hgood
      go_upto_region 7 with (fail)
      obtain ⟨w2, hw2⟩ : ∃ x, x = (w1.alloc (.cells O1.toArray 5)).alloc (.cells #[.int .i64 v, .bool g, .string ⟨l.toArray⟩] 42) := ⟨_, rfl⟩
      have B2 : Hid (Blk w2 (w1.heap.size + 1) 42 [.int .i64 v, .bool g, .string ⟨l.toArray⟩]) := by unfold Hid; rw [hw2]; exact Blk.at_new _ _ 42 _ _ rfl (by simp)
      have W2 : Hid (Below w.heap.size w w2) := by unfold Hid; rw [hw2]; exact (W1.out.alloc W1.out.size _).alloc (by have := W1.out.size; simp; omega) _
      rw [← hw2]
      clear hw2 hmk hcv
      by_cases c1 : v < 1
      · have d1 : decide ((1 : Int) ≤ v) = false := by simp; omega
        obtain rfl : good = false := by rw [HGD.out]; simp [Rc.may, hll]; omega
        clear HGD hll
        go_wp2_with (with_reducible refine load_law rfl 42 (.tmp 8) rfl (w1.heap.size + 1) 0 rfl [.int .i64 v, .bool g, .string ⟨l.toArray⟩] _ Tryd.underlying42 rfl IL.out B2.out.cells ?_)
        refine (CP.out w2 (HG.out.below W2.out hsz)).mono ?_
        rintro e w3 ⟨A, m, c, rfl, HM, hX⟩
        have W3 := Lib.hid (W2.out.trans (hX.mono W2.out.size))
        have B3 := Lib.hid (B2.out.below hX B2.out.lt)
        obtain rfl : m = 0 := by have := HM.out; simp at this; omega
        clear hX
        go_wp2_with (with_reducible refine load_law rfl 42 (.tmp 8) rfl (w1.heap.size + 1) 0 rfl [.int .i64 v, .bool g, .string ⟨l.toArray⟩] _ Tryd.underlying42 rfl IL.out B3.out.cells ?_)
        refine (CM.out w3).mono ?_
        rintro e w4 ⟨rfl, hX⟩
        have W4 := Lib.hid (W3.out.trans (hX.mono W3.out.size))
        go_wp2_with fail
        go_ret
        exact ⟨rfl, W4.out⟩
      · have d1 : decide ((1 : Int) ≤ v) = true := by simp; omega
        by_cases c2 : 1099511627776 < v
        · have d2 : decide (v ≤ 1099511627776) = false := by simp; omega
          obtain rfl : good = false := by rw [HGD.out]; simp [Rc.may, hll]; omega
          clear HGD hll
          go_wp2_with (with_reducible refine load_law rfl 42 (.tmp 8) rfl (w1.heap.size + 1) 0 rfl [.int .i64 v, .bool g, .string ⟨l.toArray⟩] _ Tryd.underlying42 rfl IL.out B2.out.cells ?_)
          refine (CP.out w2 (HG.out.below W2.out hsz)).mono ?_
          rintro e w3 ⟨A, m, c, rfl, HM, hX⟩
          have W3 := Lib.hid (W2.out.trans (hX.mono W2.out.size))
          have B3 := Lib.hid (B2.out.below hX B2.out.lt)
          obtain rfl : m = 0 := by have := HM.out; simp at this; omega
          clear hX
          go_wp2_with (with_reducible refine load_law rfl 42 (.tmp 8) rfl (w1.heap.size + 1) 0 rfl [.int .i64 v, .bool g, .string ⟨l.toArray⟩] _ Tryd.underlying42 rfl IL.out B3.out.cells ?_)
          refine (CM.out w3).mono ?_
          rintro e w4 ⟨rfl, hX⟩
          have W4 := Lib.hid (W3.out.trans (hX.mono W3.out.size))
          go_wp2_with fail
          go_ret
          exact ⟨rfl, W4.out⟩
        · have d2 : decide (v ≤ 1099511627776) = true := by simp; omega
          by_cases c3 : 1000 < n
          · have d3 : decide ((n : Int) ≤ 1000) = false := by simp; omega
            obtain rfl : good = false := by rw [HGD.out]; simp [Rc.may, hll]; omega
            clear HGD hll
            go_wp2_with (with_reducible refine load_law rfl 42 (.tmp 8) rfl (w1.heap.size + 1) 0 rfl [.int .i64 v, .bool g, .string ⟨l.toArray⟩] _ Tryd.underlying42 rfl IL.out B2.out.cells ?_)
            refine (CP.out w2 (HG.out.below W2.out hsz)).mono ?_
            rintro e w3 ⟨A, m, c, rfl, HM, hX⟩
            have W3 := Lib.hid (W2.out.trans (hX.mono W2.out.size))
            have B3 := Lib.hid (B2.out.below hX B2.out.lt)
            obtain rfl : m = 0 := by have := HM.out; simp at this; omega
            clear hX
            go_wp2_with (with_reducible refine load_law rfl 42 (.tmp 8) rfl (w1.heap.size + 1) 0 rfl [.int .i64 v, .bool g, .string ⟨l.toArray⟩] _ Tryd.underlying42 rfl IL.out B3.out.cells ?_)
            refine (CM.out w3).mono ?_
            rintro e w4 ⟨rfl, hX⟩
            have W4 := Lib.hid (W3.out.trans (hX.mono W3.out.size))
            go_wp2_with fail
            go_ret
            exact ⟨rfl, W4.out⟩
          · have d3 : decide ((n : Int) ≤ 1000) = true := by simp; omega
            cases g with
            | false =>
              obtain rfl : good = true := by rw [HGD.out]; simp [Rc.may, hll]; omega
              clear HGD hll
              go_wp2_with (with_reducible refine load_law rfl 42 (.tmp 8) rfl (w1.heap.size + 1) 0 rfl [.int .i64 v, .bool false, .string ⟨l.toArray⟩] _ Tryd.underlying42 rfl IL.out B2.out.cells ?_)
              refine (CP.out w2 (HG.out.below W2.out hsz)).mono ?_
              rintro e w3 ⟨A, m, c, rfl, HM, hX⟩
              have W3 := Lib.hid (W2.out.trans (hX.mono W2.out.size))
              have B3 := Lib.hid (B2.out.below hX B2.out.lt)
              have hm : decide (0 < m) = true := by have := HM.out; simpa using this
              clear hX
              go_wp2_with (with_reducible refine load_law rfl 42 (.tmp 8) rfl (w1.heap.size + 1) 0 rfl [.int .i64 v, .bool false, .string ⟨l.toArray⟩] _ Tryd.underlying42 rfl IL.out B3.out.cells ?_)
              refine (CM.out w3).mono ?_
              rintro e w4 ⟨rfl, hX⟩
              have W4 := Lib.hid (W3.out.trans (hX.mono W3.out.size))
              go_wp2_with fail
              go_ret
              exact ⟨rfl, W4.out⟩
            | true =>
              by_cases c4 : n = 0
              · have d4 : ((n : Int) == 0) = true := by simp; omega
                have hl0 : l = [] := by rw [← List.length_eq_zero_iff]; omega
                obtain rfl : good = true := by rw [HGD.out]; simp [Rc.may, hll, hl0]; omega
                clear HGD hll hl0 c4
                go_wp2_with (with_reducible refine load_law rfl 42 (.tmp 8) rfl (w1.heap.size + 1) 0 rfl [.int .i64 v, .bool true, .string ⟨l.toArray⟩] _ Tryd.underlying42 rfl IL.out B2.out.cells ?_)
                refine (CP.out w2 (HG.out.below W2.out hsz)).mono ?_
                rintro e w3 ⟨A, m, c, rfl, HM, hX⟩
                have W3 := Lib.hid (W2.out.trans (hX.mono W2.out.size))
                have B3 := Lib.hid (B2.out.below hX B2.out.lt)
                have hm : decide (0 < m) = true := by have := HM.out; simpa using this
                clear hX
                go_wp2_with (with_reducible refine load_law rfl 42 (.tmp 8) rfl (w1.heap.size + 1) 0 rfl [.int .i64 v, .bool true, .string ⟨l.toArray⟩] _ Tryd.underlying42 rfl IL.out B3.out.cells ?_)
                refine (CM.out w3).mono ?_
                rintro e w4 ⟨rfl, hX⟩
                have W4 := Lib.hid (W3.out.trans (hX.mono W3.out.size))
                go_wp2_with fail
                go_ret
                exact ⟨rfl, W4.out⟩
              · have d4 : ((n : Int) == 0) = false := by simp; omega
                have hl0 : l ≠ [] := by intro h; rw [h] at hll; simp at hll; omega
                obtain rfl : good = false := by rw [HGD.out]; simp [Rc.may, hll, hl0]
                clear HGD hll hl0 c4
                go_wp2_with (with_reducible refine load_law rfl 42 (.tmp 8) rfl (w1.heap.size + 1) 0 rfl [.int .i64 v, .bool true, .string ⟨l.toArray⟩] _ Tryd.underlying42 rfl IL.out B2.out.cells ?_)
                refine (CP.out w2 (HG.out.below W2.out hsz)).mono ?_
                rintro e w3 ⟨A, m, c, rfl, HM, hX⟩
                have W3 := Lib.hid (W2.out.trans (hX.mono W2.out.size))
                have B3 := Lib.hid (B2.out.below hX B2.out.lt)
                obtain rfl : m = 0 := by have := HM.out; simp at this; omega
                clear hX
                go_wp2_with (with_reducible refine load_law rfl 42 (.tmp 8) rfl (w1.heap.size + 1) 0 rfl [.int .i64 v, .bool true, .string ⟨l.toArray⟩] _ Tryd.underlying42 rfl IL.out B3.out.cells ?_)
                refine (CM.out w3).mono ?_
                rintro e w4 ⟨rfl, hX⟩
                have W4 := Lib.hid (W3.out.trans (hX.mono W3.out.size))
                go_wp2_with fail
                go_ret
                exact ⟨rfl, W4.out⟩
end Go.Proofs.YtijncclcdkgaoaaDoor.recVers
