import Derived.Test.YtijncclcdkgaoaaDoorSBegun9
namespace Go.Proofs.YtijncclcdkgaoaaDoor
set_option linter.unusedVariables false
set_option linter.unusedSimpArgs false
set_option maxRecDepth 100000
open Go.RowKit
theorem ppad_len {w : World} {A : Option Addr} {n c : Nat} {b : List UInt8} (hg : Gl w) (hr : Rd w A n c b) :
    Calls Tryd.prog 16 #[.slice A n c] w fun e w' => ∃ A' c', e = .returned (.tuple #[.slice A' (Rc.size (n : Int)) c', .int .i64 (if n ≤ 2046 then 0 else 13)]) ∧ Rd w' A' (Rc.size (n : Int)) c' (if n ≤ 2046 then Rc.pad b else []) ∧ Below w.heap.size w w' ∧ ∀ x, A' = some x → 0 < Rc.size (n : Int) → w.heap.size ≤ x.block := by
  obtain rfl := hr.len
  refine (ppad_any hg hr).mono ?_
  rintro e w' ⟨A', n', c', rfl, hR, hX, hF⟩
  have hn' := hR.len
  by_cases h : b.length ≤ 2046
  · rw [if_pos h] at *
    rw [Rc.pad_length h] at hn'
    subst hn'
    rw [if_pos h]
    exact ⟨A', c', rfl, hR, hX, hF⟩
  · rw [if_neg h] at *
    have e : Rc.size (b.length : Int) = 0 := Rc.size_none (by omega)
    rw [e, if_neg h]
    obtain rfl : n' = 0 := hn'.symm
    exact ⟨A', c', rfl, hR, hX, hF⟩
theorem noughts_rd (w : World) (n : Nat) (h : n ≤ 1000000) : Rd (w.alloc (.cells (outC [] n).toArray 5)) (some ⟨w.heap.size, 0, none⟩) n n (List.replicate n 0) :=
  Rd.of_block (Blk.new w 5 (outC [] n)) (by simp) (Nat.le_refl _) (by unfold maxLen; omega) (fun j hj => by simp [outC, hj, cellOf])
end Go.Proofs.YtijncclcdkgaoaaDoor
namespace Go.Proofs.YtijncclcdkgaoaaDoor.padAlike
set_option linter.unusedVariables false
set_option linter.unusedSimpArgs false
set_option maxRecDepth 100000
open Go.RowKit
set_option maxRecDepth 100000 in
set_option maxHeartbeats 4000000 in
theorem walk {P : BxP} (hB : BoxOk P) (a b : Int) (w : World) (hg : Gl w) : Calls Tryd.prog 6 #[.int .i64 a, .int .i64 b] w fun e w' => e = .returned (.bool true) ∧ Below w.heap.size w w' := by
  have HG := Lib.hid hg
  have HB := Lib.hid hB
  have hsz := hg.size
  clear hg hB
  go_enter Tryd.func6, Tryd.ntmps6
  go_wp2_with fail
  refine (begun9_any HB.out HG.out).mono ?_
  rintro e w1 ⟨rfl, hX⟩
  have W1 := Lib.hid hX
  clear hX
  by_cases h1 : a < 0
  · go_wp2_with fail
    go_ret
    exact ⟨rfl, W1.out⟩
  · by_cases h2 : 2100 < a
    · go_wp2_with fail
      go_ret
      exact ⟨rfl, W1.out⟩
    · by_cases h3 : b < 0
      · go_wp2_with fail
        go_ret
        exact ⟨rfl, W1.out⟩
      · by_cases h4 : 2100 < b
        · go_wp2_with fail
          go_ret
          exact ⟨rfl, W1.out⟩
        · obtain ⟨n, rfl⟩ := Int.eq_ofNat_of_zero_le (show 0 ≤ a by omega)
          obtain ⟨m, rfl⟩ := Int.eq_ofNat_of_zero_le (show 0 ≤ b by omega)
          have hn1 : n ≤ 2100 := by omega
          have hm1 : m ≤ 2100 := by omega
          have hmk := fun W => make_bytes n (by omega) W
          have hmk2 := fun W => make_bytes m (by omega) W
          obtain ⟨O1, hO1⟩ : ∃ O, O = outC [] n := ⟨_, rfl⟩
          obtain ⟨O2, hO2⟩ : ∃ O, O = outC [] m := ⟨_, rfl⟩
          obtain ⟨z1, hz1⟩ : ∃ z, z = Rc.size (n : Int) := ⟨_, rfl⟩
          obtain ⟨z2, hz2⟩ : ∃ z, z = Rc.size (m : Int) := ⟨_, rfl⟩
          have C1 := Lib.hid (fun (W : World) (h : Gl W) => psize_any (n : Int) h (by omega) (by omega))
          have C2 := Lib.hid (fun (W : World) (h : Gl W) => psize_any (m : Int) h (by omega) (by omega))
          have P1 := Lib.hid (fun (W : World) (A : Option Addr) (c : Nat) (l : List UInt8) (h : Gl W) (hr : Rd W A n c l) => ppad_len h hr)
          have P2 := Lib.hid (fun (W : World) (A : Option Addr) (c : Nat) (l : List UInt8) (h : Gl W) (hr : Rd W A m c l) => ppad_len h hr)
          obtain ⟨e1, he1⟩ : ∃ e : Int, e = if n ≤ 2046 then 0 else 13 := ⟨_, rfl⟩
          obtain ⟨e2, he2⟩ : ∃ e : Int, e = if m ≤ 2046 then 0 else 13 := ⟨_, rfl⟩
          rw [← hz1, ← he1] at P1
          rw [← hz2, ← he2] at P2
          rw [← hz1] at C1
          rw [← hz2] at C2
          have HE1 := Lib.hid he1
          have HE2 := Lib.hid he2
          clear he1 he2
          rw [← hO1] at hmk
          rw [← hO2] at hmk2
          have HO1 := Lib.hid hO1
          have HO2 := Lib.hid hO2
          clear hO1 hO2 hz1 hz2 h1 h2 h3 h4
          go_wp2_with fail
          have X2 := alloc_below w1 (.cells O1.toArray 5)
          have W2 := Lib.hid (W1.out.trans (X2.mono W1.out.size))
          refine (P1.out _ _ _ (List.replicate n 0) (HG.out.below W2.out hsz) (by rw [HO1.out]; exact noughts_rd w1 n (by omega))).mono ?_
          rintro e w3 ⟨A3, c3, rfl, hR, hX, _⟩
          have W3 := Lib.hid (W2.out.trans (hX.mono W2.out.size))
          clear hR hX X2 W2
          go_wp2_with fail
          have X4 := alloc_below w3 (.cells O2.toArray 5)
          have W4 := Lib.hid (W3.out.trans (X4.mono W3.out.size))
          refine (P2.out _ _ _ (List.replicate m 0) (HG.out.below W4.out hsz) (by rw [HO2.out]; exact noughts_rd w3 m (by omega))).mono ?_
          rintro e w5 ⟨A5, c5, rfl, hR, hX, _⟩
          have W5 := Lib.hid (W4.out.trans (hX.mono W4.out.size))
          clear hR hX X4 W4 hmk hmk2
          have CC1 := Lib.hid (C1.out w5 (HG.out.below W5.out hsz))
          have CC2 := Lib.hid (C2.out w5 (HG.out.below W5.out hsz))
          by_cases hn : n ≤ 2046
          · have hni : decide ((n : Int) ≤ 2046) = true := by simp; omega
            obtain rfl : e1 = 0 := by rw [HE1.out, if_pos hn]
            by_cases hm : m ≤ 2046
            · have hmi : decide ((m : Int) ≤ 2046) = true := by simp; omega
              obtain rfl : e2 = 0 := by rw [HE2.out, if_pos hm]
              go_wp2_with fail
              refine CC1.out.mono ?_
              rintro e w6 ⟨rfl, rfl⟩
              go_wp2_with fail
              refine CC2.out.mono ?_
              rintro e w7 ⟨rfl, rfl⟩
              go_wp2_with fail
              go_ret
              exact ⟨rfl, W5.out⟩
            · have hmi : decide ((m : Int) ≤ 2046) = false := by simp; omega
              obtain rfl : e2 = 13 := by rw [HE2.out, if_neg hm]
              go_wp2_with fail
              refine CC1.out.mono ?_
              rintro e w6 ⟨rfl, rfl⟩
              go_wp2_with fail
              refine CC2.out.mono ?_
              rintro e w7 ⟨rfl, rfl⟩
              go_wp2_with fail
              go_ret
              exact ⟨rfl, W5.out⟩
          · have hni : decide ((n : Int) ≤ 2046) = false := by simp; omega
            obtain rfl : e1 = 13 := by rw [HE1.out, if_neg hn]
            by_cases hm : m ≤ 2046
            · have hmi : decide ((m : Int) ≤ 2046) = true := by simp; omega
              obtain rfl : e2 = 0 := by rw [HE2.out, if_pos hm]
              go_wp2_with fail
              refine CC1.out.mono ?_
              rintro e w6 ⟨rfl, rfl⟩
              go_wp2_with fail
              refine CC2.out.mono ?_
              rintro e w7 ⟨rfl, rfl⟩
              go_wp2_with fail
              go_ret
              exact ⟨rfl, W5.out⟩
            · have hmi : decide ((m : Int) ≤ 2046) = false := by simp; omega
              obtain rfl : e2 = 13 := by rw [HE2.out, if_neg hm]
              go_wp2_with fail
              refine CC1.out.mono ?_
              rintro e w6 ⟨rfl, rfl⟩
              go_wp2_with fail
              refine CC2.out.mono ?_
              rintro e w7 ⟨rfl, rfl⟩
              go_wp2_with fail
              go_ret
              exact ⟨rfl, W5.out⟩
end Go.Proofs.YtijncclcdkgaoaaDoor.padAlike
