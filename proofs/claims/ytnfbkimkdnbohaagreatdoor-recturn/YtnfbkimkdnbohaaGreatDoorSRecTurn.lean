import Derived.Test.YtnfbkimkdnbohaaGreatDoorSRw
namespace Go.Proofs.YtnfbkimkdnbohaaGreatDoor.recTurn
set_option linter.unusedVariables false
set_option linter.unusedSimpArgs false
set_option maxRecDepth 100000
open Go.RowKit
set_option maxRecDepth 100000 in
set_option maxHeartbeats 4000000 in
theorem walk {P : BxP} (hB : BoxOk P) (v : Int) (g : Bool) (l : List UInt8) (at_ : Int) (x : UInt8) (w : World) (hg : Gl w) (hl : l.length ≤ 9223372036854775807) (n1 : -9223372036854775808 ≤ at_) (n2 : at_ ≤ 9223372036854775807) : Calls Tryz.prog 4 #[.agg #[.int .i64 v, .bool g, .string ⟨l.toArray⟩], .int .i64 at_, .int .u8 (x.toNat : Int)] w fun e w' => e = .returned (.bool true) ∧ Below w.heap.size w w' := by
  have HG := Lib.hid hg
  have HB := Lib.hid hB
  have hsz := hg.size
  obtain ⟨k, hk⟩ : ∃ k, k = l.take 200 := ⟨_, rfl⟩
  have CC : Hid (∀ W, Calls Tryz.prog 7 #[.string ⟨l.toArray⟩, .int .i64 200] W fun e w' => e = .returned (.string ⟨k.toArray⟩) ∧ W = w') := fun W => by rw [hk]; exact cut_eq 200 hl (by omega)
  obtain ⟨L, hL⟩ : ∃ L, L = recL ⟨v, g, k⟩ := ⟨_, rfl⟩
  have HL : Hid (L = [.int .i64 v, .bool g, .string ⟨k.toArray⟩]) := hL
  have IL : Hid ((Tryz.prog.info? 23).map (·.size) = some L.length) := by unfold Hid; rw [hL]; kernel_rfl
  obtain ⟨lp, hlp⟩ : ∃ p, p = Rc.put ⟨v, g, k⟩ := ⟨_, rfl⟩
  have CN : Hid (Rc.may ⟨v, g, k⟩ = false → ∀ W, Calls Tryz.prog 10 #[.agg L.toArray] W (RetE W [] 1)) := fun h W => by rw [hL]; exact rrput_no _ W h
  have CY : Hid (Rc.may ⟨v, g, k⟩ = true → ∀ W, Calls Tryz.prog 10 #[.agg L.toArray] W fun e w' => ∃ v, e = .returned (.tuple #[v, .int .i64 0]) ∧ Ow w' W.heap.size v lp ∧ Below W.heap.size W w') := fun h W => by rw [hL, hlp]; exact rrput_may _ W h
  have HZL : Hid (Rc.may ⟨v, g, k⟩ = true → 0 < lp.length ∧ lp.length ≤ 2048) := fun h => by
    rw [hlp, Rc.put_length h]
    have := Rc.size_room (n := 9 + k.length) (by have := Rc.may_val h; simp at this; omega)
    exact ⟨by show 0 < Rc.size ((9 + k.length : Nat) : Int); omega, Rc.size_le _⟩
  obtain ⟨my, hmy⟩ : ∃ m, m = Rc.may ⟨v, g, k⟩ := ⟨_, rfl⟩
  rw [← hmy] at CN CY HZL
  clear hg hB hk hL hlp hmy
  go_enter Tryz.func4, Tryz.ntmps4
  go_upto_region 1 with (fail)
  obtain ⟨w0, hw0⟩ : ∃ x, x = w.alloc (.cells #[.int .i64 v, .bool g, .string ⟨l.toArray⟩] 23) := ⟨_, rfl⟩
  have B0 : Hid (Blk w0 w.heap.size 23 [.int .i64 v, .bool g, .string ⟨l.toArray⟩]) := by unfold Hid; rw [hw0]; exact Blk.new w 23 _
  have W0 : Hid (Below w.heap.size w w0) := by unfold Hid; rw [hw0]; exact alloc_below _ _
  rw [← hw0]
  clear hw0
  go_wp2_with fail
  refine (begun9_any HB.out (HG.out.below W0.out hsz)).mono ?_
  rintro e w1 ⟨rfl, hX⟩
  have B1 := Lib.hid (B0.out.below hX B0.out.lt)
  have W1 := Lib.hid (W0.out.trans (hX.mono W0.out.size))
  have c2 : w1.cell? ⟨w.heap.size, 2, none⟩ = some (.string ⟨l.toArray⟩) := B1.out.cell 2
  have f2 : w1.frozen? ⟨w.heap.size, 2, none⟩ = false := B1.out.frozen 2
  clear hX W0 B0
  go_wp2_with fail
  refine (CC.out w1).mono ?_
  rintro e w2 ⟨rfl, rfl⟩
  go_upto_region 5 with (fail)
  have B2 : Hid (Blk (w1.setCell ⟨w.heap.size, 2, none⟩ (.string ⟨k.toArray⟩)) w.heap.size 23 L) := by unfold Hid; rw [HL.out]; exact B1.out.set_ 2 _
  have W2 : Hid (Below w.heap.size w (w1.setCell ⟨w.heap.size, 2, none⟩ (.string ⟨k.toArray⟩))) := W1.out.setCell (Nat.le_refl _) _
  clear c2 f2 B1 W1 CC
  generalize w1.setCell ⟨w.heap.size, 2, none⟩ (.string ⟨k.toArray⟩) = w2 at *
  go_wp2_with (with_reducible refine load_law rfl 23 (.tmp 3) rfl w.heap.size 0 rfl L _ Tryz.underlying23 rfl IL.out B2.out.cells ?_)
  cases my with
  | false =>
    refine (CN.out rfl w2).mono ?_
    rintro e w3 ⟨A3, m3, c3, rfl, _, hX, _⟩
    have W3 := Lib.hid (W2.out.trans (hX.mono W2.out.size))
    clear hX
    go_wp2_with fail
    go_ret
    exact ⟨rfl, W3.out⟩
  | true =>
    refine (CY.out rfl w2).mono ?_
    rintro e w3 ⟨v3, rfl, hO, hX⟩
    have W3 := Lib.hid (W2.out.trans (hX.mono W2.out.size))
    obtain ⟨hz1, hz2⟩ := HZL.out rfl
    obtain ⟨z, hz⟩ : ∃ z, z = lp.length := ⟨_, rfl⟩
    have HLZ := Lib.hid hz.symm
    obtain ⟨gp, c5, cur, rfl, hgb, hB5, hc5, hm5, hcell⟩ := own_blk hO hz1
    rw [← hz] at hz1 hz2 hc5 ⊢
    clear hX hO hz CN CY
    by_cases h0 : at_ < 0
    · go_wp2_with fail
      go_ret
      exact ⟨rfl, W3.out⟩
    · obtain ⟨a, ha⟩ := Int.eq_ofNat_of_zero_le (show 0 ≤ at_ by omega)
      obtain ⟨i, hi⟩ : ∃ i, i = a % z := ⟨_, rfl⟩
      have hiz : i < z := by rw [hi]; exact Nat.mod_lt _ (by omega)
      have hzi : (i : Int) < (z : Int) := by omega
      have ei : at_.tmod (z : Int) = (i : Int) := by rw [ha, Int.tmod_eq_emod_of_nonneg (by omega), hi]; rfl
      have ei2 : at_ % (z : Int) = (i : Int) := by rw [ha, hi]; rfl
      have hzn : ¬ ((z : Int) = 0) := by omega
      clear ha hi
      obtain ⟨y, hy⟩ : ∃ y, y = lp.getD i 0 := ⟨_, rfl⟩
      have c0 : w3.cell? ⟨gp, i, none⟩ = some (.int .u8 (y.toNat : Int)) := by rw [hB5.cell, hy]; exact hcell i (by rw [HLZ.out]; exact hiz)
      have f0 : w3.frozen? ⟨gp, i, none⟩ = false := hB5.frozen i
      have hxor := xor_cell y x
      obtain ⟨yx, hyx⟩ : ∃ q, q = y ^^^ x := ⟨_, rfl⟩
      rw [← hyx] at hxor
      obtain ⟨l6, hl6⟩ : ∃ q, q = lp.set i yx := ⟨_, rfl⟩
      have R6 : Hid (Rd (w3.setCell ⟨gp, i, none⟩ (.int .u8 (yx.toNat : Int))) (some ⟨gp, 0, none⟩) z c5 l6) := by
        have := rd_set yx hB5 (by rw [HLZ.out]; exact hc5) hm5 hcell (show i < lp.length by rw [HLZ.out]; exact hiz)
        rw [HLZ.out] at this
        rw [hl6]
        exact this
      have X6 : Hid (Below w.heap.size w (w3.setCell ⟨gp, i, none⟩ (.int .u8 (yx.toNat : Int)))) := W3.out.setCell (p := ⟨gp, i, none⟩) (Nat.le_trans W2.out.size hgb) (.int .u8 (yx.toNat : Int))
      clear hB5 hcell hy hyx hl6
      go_upto_region 9 with (fail)
      clear c0 f0 hxor
      generalize w3.setCell ⟨gp, i, none⟩ (.int .u8 (yx.toNat : Int)) = w6 at *
      clear W3 W2 B2
      go_wp2_with fail
      refine (rgets_any (HG.out.below X6.out hsz) R6.out (by omega)).mono ?_
      rintro e w7 ⟨rfl, hX⟩
      have W7 := Lib.hid (X6.out.trans (hX.mono X6.out.size))
      go_wp2_with fail
      go_ret
      exact ⟨rfl, W7.out⟩
end Go.Proofs.YtnfbkimkdnbohaaGreatDoor.recTurn
