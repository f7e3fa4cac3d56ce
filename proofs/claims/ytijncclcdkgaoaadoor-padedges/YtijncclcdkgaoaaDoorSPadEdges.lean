import Derived.Test.YtijncclcdkgaoaaDoorSPadAll
namespace Go.Proofs.YtijncclcdkgaoaaDoor.padEdges
set_option linter.unusedVariables false
set_option linter.unusedSimpArgs false
set_option maxRecDepth 100000
open Go.RowKit
set_option maxRecDepth 100000 in
set_option maxHeartbeats 4000000 in
theorem walk {P : BxP} (hB : BoxOk P) (which by_ : Int) (x : UInt8) (w : World) (hg : Gl w) (h1 : -9223372036854775808 ≤ which) (h2 : which ≤ 9223372036854775807) : Calls Tryd.prog 9 #[.int .i64 which, .int .i64 by_, .int .u8 (x.toNat : Int)] w fun e w' => e = .returned (.bool true) ∧ Below w.heap.size w w' := by
  have HG := Lib.hid hg
  have HB := Lib.hid hB
  have hsz := hg.size
  clear hg hB
  go_enter Tryd.func9, Tryd.ntmps9
  go_wp2_with fail
  refine (begun9_any HB.out HG.out).mono ?_
  rintro e w1 ⟨rfl, hX⟩
  have W1 := Lib.hid hX
  clear hX
  by_cases c1 : by_ < -4
  · go_wp2_with fail
    go_ret
    exact ⟨rfl, W1.out⟩
  · by_cases c2 : 4 < by_
    · go_wp2_with fail
      go_ret
      exact ⟨rfl, W1.out⟩
    · obtain ⟨r, hr⟩ : ∃ r, r = which.tmod 4 := ⟨_, rfl⟩
      have hr2 : -4 < r ∧ r < 4 := by rw [hr]; exact ⟨by have := Int.lt_tmod_of_pos which (show (0 : Int) < 4 by omega); omega, Int.tmod_lt_of_pos which (by omega)⟩
      obtain ⟨q, hq⟩ := Int.eq_ofNat_of_zero_le (show 0 ≤ (r + 4) % 4 by omega)
      have hq4 : q < 4 := by omega
      have e1 : which.tmod 4 = r := hr.symm
      have e2 : (r + 4).tmod 4 = (q : Int) := by rw [Int.tmod_eq_emod_of_nonneg (by omega)]; exact hq
      have e3 : (r + 4) % 4 = (q : Int) := hq
      obtain ⟨s, hs, hs1, hs2⟩ : ∃ s : Nat, ([.int .i64 32, .int .i64 128, .int .i64 512, .int .i64 2048] : List Value)[q]? = some (.int .i64 (s : Int)) ∧ 32 ≤ s ∧ s ≤ 2048 := by
        have hk4 : q = 0 ∨ q = 1 ∨ q = 2 ∨ q = 3 := by omega
        rcases hk4 with rfl | rfl | rfl | rfl
        · exact ⟨32, rfl, by omega, by omega⟩
        · exact ⟨128, rfl, by omega, by omega⟩
        · exact ⟨512, rfl, by omega, by omega⟩
        · exact ⟨2048, rfl, by omega, by omega⟩
      obtain ⟨n, hn⟩ := Int.eq_ofNat_of_zero_le (show 0 ≤ (s : Int) - 2 + by_ by omega)
      have hn2 : n ≤ 2050 := by omega
      clear hr hq
      have c0 : (w1.alloc (.cells #[.int .i64 32, .int .i64 128, .int .i64 512, .int .i64 2048] 3)).cell? ⟨w1.heap.size, q, none⟩ = some (.int .i64 (s : Int)) := by rw [(Blk.new w1 3 [.int .i64 32, .int .i64 128, .int .i64 512, .int .i64 2048]).cell]; exact hs
      have hmk := fun W => make_bytes n (by omega) W
      obtain ⟨O, hO⟩ : ∃ O, O = outC [] n := ⟨_, rfl⟩
      rw [← hO] at hmk
      have HO := Lib.hid hO
      clear hs hO
      go_upto_region 8 with (fail)
      obtain ⟨w2, hw2⟩ : ∃ x, x = w1.alloc (.cells #[.int .i64 32, .int .i64 128, .int .i64 512, .int .i64 2048] 3) := ⟨_, rfl⟩
      have X2 : Below w1.heap.size w1 w2 := by rw [hw2]; exact alloc_below _ _
      rw [← hw2]
      have hs2w : w2.heap.size = w1.heap.size + 1 := by rw [hw2]; simp
      obtain ⟨g, hg⟩ : ∃ g, g = w1.heap.size + 1 := ⟨_, rfl⟩
      have W3 := Lib.hid ((W1.out.trans (X2.mono W1.out.size)).alloc (by have := W1.out.size; have := X2.size; omega) (.cells O.toArray 5))
      have B3 := Lib.hid (Blk.at_new w2 g 5 (outC (List.replicate 0 x) n) O.toArray (by rw [HO.out]; rfl) (by rw [hg, hs2w]))
      have hgw : w.heap.size ≤ g := by rw [hg]; have := W1.out.size; omega
      rw [← hg]
      clear c0 hmk X2 hw2 HO hg hn W1 hs2w
      generalize w2.alloc (.cells O.toArray 5) = w3 at *
      go_wp2_with fail
      go_loopw [38] (fun i wr => ∃ k : Nat, k ≤ n ∧ i = .int .i64 k ∧ Hid (Blk wr g 5 (outC (List.replicate k x) n)) ∧ Hid (Below w.heap.size w wr)) (fun i _ => n - (intOf i).toNat)
      case atStart => exact ⟨0, by omega, rfl, B3, W3⟩
      case round =>
        clear B3 W3
        obtain ⟨k, hk, rfl, BK, WK⟩ := hrel
        by_cases hlt : k < n
        · have hlb : (k : Int) < (n : Int) := by omega
          have c0 : wr.cell? ⟨g, k, none⟩ = some (.int .u8 0) := by rw [BK.out.cell]; exact outC_at _ n k (by simp) hlt
          have f0 : wr.frozen? ⟨g, k, none⟩ = false := BK.out.frozen _
          have B4 : Hid (Blk (wr.setCell ⟨g, k, none⟩ (.int .u8 (x.toNat : Int))) g 5 (outC (List.replicate (k + 1) x) n)) := by
            have := BK.out.set_ k (cellOf x)
            rw [outC_set _ n k _ (by simp) hlt, ← List.replicate_succ'] at this
            exact this
          have W4 := Lib.hid (WK.out.setCell (p := ⟨g, k, none⟩) hgw (.int .u8 (x.toNat : Int)))
          clear BK WK
          go_wp2_with fail
          clear c0 f0
          go_roundw
          case rel => exact ⟨k + 1, by omega, by go_num, B4, W4⟩
          case measure => simp [intOf]; omega
        · obtain rfl : k = n := by omega
          have RB := Lib.hid (outC_rd BK.out (by simp) (by omega))
          have WB := WK
          obtain ⟨lb, hlb⟩ : ∃ l, l = List.replicate k x := ⟨_, rfl⟩
          have hlm : lb.length = k := by rw [hlb]; simp
          rw [← hlb] at RB
          obtain ⟨z, hz⟩ : ∃ z, z = Rc.size (k : Int) := ⟨_, rfl⟩
          obtain ⟨lp, hlp⟩ : ∃ lp, lp = (if lb.length ≤ 2046 then Rc.pad lb else []) := ⟨_, rfl⟩
          obtain ⟨er, her⟩ : ∃ er : Int, er = (if lb.length ≤ 2046 then 0 else 13) := ⟨_, rfl⟩
          have LZ : lp.length = z := by rw [hlp, padded_len, hlm, hz]
          have P1 : Hid (∀ W : World, Gl W → Rd W (some ⟨g, 0, none⟩) k k lb → Calls Tryd.prog 16 #[.slice (some ⟨g, 0, none⟩) k k] W fun e w' => ∃ A c, e = .returned (.tuple #[.slice A z c, .int .i64 er]) ∧ Rd w' A z c lp ∧ Below W.heap.size W w') := fun W h hr => (ppad_any h hr).mono fun e w' hq => ret_len (by rw [hlp, her]; exact hq) LZ
          have P2 : Hid (∀ W : World, Rd W (some ⟨g, 0, none⟩) k k lb → Calls Tryd.prog 17 #[.slice (some ⟨g, 0, none⟩) k k] W fun e w' => ∃ A c, e = .returned (.tuple #[.slice A z c, .int .i64 er]) ∧ Rd w' A z c lp ∧ Below W.heap.size W w') := fun W hr => (rpad_any hr).mono fun e w' hq => ret_len (by rw [hlp, her]; exact hq) LZ
          have S1 : Hid (∀ W : World, Gl W → Calls Tryd.prog 18 #[.int .i64 (k : Int)] W fun e w' => e = .returned (.int .i64 (z : Int)) ∧ w' = W) := fun W h => by rw [hz]; exact psize_any (k : Int) h (by omega) (by omega)
          have HER : Hid (er = (if k ≤ 2046 then 0 else 13)) := by unfold Hid; rw [her, hlm]
          have hlt2 : ¬ (k : Int) < (k : Int) := by omega
          clear hz hlp her LZ hlm hlb BK WK
          go_wp2_with fail
          refine (P1.out wr (HG.out.below WB.out hsz) RB.out).mono ?_
          rintro e w4 ⟨A3, c3, rfl, hR, hX⟩
          have W4 := Lib.hid (WB.out.trans (hX.mono WB.out.size))
          have R3 := Lib.hid hR
          replace RB := Lib.hid (RB.out.below hX)
          clear hX hR WB P1
          go_wp2_with fail
          refine (P2.out w4 RB.out).mono ?_
          rintro e w5 ⟨A4, c4, rfl, hR, hX⟩
          have W5 := Lib.hid (W4.out.trans (hX.mono W4.out.size))
          have hcv1 := conv_bytes (R3.out.below hX)
          have hcv2 := conv_bytes hR
          have hss := str_same lp
          clear hX hR P2 R3 RB W4
          by_cases hm2 : k ≤ 2046
          · obtain rfl : er = 0 := by rw [HER.out, if_pos hm2]
            have hni : decide ((k : Int) ≤ 2046) = true := by simp; omega
            go_wp2_with fail
            refine (S1.out w5 (HG.out.below W5.out hsz)).mono ?_
            rintro e w6 ⟨rfl, rfl⟩
            go_wp2_with fail
            go_ret
            exact ⟨rfl, W5.out⟩
          · obtain rfl : er = 13 := by rw [HER.out, if_neg hm2]
            have hni : decide ((k : Int) ≤ 2046) = false := by simp; omega
            go_wp2_with fail
            refine (S1.out w5 (HG.out.below W5.out hsz)).mono ?_
            rintro e w6 ⟨rfl, rfl⟩
            go_wp2_with fail
            go_ret
            exact ⟨rfl, W5.out⟩
end Go.Proofs.YtijncclcdkgaoaaDoor.padEdges
