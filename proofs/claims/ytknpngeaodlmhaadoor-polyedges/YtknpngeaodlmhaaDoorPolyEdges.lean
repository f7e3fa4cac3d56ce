/- The walk of PolyEdges. -/
import Derived.Test.YtknpngeaodlmhaaDoorPolyAll
namespace Go.Proofs.YtknpngeaodlmhaaDoor
set_option linter.unusedVariables false
set_option linter.unusedSimpArgs false
open Go.RowKit
set_option maxRecDepth 100000 in
theorem andI3_fin : ∀ n : Fin 256, bits .and .i64 (n.val : Int) 3 = (n.val : Int) % 4 := by decide
theorem andI3 (x : Int) (h : 0 ≤ x ∧ x < 256) : bits .and .i64 x 3 = x % 4 := by
  have := andI3_fin ⟨x.toNat, by omega⟩
  simp only [Int.toNat_of_nonneg h.1] at this
  exact this
theorem shr_bd (z : UInt8) (s : Nat) : 0 ≤ (z.toNat : Int) / 2 ^ s ∧ (z.toNat : Int) / 2 ^ s < 256 := by
  have hz := z.toNat_lt
  have hp : (0 : Int) < 2 ^ s := Int.pow_pos (by omega)
  refine ⟨Int.ediv_nonneg (by omega) (by omega), ?_⟩
  exact Int.lt_of_le_of_lt (Int.ediv_le_self _ (by omega)) (by omega)
/-- One of the four bytes of a literal. -/
theorem four_at (w : World) (a b c d : UInt8) (q : Nat) (hq : q < 4) (arr : Array Value) (ha : arr = ([a, b, c, d].map cellOf).toArray) : ∃ u : UInt8, (w.alloc (.cells arr 5)).cell? ⟨w.heap.size, q, none⟩ = some (.int .u8 (u.toNat : Int)) := by
  refine ⟨[a, b, c, d].getD q 0, ?_⟩
  rw [(Blk.at_new w w.heap.size 5 _ arr ha rfl).cell]
  have hc : q = 0 ∨ q = 1 ∨ q = 2 ∨ q = 3 := by omega
  rcases hc with rfl | rfl | rfl | rfl <;> rfl
end Go.Proofs.YtknpngeaodlmhaaDoor
namespace Go.Proofs.YtknpngeaodlmhaaDoor.polyEdges
set_option linter.unusedVariables false
set_option linter.unusedSimpArgs false
open Go.RowKit

set_option maxRecDepth 100000 in
set_option maxHeartbeats 8000000 in
theorem walk (hA : AeOk) (n : Int) (x y z : UInt8) (w : World) (hg : Gl w) :
    Calls Tryd.prog 6 #[.int .i64 n, .int .u8 (x.toNat : Int), .int .u8 (y.toNat : Int), .int .u8 (z.toNat : Int)] w fun e w' => e = .returned (.bool true) ∧ Below w.heap.size w w' := by
  have HG := Lib.hid hg
  clear hg
  by_cases hn0 : n < 0
  · have d1 : decide (n < 0) = true := by simpa using hn0
    go_enter Tryd.func6, Tryd.ntmps6
    go_wp2_with (first | (go_at_call 14; refine (begun4_any hA HG.out).mono ?_; rintro e w1 ⟨rfl, HB⟩; have W1 := Lib.hid HB; clear HB))
    go_ret
    exact ⟨rfl, W1.out⟩
  · by_cases hn1 : 100 < n
    · have d1 : decide (n < 0) = false := by simpa using hn0
      have d2 : decide (n > 100) = true := by simpa using hn1
      go_enter Tryd.func6, Tryd.ntmps6
      go_wp2_with (first | (go_at_call 14; refine (begun4_any hA HG.out).mono ?_; rintro e w1 ⟨rfl, HB⟩; have W1 := Lib.hid HB; clear HB))
      go_ret
      exact ⟨rfl, W1.out⟩
    · obtain ⟨N, rfl⟩ : ∃ N : Nat, n = (N : Int) := ⟨n.toNat, by omega⟩
      have hN : N ≤ 100 := by omega
      have d1 : decide ((N : Int) < 0) = false := decide_eq_false (by omega)
      have d2 : decide ((N : Int) > 100) = false := decide_eq_false (by omega)
      have hmk := fun W => make_bytes N (by omega) W
      clear hn0 hn1
      go_enter Tryd.func6, Tryd.ntmps6
      go_upto_region 8 with (first | (go_at_call 14; refine (begun4_any hA HG.out).mono ?_; rintro e w1 ⟨rfl, HB⟩; have W1 := Lib.hid HB; clear HB))
      clear d1 d2 hmk
      obtain ⟨w2, hw2⟩ : ∃ x, x = (w1.alloc (Obj.cells (List.replicate 32 (.int .u8 0)).toArray 28)).alloc (.cells (outC [] N).toArray 5) := ⟨_, rfl⟩
      change Code.wp _ _ _ _ ((w1.alloc (Obj.cells (List.replicate 32 (.int .u8 0)).toArray 28)).alloc (.cells (outC [] N).toArray 5))
      obtain ⟨gk, hgk⟩ : ∃ g, g = w1.heap.size := ⟨_, rfl⟩
      obtain ⟨gb, hgb⟩ : ∃ g, g = w1.heap.size + 1 := ⟨_, rfl⟩
      have BK : Hid (Blk w2 gk 28 ((List.replicate 32 (0 : UInt8)).map cellOf)) := by unfold Hid; rw [hw2, hgk]; exact (Blk.new w1 _ _).alloc _
      have BB : Hid (Blk w2 gb 5 ((List.replicate N (0 : UInt8)).map cellOf)) := by unfold Hid; rw [hw2, hgb]; exact Blk.at_new _ _ _ _ _ (by simp [outC, cellOf]) (by simp)
      have W2 : Hid (Below w.heap.size w w2) := by unfold Hid; rw [hw2]; exact (W1.out.alloc W1.out.size _).alloc (by have := W1.out.size; simp; omega) _
      have hwk : w.heap.size ≤ gk := by rw [hgk]; exact W1.out.size
      have hkb : gk < gb := by omega
      rw [← hw2, ← hgb, ← hgk]
      clear hw2 hgb hgk W1
      go_wp2_with fail
      go_loopw [25] (fun i wr => ∃ (k : Nat) (l : List UInt8), k ≤ 32 ∧ i = .int .i64 k ∧ Hid (l.length = 32) ∧ Hid (Blk wr gk 28 (l.map cellOf)) ∧ Hid (Blk wr gb 5 ((List.replicate N (0 : UInt8)).map cellOf)) ∧ Hid (Below w.heap.size w wr)) (fun i _ => 32 - (intOf i).toNat)
      case atStart => exact ⟨0, _, by omega, rfl, by unfold Hid; simp, BK, BB, W2⟩
      case round =>
        clear BK BB W2
        obtain ⟨k, l, hk, rfl, LL, BK, BB, WW⟩ := hrel
        by_cases hlt : k < 32
        · have hlb : decide ((k : Int) < 32) = true := by simp; omega
          obtain ⟨s, hs⟩ : ∃ s : Nat, s = k % 4 * 2 := ⟨_, rfl⟩
          have hsi : (k : Int) % 4 * 2 = (s : Int) := by omega
          have hs8 : s < 8 := by omega
          have hvb := shr_bd z s
          have hv0 := hvb.1
          have hv1 := hvb.2
          obtain ⟨q, hq⟩ : ∃ q : Nat, q = ((z.toNat : Int) / 2 ^ s % 4).toNat := ⟨_, rfl⟩
          have hq4 : q < 4 := by omega
          have hand : bits .and .i64 ((z.toNat : Int) / 2 ^ s) 3 = (q : Int) := by rw [andI3 _ hvb]; omega
          have hqi : (q : Int) < 4 := by omega
          obtain ⟨u, hu⟩ := four_at wr 255 0 x y q hq4 #[.int .u8 255, .int .u8 0, .int .u8 (x.toNat : Int), .int .u8 (y.toNat : Int)] rfl
          have fk : (wr.alloc (.cells #[.int .u8 255, .int .u8 0, .int .u8 (x.toNat : Int), .int .u8 (y.toNat : Int)] 5)).frozen? ⟨gk, k, none⟩ = false := (BK.out.alloc _).frozen _
          have ck : (wr.alloc (.cells #[.int .u8 255, .int .u8 0, .int .u8 (x.toNat : Int), .int .u8 (y.toNat : Int)] 5)).cell? ⟨gk, k, none⟩ = some (.int .u8 ((l.getD k 0).toNat : Int)) := bytes_cell (BK.out.alloc _) (by rw [LL.out]; exact hlt)
          have BK2 : Hid (Blk ((wr.alloc (.cells #[.int .u8 255, .int .u8 0, .int .u8 (x.toNat : Int), .int .u8 (y.toNat : Int)] 5)).setCell ⟨gk, k, none⟩ (.int .u8 (u.toNat : Int))) gk 28 ((l.set k u).map cellOf)) := bytes_put (BK.out.alloc _) u
          have BB2 : Hid (Blk ((wr.alloc (.cells #[.int .u8 255, .int .u8 0, .int .u8 (x.toNat : Int), .int .u8 (y.toNat : Int)] 5)).setCell ⟨gk, k, none⟩ (.int .u8 (u.toNat : Int))) gb 5 ((List.replicate N (0 : UInt8)).map cellOf)) := (BB.out.alloc _).far (by show gb ≠ gk; omega) _
          have WW2 : Hid (Below w.heap.size w ((wr.alloc (.cells #[.int .u8 255, .int .u8 0, .int .u8 (x.toNat : Int), .int .u8 (y.toNat : Int)] 5)).setCell ⟨gk, k, none⟩ (.int .u8 (u.toNat : Int)))) := (WW.out.alloc WW.out.size _).setCell hwk _
          have LL2 : Hid ((l.set k u).length = 32) := by unfold Hid; rw [List.length_set, LL.out]
          clear hs hq hvb
          go_wp2_with fail
          go_roundw
          case rel => exact ⟨k + 1, _, by omega, by go_num, LL2, BK2, BB2, WW2⟩
          case measure => simp [intOf]; omega
        · obtain rfl : k = 32 := by omega
          rw [show ((32 : Nat) : Int) = 32 from rfl]
          obtain ⟨key, hkey⟩ : ∃ l', l' = l := ⟨_, rfl⟩
          rw [← hkey] at LL BK
          clear hkey
          go_wp2_with fail
          go_loopw [46] (fun i wr => ∃ (k : Nat) (l : List UInt8), k ≤ N ∧ i = .int .i64 k ∧ Hid (l.length = N) ∧ Hid (Blk wr gk 28 (key.map cellOf)) ∧ Hid (Blk wr gb 5 (l.map cellOf)) ∧ Hid (Below w.heap.size w wr)) (fun i _ => N - (intOf i).toNat)
          case atStart => exact ⟨0, _, by omega, rfl, by unfold Hid; simp, BK, BB, WW⟩
          case round =>
            clear BK BB WW
            obtain ⟨k, b, hk, rfl, LB, BK, BB, WW⟩ := hrel
            by_cases hlt : k < N
            · have hlb : decide ((k : Int) < (N : Int)) = true := by simp; omega
              have hlb' : decide (k < N) = true := by simp; omega
              have hkN : (k : Int) < (N : Int) := by omega
              obtain ⟨s, hs⟩ : ∃ s : Nat, s = k % 3 * 2 := ⟨_, rfl⟩
              have hsi : (k : Int) % 3 * 2 = (s : Int) := by omega
              have hs8 : s < 8 := by omega
              have hvb := shr_bd z s
              have hv0 := hvb.1
              have hv1 := hvb.2
              obtain ⟨q, hq⟩ : ∃ q : Nat, q = ((z.toNat : Int) / 2 ^ s % 4).toNat := ⟨_, rfl⟩
              have hq4 : q < 4 := by omega
              have hand : bits .and .i64 ((z.toNat : Int) / 2 ^ s) 3 = (q : Int) := by rw [andI3 _ hvb]; omega
              have hqi : (q : Int) < 4 := by omega
              obtain ⟨u, hu⟩ := four_at wr 255 255 x 251 q hq4 #[.int .u8 255, .int .u8 255, .int .u8 (x.toNat : Int), .int .u8 251] rfl
              have fk : (wr.alloc (.cells #[.int .u8 255, .int .u8 255, .int .u8 (x.toNat : Int), .int .u8 251] 5)).frozen? ⟨gb, k, none⟩ = false := (BB.out.alloc _).frozen _
              have ck : (wr.alloc (.cells #[.int .u8 255, .int .u8 255, .int .u8 (x.toNat : Int), .int .u8 251] 5)).cell? ⟨gb, k, none⟩ = some (.int .u8 ((b.getD k 0).toNat : Int)) := bytes_cell (BB.out.alloc _) (by rw [LB.out]; exact hlt)
              have BB2 : Hid (Blk ((wr.alloc (.cells #[.int .u8 255, .int .u8 255, .int .u8 (x.toNat : Int), .int .u8 251] 5)).setCell ⟨gb, k, none⟩ (.int .u8 (u.toNat : Int))) gb 5 ((b.set k u).map cellOf)) := bytes_put (BB.out.alloc _) u
              have BK2 : Hid (Blk ((wr.alloc (.cells #[.int .u8 255, .int .u8 255, .int .u8 (x.toNat : Int), .int .u8 251] 5)).setCell ⟨gb, k, none⟩ (.int .u8 (u.toNat : Int))) gk 28 (key.map cellOf)) := (BK.out.alloc _).far (by show gk ≠ gb; omega) _
              have WW2 : Hid (Below w.heap.size w ((wr.alloc (.cells #[.int .u8 255, .int .u8 255, .int .u8 (x.toNat : Int), .int .u8 251] 5)).setCell ⟨gb, k, none⟩ (.int .u8 (u.toNat : Int)))) := (WW.out.alloc WW.out.size _).setCell (by show w.heap.size ≤ gb; omega) _
              have LB2 : Hid ((b.set k u).length = N) := by unfold Hid; rw [List.length_set, LB.out]
              clear hs hq hvb
              go_wp2_with fail
              go_roundw
              case rel => exact ⟨k + 1, _, by omega, by go_num, LB2, BK2, BB2, WW2⟩
              case measure => simp [intOf]; omega
            · obtain rfl : k = N := by omega
              have hlb : decide ((k : Int) < (k : Int)) = false := by simp
              obtain ⟨T, hT⟩ : ∃ T, T = (Pol.tag key b).map cellOf := ⟨_, rfl⟩
              obtain ⟨kc, hkc⟩ : ∃ c, c = key.map cellOf := ⟨_, rfl⟩
              rw [← hkc] at BK
              have RB : Hid (∀ W : World, Blk W gb 5 (b.map cellOf) → Rd W (some ⟨gb, 0, none⟩) k k b) := fun W hB => Rd.of_block hB LB.out (Nat.le_refl _) (by unfold maxLen; omega) (fun j hj => by
                rw [Nat.zero_add]
                simp [List.getD_eq_getElem?_getD, List.getElem?_eq_getElem (show j < b.length by rw [LB.out]; exact hj)])
              have CP : Hid (∀ W, Rd W (some ⟨gb, 0, none⟩) k k b → Calls Tryd.prog 24 #[.agg kc.toArray, .slice (some ⟨gb, 0, none⟩) k k] W fun e w' => e = .returned (.agg T.toArray) ∧ Below W.heap.size W w') := fun W h => by rw [hkc, hT]; exact ptag_any key LL.out h
              have CR : Hid (∀ W, Rd W (some ⟨gb, 0, none⟩) k k b → Calls Tryd.prog 25 #[.agg kc.toArray, .slice (some ⟨gb, 0, none⟩) k k] W fun e w' => e = .returned (.agg T.toArray) ∧ Below W.heap.size W w') := fun W h => by rw [hkc, hT]; exact rtag_any key LL.out h (by omega)
              have HEQ : Hid (∀ W, (Op.equalIn 10000 37 (.agg T.toArray) (.agg T.toArray)).run Tryd.prog W = .ok true W) := fun W => equal16 hT (tag_length key b) W
              have IK : Hid ((Tryd.prog.info? 28).map (·.size) = some kc.length) := by unfold Hid; rw [hkc, List.length_map, LL.out]; kernel_rfl
              clear hT hkc
              go_upto_region 18 with (fail)
              refine wp_region_any (by kernel_rfl) ?_
              change wpAny _ _ _ _ _ _ _ (World.drew _)
              have D1 : Hid (Blk wr.drew gk 28 kc) := BK.out.drew
              have D2 : Hid (Blk wr.drew gb 5 (b.map cellOf)) := BB.out.drew
              have DW : Hid (Below w.heap.size w wr.drew) := WW.out.drew
              clear BK BB WW
              generalize wr.drew = w5 at *
              refine wpAny_take (i := 1) (oi := ?oi5) (v := .slice (some ⟨gb, 0, none⟩) k k) ?hi5 (by kernel_rfl) (by kernel_rfl) (by kernel_rfl) ?hQ5 ?hy5 ?rest5
              case hi5 => simp only [List.getElem?_toArray, List.getElem?_cons_succ, List.getElem?_cons_zero]; rfl
              case hQ5 => exact fun _ _ _ h => h
              case hy5 => exact Or.inl ⟨by rfl, by intro w; go_simp⟩
              try simp only [Act.put, List.setIfInBounds_toArray, List.set_cons_zero, List.set_cons_succ]
              refine wpAny_take (i := 4) (oi := ?oi6) (v := .slice (some ⟨gb, 0, none⟩) k k) ?hi6 (by kernel_rfl) (by kernel_rfl) (by kernel_rfl) ?hQ6 ?hy6 ?rest6
              case hi6 => simp only [List.getElem?_toArray, List.getElem?_cons_succ, List.getElem?_cons_zero]; rfl
              case hQ6 => exact fun _ _ _ h => h
              case hy6 => exact Or.inl ⟨by rfl, by intro w; go_simp⟩
              try simp only [Act.put, List.setIfInBounds_toArray, List.set_cons_zero, List.set_cons_succ]
              refine phase (fun i => if i = 2 then [0] else if i = 5 then [3] else []) (fun d a w' => ∃ x65 x67 x68 x70 : Value, a = { tmps := #[.int .i64 (k : Int), .int .u8 (x.toNat : Int), .int .u8 (y.toNat : Int), .int .u8 (z.toNat : Int), undef, undef, undef, undef, .bool false, .bool true, .pointer (some ⟨gk, 0, none⟩), .slice (some ⟨gb, 0, none⟩) k k, u12, u13, .bool true, .bool true, .bool false, .int .i64 (k : Int), .bool false, .bool false, .int .i64 (k : Int), .bool false, .bool false, .int .i64 (k : Int), .slice (some ⟨gb, 0, none⟩) k k, .int .i64 32, .bool false, u27, u28, u29, u30, u31, u32, u33, u34, u35, u36, u37, u38, u39, u40, u41, u42, u43, .slice (some ⟨gb, 0, none⟩) k k, .int .i64 (k : Int), .int .i64 (k : Int), .bool false, u48, u49, u50, u51, u52, u53, u54, u55, u56, u57, u58, u59, u60, u61, u62, u63, u64, x65, .slice (some ⟨gb, 0, none⟩) k k, x67, x68, .slice (some ⟨gb, 0, none⟩) k k, x70, undef], defers := [] } ∧ Hid (Below w5.heap.size w5 w')
                ∧ (d 0 = true → x65 = .agg kc.toArray) ∧ (d 2 = true → x67 = .agg T.toArray) ∧ (d 3 = true → x68 = .agg kc.toArray) ∧ (d 5 = true → x70 = .agg T.toArray)) [0, 2, 3, 5] ?step 2 4 [0, 2, 3, 5] _ _ _ rfl (by decide) (fun _ h => h) (by kernel_rfl) ?init ?fin
              case init =>
                refine ⟨_, _, _, _, rfl, Below.refl _ _, ?_, ?_, ?_, ?_⟩ <;> (intro h; exact absurd h (by decide))
              case step =>
                intro i hi d a w6 hI hdi hdeps
                obtain ⟨x65, x67, x68, x70, rfl, BW6, h0, h2, h3, h5⟩ := hI
                have hs6 := BW6.out.size
                simp only [List.mem_cons, List.not_mem_nil, or_false] at hi
                rcases hi with rfl | rfl | rfl | rfl
                · refine wpOp_step (o := ?os1) ?hos1 (fun K hK => ?_)
                  case hos1 => simp only [List.getElem?_toArray, List.getElem?_cons_succ, List.getElem?_cons_zero]; rfl
                  refine step_loadL rfl 28 (.tmp 10) rfl gk 0 rfl kc _ Tryd.underlying28 rfl IK.out (D1.out.below BW6.out D1.out.lt).cells (hK _ _ ?_)
                  clear hK K
                  try simp only [Act.put, List.setIfInBounds_toArray, List.set_cons_zero, List.set_cons_succ]
                  exact ⟨_, x67, x68, x70, rfl, BW6, fun _ => rfl, fun h => h2 (by simpa using h), fun h => h3 (by simpa using h), fun h => h5 (by simpa using h)⟩
                · obtain rfl := h0 (hdeps 0 (by simp))
                  refine wpOp_step (o := ?os2) ?hos2 (fun K hK => ?_)
                  case hos2 => simp only [List.getElem?_toArray, List.getElem?_cons_succ, List.getElem?_cons_zero]; rfl
                  go_simp
                  refine (CP.out w6 (RB.out w6 (D2.out.below BW6.out D2.out.lt))).mono ?_
                  rintro e w7 ⟨rfl, hX⟩
                  refine hK _ _ ?_
                  clear hK K
                  try simp only [Act.put, List.setIfInBounds_toArray, List.set_cons_zero, List.set_cons_succ]
                  exact ⟨_, _, x68, x70, rfl, BW6.out.trans (hX.mono hs6), fun _ => rfl, fun _ => rfl, fun h => h3 (by simpa using h), fun h => h5 (by simpa using h)⟩
                · refine wpOp_step (o := ?os3) ?hos3 (fun K hK => ?_)
                  case hos3 => simp only [List.getElem?_toArray, List.getElem?_cons_succ, List.getElem?_cons_zero]; rfl
                  refine step_loadL rfl 28 (.tmp 10) rfl gk 0 rfl kc _ Tryd.underlying28 rfl IK.out (D1.out.below BW6.out D1.out.lt).cells (hK _ _ ?_)
                  clear hK K
                  try simp only [Act.put, List.setIfInBounds_toArray, List.set_cons_zero, List.set_cons_succ]
                  exact ⟨x65, x67, _, x70, rfl, BW6, fun h => h0 (by simpa using h), fun h => h2 (by simpa using h), fun _ => rfl, fun h => h5 (by simpa using h)⟩
                · obtain rfl := h3 (hdeps 3 (by simp))
                  refine wpOp_step (o := ?os4) ?hos4 (fun K hK => ?_)
                  case hos4 => simp only [List.getElem?_toArray, List.getElem?_cons_succ, List.getElem?_cons_zero]; rfl
                  go_simp
                  refine (CR.out w6 (RB.out w6 (D2.out.below BW6.out D2.out.lt))).mono ?_
                  rintro e w7 ⟨rfl, hX⟩
                  refine hK _ _ ?_
                  clear hK K
                  try simp only [Act.put, List.setIfInBounds_toArray, List.set_cons_zero, List.set_cons_succ]
                  exact ⟨x65, x67, _, _, rfl, BW6.out.trans (hX.mono hs6), fun h => h0 (by simpa using h), fun h => h2 (by simpa using h), fun _ => rfl, fun _ => rfl⟩
              case fin =>
                intro a w6 hI
                obtain ⟨x65, x67, x68, x70, rfl, BW6, h0, h2, h3, h5⟩ := hI
                obtain rfl := h2 (by decide)
                obtain rfl := h5 (by decide)
                have W6 := Lib.hid (DW.out.trans (BW6.out.mono DW.out.size))
                have heq := HEQ.out
                clear h0 h2 h3 h5 CP CR BW6
                dsimp only
                refine wpAny_take (i := 6) (oi := ?oi7) (v := .bool true) ?hi7 (by kernel_rfl) (by kernel_rfl) (by kernel_rfl) ?hQ7 ?hy7 ?rest7
                case hi7 => simp only [List.getElem?_toArray, List.getElem?_cons_succ, List.getElem?_cons_zero]; rfl
                case hQ7 => exact fun _ _ _ h => h
                case hy7 => exact Or.inl ⟨by rfl, by intro w; go_simp⟩
                try simp only [Act.put, List.setIfInBounds_toArray, List.set_cons_zero, List.set_cons_succ]
                refine wpAny_take (i := 7) (oi := ?oi8) (v := .bool true) ?hi8 (by kernel_rfl) (by kernel_rfl) (by kernel_rfl) ?hQ8 ?hy8 ?rest8
                case hi8 => simp only [List.getElem?_toArray, List.getElem?_cons_succ, List.getElem?_cons_zero]; rfl
                case hQ8 => exact fun _ _ _ h => h
                case hy8 => exact Or.inl ⟨by rfl, by intro w; go_simp⟩
                try simp only [Act.put, List.setIfInBounds_toArray, List.set_cons_zero, List.set_cons_succ]
                refine wpAny_done (by kernel_rfl) ?_ _
                clear heq
                go_wp2_with fail
                go_ret
                exact ⟨rfl, W6.out⟩
end Go.Proofs.YtknpngeaodlmhaaDoor.polyEdges
