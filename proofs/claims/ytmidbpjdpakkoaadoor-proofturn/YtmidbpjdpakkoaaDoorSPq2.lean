import Derived.Test.YtmidbpjdpakkoaaDoorSPq1
import Derived.Test.YtmidbpjdpakkoaaDoorSTup
namespace Go.Proofs.YtmidbpjdpakkoaaDoor
set_option linter.unusedVariables false
set_option linter.unusedSimpArgs false
set_option maxRecDepth 100000
open Go.RowKit
set_option maxRecDepth 100000 in
set_option maxHeartbeats 2000000 in
theorem pclimb_any {w : World} (hg : Gl w) {A : Option Addr} {n c : Nat} {l : List (List UInt8)} (hr : Rd2 w 32 A n c (hashes l)) (hl : ∀ x ∈ l, x.length = 32) (hn : n ≤ 256) {e0 k : List UInt8} (he : e0.length = 32) (hk : k.length = 32) : Calls Tryd.prog 47 #[hv e0, hv k, .slice A n c] w fun e w' => e = .returned (hv (Tm.up e0 k 0 l)) ∧ Below w.heap.size w w' := by
  have hln : l.length = n := by rw [← hr.len]; simp [hashes]
  have HR := Lib.hid hr
  have HL := Lib.hid hl
  have HI := Lib.hid (hash_info hk)
  have CB : Hid (∀ (dp : Nat) (W : World), dp < 256 → Calls Tryd.prog 55 #[hv k, .int .i64 (dp : Int)] W fun e w' => e = .returned (.int .i64 (bitI k dp)) ∧ Below W.heap.size W w') := fun dp W hd => pbit_any hk hd W
  have CN : Hid (∀ (a b : List UInt8) (W : World), Below w.heap.size w W → a.length = 32 → b.length = 32 → Calls Tryd.prog 35 #[hv a, hv b] W fun e w' => e = .returned (hv (Tm.node a b)) ∧ Below W.heap.size W w') := fun a b W hW ha hb => tnode_any (hg.below hW hg.size) ha hb
  have HUL : Hid (∀ m, (Tm.up e0 k m (l.drop m)).length = 32) := fun m => Tm.up_length he _ _
  unfold hv at CB CN ⊢
  obtain ⟨w1, hw1⟩ : ∃ w1, w1 = ((w.alloc (.cells (e0.map cellOf).toArray 30)).alloc (.cells (k.map cellOf).toArray 30)).alloc (.cells (List.replicate 32 (Value.int .u8 0)).toArray 30) := ⟨_, rfl⟩
  have X1 : Hid (Below w.heap.size w w1) := by unfold Hid; rw [hw1]; exact (((Below.refl _ _).alloc (Nat.le_refl _) _).alloc (by simp) _).alloc (by simp; omega) _
  have BE : Hid (Blk w1 w.heap.size 30 ((Tm.up e0 k n (l.drop n)).map cellOf)) := by unfold Hid; rw [← hln, List.drop_length, Tm.up, hw1]; exact ((Blk.new w 30 _).alloc _).alloc _
  have BL : Hid (Blk w1 (w.heap.size + 1) 30 (k.map cellOf)) := by unfold Hid; rw [hw1]; exact (Blk.at_new _ _ 30 _ _ rfl (by simp)).alloc _
  have BZ : Hid (Blk w1 (w.heap.size + 1 + 1) 30 (List.replicate 32 (Value.int .u8 0))) := by unfold Hid; rw [hw1]; exact Blk.at_new _ _ 30 _ _ rfl (by simp)
  obtain ⟨L, hL⟩ : ∃ L, L = k.map cellOf := ⟨_, rfl⟩
  obtain ⟨E, hE⟩ : ∃ L, L = e0.map cellOf := ⟨_, rfl⟩
  rw [← hL] at CB HI BL hw1 ⊢
  rw [← hE] at hw1 ⊢
  obtain ⟨Z, hZ⟩ : ∃ Z, Z = List.replicate 32 (Value.int .u8 0) := ⟨_, rfl⟩
  have HZL : Hid (Z.length = 32) := by unfold Hid; rw [hZ]; rfl
  rw [← hZ] at BZ
  clear hL hE hr hl he
  go_enter Tryd.func47, Tryd.ntmps47
  go_upto_region 1 with (fail)
  change Code.wp _ _ _ _ (((w.alloc (.cells E.toArray 30)).alloc (.cells L.toArray 30)).alloc (.cells (List.replicate 32 (Value.int .u8 0)).toArray 30))
  rw [← hw1]
  clear hZ hw1
  go_wp2_with fail
  go_loopw [7] (fun i wr => ∃ m : Nat, m ≤ n ∧ i = .int .i64 ((m : Int) - 1) ∧ Hid (Blk wr w.heap.size 30 ((Tm.up e0 k m (l.drop m)).map cellOf)) ∧ Hid (Blk wr (w.heap.size + 1) 30 L) ∧ Hid (Blk wr (w.heap.size + 1 + 1) 30 Z) ∧ Hid (Below w.heap.size w wr)) (fun i _ => (intOf i + 1).toNat)
  case atStart => exact ⟨n, Nat.le_refl _, by go_num, BE, BL, BZ, X1⟩
  case round =>
    clear BE BL BZ X1 w1
    obtain ⟨m, hm, rfl, BE, BL, BZ, W1⟩ := hrel
    cases m with
    | zero =>
      have e0' : ((0 : Nat) : Int) - 1 = -1 := rfl
      rw [e0']
      have hl0 := HUL.out 0
      rw [List.drop_zero] at BE hl0
      have HI0 := Lib.hid (hash_info hl0)
      have HO0 := Lib.hid (cells_u8 (Tm.up e0 k 0 l))
      have HN0 : Hid (Z.length = ((Tm.up e0 k 0 l).map cellOf).length) := by unfold Hid; rw [List.length_map, hl0, HZL.out]
      obtain ⟨D, hD⟩ : ∃ D, D = (Tm.up e0 k 0 l).map cellOf := ⟨_, rfl⟩
      have HD := Lib.hid hD
      rw [← hD] at BE HI0 HO0 HN0
      have hle : w.heap.size ≤ w.heap.size + 1 + 1 := by omega
      clear hD hl0 e0'
      go_wp2_with (first
        | (with_reducible refine load_law rfl 30 (.tmp 3) rfl w.heap.size 0 rfl D _ Tryd.underlying30 rfl HI0.out BE.out.cells ?_)
        | ((with_reducible refine storeGen_law rfl 30 (.tmp 6) (.tmp 31) rfl (w.heap.size + 1 + 1) rfl D rfl 30 Z HI0.out HN0.out HO0.out w.heap.size w BZ.out W1.out hle ?_); intro w9 B9 W9))
      exact bodyPost_ret (results_cell_row rfl _ _ (w.heap.size + 1 + 1) 30 D.toArray (0, 0) _ rfl B9.out Tryd.underlying30 rfl (by rw [HI0.out]; simp)) rfl ⟨by rw [HD.out], W9.out⟩
    | succ j =>
      have ej : ((j + 1 : Nat) : Int) - 1 = (j : Int) := by omega
      rw [ej]
      have hjl : j < l.length := by omega
      have hjn : j < n := by omega
      obtain ⟨q, f0, rfl, hq, hZa, hx⟩ := rd2_hash HR.out hjl
      obtain ⟨o1, ho1⟩ : ∃ o, o = f0 + j * 32 := ⟨_, rfl⟩
      have hi := fun W => index_hash q f0 n c j hjn W
      rw [← ho1] at hi hx
      have hsl := HL.out l[j] (List.getElem_mem hjl)
      have HIS := Lib.hid (hash_info hsl)
      have hul := HUL.out (j + 1)
      have HIE := Lib.hid (hash_info hul)
      have CD := Lib.hid fun W => CB.out j W (by omega)
      have C1 := Lib.hid fun W (hW : Below w.heap.size w W) => CN.out (Tm.up e0 k (j + 1) (l.drop (j + 1))) l[j] W hW hul hsl
      have C2 := Lib.hid fun W (hW : Below w.heap.size w W) => CN.out l[j] (Tm.up e0 k (j + 1) (l.drop (j + 1))) W hW hsl hul
      have HST := Lib.hid (up_step (e := e0) (k := k) hjl)
      have hnl1 := Tm.node_length (Tm.up e0 k (j + 1) (l.drop (j + 1))) l[j]
      have hnl2 := Tm.node_length l[j] (Tm.up e0 k (j + 1) (l.drop (j + 1)))
      have HIN1 := Lib.hid (hash_info hnl1)
      have HIN2 := Lib.hid (hash_info hnl2)
      have HON1 := Lib.hid (cells_u8 (Tm.node (Tm.up e0 k (j + 1) (l.drop (j + 1))) l[j]))
      have HON2 := Lib.hid (cells_u8 (Tm.node l[j] (Tm.up e0 k (j + 1) (l.drop (j + 1)))))
      have HNN1 : Hid (((Tm.up e0 k (j + 1) (l.drop (j + 1))).map cellOf).length = ((Tm.node (Tm.up e0 k (j + 1) (l.drop (j + 1))) l[j]).map cellOf).length) := by unfold Hid; rw [List.length_map, List.length_map, hul, hnl1]
      have HNN2 : Hid (((Tm.up e0 k (j + 1) (l.drop (j + 1))).map cellOf).length = ((Tm.node l[j] (Tm.up e0 k (j + 1) (l.drop (j + 1)))).map cellOf).length) := by unfold Hid; rw [List.length_map, List.length_map, hul, hnl2]
      obtain ⟨S, hS⟩ : ∃ S, S = l[j].map cellOf := ⟨_, rfl⟩
      obtain ⟨EE, hEE⟩ : ∃ S, S = (Tm.up e0 k (j + 1) (l.drop (j + 1))).map cellOf := ⟨_, rfl⟩
      obtain ⟨D1, hD1⟩ : ∃ S, S = (Tm.node (Tm.up e0 k (j + 1) (l.drop (j + 1))) l[j]).map cellOf := ⟨_, rfl⟩
      obtain ⟨D2, hD2⟩ : ∃ S, S = (Tm.node l[j] (Tm.up e0 k (j + 1) (l.drop (j + 1)))).map cellOf := ⟨_, rfl⟩
      rw [← hS] at HIS C1 C2 hx
      rw [← hEE] at HIE C1 C2 HNN1 HNN2 BE
      rw [← hD1] at C1 HIN1 HON1 HNN1
      rw [← hD2] at C2 HIN2 HON2 HNN2
      have ED1 := Lib.hid hD1
      have ED2 := Lib.hid hD2
      have HX := Lib.hid hx
      clear hS hEE hD1 hD2 hx hul hsl hnl1 hnl2 ho1 hZa ej
      obtain ⟨kk, hkk⟩ : ∃ kk : Int, kk = bitI k j := ⟨_, rfl⟩
      have HKK := Lib.hid hkk
      rw [← hkk] at CD
      clear hkk
      cases hb : Tm.bit k j with
      | false =>
        obtain rfl : kk = 0 := by rw [HKK.out]; simp [bitI, hb]
        have HST' : Hid (Tm.up e0 k j (l.drop j) = Tm.node (Tm.up e0 k (j + 1) (l.drop (j + 1))) l[j]) := by unfold Hid; rw [HST.out, hb]; rfl
        clear hb
        go_upto_region 5 with (first
          | (with_reducible refine load_law rfl 30 (.tmp 4) rfl (w.heap.size + 1) 0 rfl L _ Tryd.underlying30 rfl HI.out BL.out.cells ?_)
          | (go_at_call 55; refine (CD.out wr).mono ?_; rintro e w3 ⟨rfl, hX⟩; have X3 := Lib.hid hX; clear hX))
        have h3s := X3.out.size
        replace BE := Lib.hid (BE.out.below X3.out BE.out.lt).drew
        replace BL := Lib.hid (BL.out.below X3.out BL.out.lt).drew
        replace BZ := Lib.hid (BZ.out.below X3.out BZ.out.lt).drew
        replace W1 : Hid (Below w.heap.size w w3.drew) := (W1.out.trans (X3.out.mono W1.out.size)).drew
        refine wp_region_any (by kernel_rfl) ?_
        change wpAny _ _ _ _ _ _ _ (World.drew _)
        generalize w3.drew = wd at *
        refine wpAny_take (i := 1) (oi := ?oi1) (v := .slice (some ⟨q, f0, none⟩) n c) ?hi1 (by kernel_rfl) (by kernel_rfl) (by kernel_rfl) ?hQ1 ?hy1 ?rest1
        case hi1 => simp only [zge]; rfl
        case hQ1 => exact fun _ _ _ h => h
        case hy1 => exact Or.inl ⟨by rfl, by intro w; go_simp⟩
        try simp only [zpt]
        refine wpAny_take (i := 2) (oi := ?oi2) (v := .int .i64 (j : Int)) ?hi2 (by kernel_rfl) (by kernel_rfl) (by kernel_rfl) ?hQ2 ?hy2 ?rest2
        case hi2 => simp only [zge]; rfl
        case hQ2 => exact fun _ _ _ h => h
        case hy2 => exact Or.inl ⟨by rfl, by intro w; go_simp⟩
        try simp only [zpt]
        refine wpAny_take (i := 3) (oi := ?oi3) (v := .pointer (some ⟨q, o1, none⟩)) ?hi3 (by kernel_rfl) (by kernel_rfl) (by kernel_rfl) ?hQ3 ?hy3 ?rest3
        case hi3 => simp only [zge]; rfl
        case hQ3 => exact fun _ _ _ h => h
        case hy3 => exact Or.inl ⟨by rfl, by intro w; go_simp⟩
        try simp only [zpt]
        refine phaseL (fun i => []) (fun d a w' => ∃ x19 x23 : Value, a = { tmps := #[.agg E.toArray, .agg L.toArray, .slice (some ⟨q, f0, none⟩) n c, .pointer (some ⟨w.heap.size, 0, none⟩), .pointer (some ⟨w.heap.size + 1, 0, none⟩), undef, .pointer (some ⟨w.heap.size + 1 + 1, 0, none⟩), .int .i64 (j : Int), .slice (some ⟨q, f0, none⟩) n c, .int .i64 (n : Int), .int .i64 ((n : Int) - 1), .int .i64 (j : Int), .bool true, u13, u14, .agg L.toArray, .int .i64 (j : Int), .int .i64 0, .bool true, x19, .slice (some ⟨q, f0, none⟩) n c, .int .i64 (j : Int), .pointer (some ⟨q, o1, none⟩), x23, u24, u25, u26, u27, u28, u29, u30, undef], defers := [] } ∧ Hid (Below wd.heap.size wd w') ∧ (d 0 = true → x19 = .agg EE.toArray) ∧ (d 4 = true → x23 = .agg S.toArray)) [0, 4] ?step4 2 2 [0, 4] _ _ _ rfl (by decide) (fun _ h => h) (Fits.of (by kernel_rfl)) ?init4 ?fin4
        case init4 => refine ⟨_, _, rfl, Below.refl _ _, ?_, ?_⟩ <;> (intro h; exact absurd h (by decide))
        case step4 =>
          intro i hi d a v4 hI hdi hdeps
          obtain ⟨x19, x23, rfl, BW, h0, h4⟩ := hI
          have hsw := BW.out.size
          simp only [List.mem_cons, List.not_mem_nil, or_false] at hi
          rcases hi with rfl | rfl
          · refine wpOp_step (o := ?os5) ?hos5 (fun K hK => ?_)
            case hos5 => simp only [zge]; rfl
            refine step_loadW rfl 30 (.tmp 3) rfl w.heap.size 0 rfl EE _ Tryd.underlying30 rfl HIE.out (BE.out.below BW.out BE.out.lt).cells (hK _ _ ?_)
            clear hK K
            try simp only [zpt]
            exact ⟨_, _, rfl, BW, fun _ => rfl, fun a => by first | exact h4 (by simpa using a) | rfl⟩
          · refine wpOp_step (o := ?os6) ?hos6 (fun K hK => ?_)
            case hos6 => simp only [zge]; rfl
            refine step_loadW rfl 30 (.tmp 22) rfl q o1 rfl S _ Tryd.underlying30 rfl HIS.out (fun i x hx => (World.cell?_of_block (a := ⟨q, o1 + i, none⟩) ((W1.out.trans (BW.out.mono W1.out.size)).block q hq)).trans (HX.out i x hx)) (hK _ _ ?_)
            clear hK K
            try simp only [zpt]
            exact ⟨_, _, rfl, BW, fun a => by first | exact h0 (by simpa using a) | rfl, fun _ => rfl⟩
        case fin4 =>
          intro a v4 hI
          obtain ⟨x19, x23, rfl, BW, h0, h4⟩ := hI
          obtain rfl := h0 (by decide)
          obtain rfl := h4 (by decide)
          have BE3 := Lib.hid (BE.out.below BW.out BE.out.lt)
          have BL3 := Lib.hid (BL.out.below BW.out BL.out.lt)
          have BZ3 := Lib.hid (BZ.out.below BW.out BZ.out.lt)
          have W3 := Lib.hid (W1.out.trans (BW.out.mono W1.out.size))
          clear BE BL BZ W1 BW
          try dsimp only
          refine wpAny_ready (rs := [5]) (by kernel_rfl) (by simp) ?_
          refine AllReady.cons (o := ?p7) ?q7 (fun K hK => ?_) AllReady.nil
          case q7 => simp only [zge]; rfl
          go_simp
          refine (C1.out v4 W3.out).mono ?_
          rintro e w5 ⟨rfl, hX⟩
          have BE5 := Lib.hid (BE3.out.below hX BE3.out.lt)
          have BL5 := Lib.hid (BL3.out.below hX BL3.out.lt)
          have BZ5 := Lib.hid (BZ3.out.below hX BZ3.out.lt)
          have W5 := Lib.hid (W3.out.trans (hX.mono W3.out.size))
          clear hX
          refine hK _ _ ?_
          clear hK K
          try simp only [zpt]
          refine wpAny_ready (rs := [6]) (by kernel_rfl) (by simp) ?_
          refine AllReady.cons (o := ?p8) ?q8 (fun K hK => ?_) AllReady.nil
          case q8 => simp only [zge]; rfl
          refine step_storeAll rfl 30 (.tmp 3) (.tmp 24) rfl w.heap.size rfl D1 rfl 30 EE BE5.out HIN1.out HNN1.out HON1.out (hK _ _ ?_)
          clear hK K
          try simp only [zpt]
          have BE6 : Hid (Blk (w5.setRow w.heap.size D1.toArray) w.heap.size 30 ((Tm.up e0 k j (l.drop j)).map cellOf)) := by
            unfold Hid
            rw [HST'.out, ← ED1.out]
            exact BE5.out.row
          have BL6 : Hid (Blk (w5.setRow w.heap.size D1.toArray) (w.heap.size + 1) 30 L) := BL5.out.rowFar (by omega) _
          have BZ6 : Hid (Blk (w5.setRow w.heap.size D1.toArray) (w.heap.size + 1 + 1) 30 Z) := BZ5.out.rowFar (by omega) _
          have W6 : Hid (Below w.heap.size w (w5.setRow w.heap.size D1.toArray)) := below_setRow W5.out (Nat.le_refl _) _
          generalize w5.setRow w.heap.size D1.toArray = w6 at *
          clear BE3 BL3 BZ3 W3 BE5 BL5 BZ5 W5
          refine wpAny_done (by kernel_rfl) ?_ _
          go_wp2_with fail
          go_roundw
          case rel => exact ⟨j, by omega, rfl, BE6, BL6, BZ6, W6⟩
          case measure => simp [intOf]
      | true =>
        obtain rfl : kk = 1 := by rw [HKK.out]; simp [bitI, hb]
        have HST' : Hid (Tm.up e0 k j (l.drop j) = Tm.node l[j] (Tm.up e0 k (j + 1) (l.drop (j + 1)))) := by unfold Hid; rw [HST.out, hb]; rfl
        clear hb
        go_upto_region 6 with (first
          | (with_reducible refine load_law rfl 30 (.tmp 4) rfl (w.heap.size + 1) 0 rfl L _ Tryd.underlying30 rfl HI.out BL.out.cells ?_)
          | (go_at_call 55; refine (CD.out wr).mono ?_; rintro e w3 ⟨rfl, hX⟩; have X3 := Lib.hid hX; clear hX))
        have h3s := X3.out.size
        replace BE := Lib.hid (BE.out.below X3.out BE.out.lt).drew
        replace BL := Lib.hid (BL.out.below X3.out BL.out.lt).drew
        replace BZ := Lib.hid (BZ.out.below X3.out BZ.out.lt).drew
        replace W1 : Hid (Below w.heap.size w w3.drew) := (W1.out.trans (X3.out.mono W1.out.size)).drew
        refine wp_region_any (by kernel_rfl) ?_
        change wpAny _ _ _ _ _ _ _ (World.drew _)
        generalize w3.drew = wd at *
        refine wpAny_take (i := 0) (oi := ?oi9) (v := .slice (some ⟨q, f0, none⟩) n c) ?hi9 (by kernel_rfl) (by kernel_rfl) (by kernel_rfl) ?hQ9 ?hy9 ?rest9
        case hi9 => simp only [zge]; rfl
        case hQ9 => exact fun _ _ _ h => h
        case hy9 => exact Or.inl ⟨by rfl, by intro w; go_simp⟩
        try simp only [zpt]
        refine wpAny_take (i := 1) (oi := ?oi10) (v := .int .i64 (j : Int)) ?hi10 (by kernel_rfl) (by kernel_rfl) (by kernel_rfl) ?hQ10 ?hy10 ?rest10
        case hi10 => simp only [zge]; rfl
        case hQ10 => exact fun _ _ _ h => h
        case hy10 => exact Or.inl ⟨by rfl, by intro w; go_simp⟩
        try simp only [zpt]
        refine wpAny_take (i := 2) (oi := ?oi11) (v := .pointer (some ⟨q, o1, none⟩)) ?hi11 (by kernel_rfl) (by kernel_rfl) (by kernel_rfl) ?hQ11 ?hy11 ?rest11
        case hi11 => simp only [zge]; rfl
        case hQ11 => exact fun _ _ _ h => h
        case hy11 => exact Or.inl ⟨by rfl, by intro w; go_simp⟩
        try simp only [zpt]
        refine phaseL (fun i => []) (fun d a w' => ∃ x28 x29 : Value, a = { tmps := #[.agg E.toArray, .agg L.toArray, .slice (some ⟨q, f0, none⟩) n c, .pointer (some ⟨w.heap.size, 0, none⟩), .pointer (some ⟨w.heap.size + 1, 0, none⟩), undef, .pointer (some ⟨w.heap.size + 1 + 1, 0, none⟩), .int .i64 (j : Int), .slice (some ⟨q, f0, none⟩) n c, .int .i64 (n : Int), .int .i64 ((n : Int) - 1), .int .i64 (j : Int), .bool true, u13, u14, .agg L.toArray, .int .i64 (j : Int), .int .i64 1, .bool false, u19, u20, u21, u22, u23, u24, .slice (some ⟨q, f0, none⟩) n c, .int .i64 (j : Int), .pointer (some ⟨q, o1, none⟩), x28, x29, u30, undef], defers := [] } ∧ Hid (Below wd.heap.size wd w') ∧ (d 3 = true → x28 = .agg S.toArray) ∧ (d 4 = true → x29 = .agg EE.toArray)) [3, 4] ?step12 2 2 [3, 4] _ _ _ rfl (by decide) (fun _ h => h) (Fits.of (by kernel_rfl)) ?init12 ?fin12
        case init12 => refine ⟨_, _, rfl, Below.refl _ _, ?_, ?_⟩ <;> (intro h; exact absurd h (by decide))
        case step12 =>
          intro i hi d a v12 hI hdi hdeps
          obtain ⟨x28, x29, rfl, BW, h3, h4⟩ := hI
          have hsw := BW.out.size
          simp only [List.mem_cons, List.not_mem_nil, or_false] at hi
          rcases hi with rfl | rfl
          · refine wpOp_step (o := ?os13) ?hos13 (fun K hK => ?_)
            case hos13 => simp only [zge]; rfl
            refine step_loadW rfl 30 (.tmp 27) rfl q o1 rfl S _ Tryd.underlying30 rfl HIS.out (fun i x hx => (World.cell?_of_block (a := ⟨q, o1 + i, none⟩) ((W1.out.trans (BW.out.mono W1.out.size)).block q hq)).trans (HX.out i x hx)) (hK _ _ ?_)
            clear hK K
            try simp only [zpt]
            exact ⟨_, _, rfl, BW, fun _ => rfl, fun a => by first | exact h4 (by simpa using a) | rfl⟩
          · refine wpOp_step (o := ?os14) ?hos14 (fun K hK => ?_)
            case hos14 => simp only [zge]; rfl
            refine step_loadW rfl 30 (.tmp 3) rfl w.heap.size 0 rfl EE _ Tryd.underlying30 rfl HIE.out (BE.out.below BW.out BE.out.lt).cells (hK _ _ ?_)
            clear hK K
            try simp only [zpt]
            exact ⟨_, _, rfl, BW, fun a => by first | exact h3 (by simpa using a) | rfl, fun _ => rfl⟩
        case fin12 =>
          intro a v12 hI
          obtain ⟨x28, x29, rfl, BW, h3, h4⟩ := hI
          obtain rfl := h3 (by decide)
          obtain rfl := h4 (by decide)
          have BE3 := Lib.hid (BE.out.below BW.out BE.out.lt)
          have BL3 := Lib.hid (BL.out.below BW.out BL.out.lt)
          have BZ3 := Lib.hid (BZ.out.below BW.out BZ.out.lt)
          have W3 := Lib.hid (W1.out.trans (BW.out.mono W1.out.size))
          clear BE BL BZ W1 BW
          try dsimp only
          refine wpAny_ready (rs := [5]) (by kernel_rfl) (by simp) ?_
          refine AllReady.cons (o := ?p15) ?q15 (fun K hK => ?_) AllReady.nil
          case q15 => simp only [zge]; rfl
          go_simp
          refine (C2.out v12 W3.out).mono ?_
          rintro e w5 ⟨rfl, hX⟩
          have BE5 := Lib.hid (BE3.out.below hX BE3.out.lt)
          have BL5 := Lib.hid (BL3.out.below hX BL3.out.lt)
          have BZ5 := Lib.hid (BZ3.out.below hX BZ3.out.lt)
          have W5 := Lib.hid (W3.out.trans (hX.mono W3.out.size))
          clear hX
          refine hK _ _ ?_
          clear hK K
          try simp only [zpt]
          refine wpAny_ready (rs := [6]) (by kernel_rfl) (by simp) ?_
          refine AllReady.cons (o := ?p16) ?q16 (fun K hK => ?_) AllReady.nil
          case q16 => simp only [zge]; rfl
          refine step_storeAll rfl 30 (.tmp 3) (.tmp 30) rfl w.heap.size rfl D2 rfl 30 EE BE5.out HIN2.out HNN2.out HON2.out (hK _ _ ?_)
          clear hK K
          try simp only [zpt]
          have BE6 : Hid (Blk (w5.setRow w.heap.size D2.toArray) w.heap.size 30 ((Tm.up e0 k j (l.drop j)).map cellOf)) := by
            unfold Hid
            rw [HST'.out, ← ED2.out]
            exact BE5.out.row
          have BL6 : Hid (Blk (w5.setRow w.heap.size D2.toArray) (w.heap.size + 1) 30 L) := BL5.out.rowFar (by omega) _
          have BZ6 : Hid (Blk (w5.setRow w.heap.size D2.toArray) (w.heap.size + 1 + 1) 30 Z) := BZ5.out.rowFar (by omega) _
          have W6 : Hid (Below w.heap.size w (w5.setRow w.heap.size D2.toArray)) := below_setRow W5.out (Nat.le_refl _) _
          generalize w5.setRow w.heap.size D2.toArray = w6 at *
          clear BE3 BL3 BZ3 W3 BE5 BL5 BZ5 W5
          refine wpAny_done (by kernel_rfl) ?_ _
          go_wp2_with fail
          go_roundw
          case rel => exact ⟨j, by omega, rfl, BE6, BL6, BZ6, W6⟩
          case measure => simp [intOf]
end Go.Proofs.YtmidbpjdpakkoaaDoor
