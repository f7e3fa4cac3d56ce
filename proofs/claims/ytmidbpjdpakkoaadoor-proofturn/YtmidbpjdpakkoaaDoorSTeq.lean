import Derived.Test.YtmidbpjdpakkoaaDoorSTck
namespace Go.Proofs.YtmidbpjdpakkoaaDoor
set_option linter.unusedVariables false
set_option linter.unusedSimpArgs false
set_option maxRecDepth 100000
open Go.RowKit
set_option maxRecDepth 100000 in
set_option maxHeartbeats 2000000 in
theorem eqproof_same {w : World} {x y : Value} {p : Tm.Prf} (hx : PrfIn w x p) (hy : PrfIn w y p) : Calls Tryd.prog 24 #[x, y] w fun e w' => e = .returned (.bool true) ∧ Below w.heap.size w w' := by
  obtain ⟨A, n, c, rfl, hra, hn⟩ := hx.at_
  obtain ⟨A', n', c', rfl, hrb, hn'⟩ := hy.at_
  have hlab := hx.lab
  have hsum := hx.sum
  have HE := Lib.hid hx.each
  obtain ⟨sides, has, lab, sum⟩ := p
  dsimp only at hlab hsum HE hra hrb ⊢
  have hln : sides.length = n := by rw [← hra.len]; simp [hashes]
  have hln' : sides.length = n' := by rw [← hrb.len]; simp [hashes]
  obtain rfl : n' = n := by omega
  have HRA := Lib.hid hra
  have HRB := Lib.hid hrb
  have IA := Lib.hid (hash_info hlab)
  have IS := Lib.hid (hash_info hsum)
  have EA := Lib.hid fun W => hash_eq lab lab hlab hlab W
  have ES := Lib.hid fun W => hash_eq sum sum hsum hsum W
  have HAL : Hid ((lab.map cellOf).length = 32) := by unfold Hid; rw [List.length_map, hlab]
  obtain ⟨w1, hw1⟩ : ∃ w1, w1 = (w.alloc (.cells (proofL (.slice A n' c) has (lab.map cellOf) (sum.map cellOf)).toArray 38)).alloc (.cells (proofL (.slice A' n' c') has (lab.map cellOf) (sum.map cellOf)).toArray 38) := ⟨_, rfl⟩
  have X1 : Hid (Below w.heap.size w w1) := by unfold Hid; rw [hw1]; exact ((Below.refl _ _).alloc (Nat.le_refl _) _).alloc (by simp) _
  have B1 : Hid (Blk w1 w.heap.size 38 (proofL (.slice A n' c) has (lab.map cellOf) (sum.map cellOf))) := by unfold Hid; rw [hw1]; exact (Blk.new w 38 _).alloc _
  have B2 : Hid (Blk w1 (w.heap.size + 1) 38 (proofL (.slice A' n' c') has (lab.map cellOf) (sum.map cellOf))) := by unfold Hid; rw [hw1]; exact Blk.at_new _ _ 38 _ _ rfl (by simp)
  have EA1 := Lib.hid fun W => (EA.out W)
  obtain ⟨AC, hAC⟩ : ∃ L, L = lab.map cellOf := ⟨_, rfl⟩
  obtain ⟨SC, hSC⟩ : ∃ L, L = sum.map cellOf := ⟨_, rfl⟩
  rw [← hAC] at HAL IA EA B1 B2 hw1 ⊢
  rw [← hSC] at IS ES B1 B2 hw1 ⊢
  have LA1 := Lib.hid (proof_lab B1.out HAL.out)
  have LS1 := Lib.hid (proof_sum B1.out HAL.out)
  have LA2 := Lib.hid (proof_lab B2.out HAL.out)
  have LS2 := Lib.hid (proof_sum B2.out HAL.out)
  have a0 : w1.cell? ⟨w.heap.size, 0, none⟩ = some (.slice A n' c) := B1.out.cell 0
  have a1 : w1.cell? ⟨w.heap.size, 1, none⟩ = some (.bool has) := B1.out.cell 1
  have b0 : w1.cell? ⟨w.heap.size + 1, 0, none⟩ = some (.slice A' n' c') := B2.out.cell 0
  have b1 : w1.cell? ⟨w.heap.size + 1, 1, none⟩ = some (.bool has) := B2.out.cell 1
  have ea := EA.out
  have es := ES.out
  rw [decide_eq_true rfl] at ea es
  clear hra hrb hAC hSC hx hy EA ES EA1
  go_enter Tryd.func24, Tryd.ntmps24
  go_upto_region 1 with (fail)
  change Code.wp _ _ _ _ ((w.alloc (.cells (proofL (.slice A n' c) has AC SC).toArray 38)).alloc (.cells (proofL (.slice A' n' c') has AC SC).toArray 38))
  rw [← hw1]
  clear hw1
  go_upto_region 3 with (first
    | (with_reducible refine load_when (by kernel_rfl) 30 (.tmp 12) rfl w.heap.size 2 rfl AC _ Tryd.underlying30 rfl IA.out LA1.out ?_)
    | (with_reducible refine load_when (by kernel_rfl) 30 (.tmp 14) rfl (w.heap.size + 1) 2 rfl AC _ Tryd.underlying30 rfl IA.out LA2.out ?_)
    | (with_reducible refine load_when (by kernel_rfl) 30 (.tmp 19) rfl w.heap.size 34 rfl SC _ Tryd.underlying30 rfl IS.out LS1.out ?_)
    | (with_reducible refine load_when (by kernel_rfl) 30 (.tmp 21) rfl (w.heap.size + 1) 34 rfl SC _ Tryd.underlying30 rfl IS.out LS2.out ?_))
  clear a0 a1 b0 b1 ea es LA1 LS1 LA2 LS2
  go_wp2_with fail
  go_loopw [5] (fun i wr => ∃ m : Nat, m ≤ n' ∧ i = .int .i64 (m : Int) ∧ Hid (Blk wr w.heap.size 38 (proofL (.slice A n' c) has AC SC)) ∧ Hid (Blk wr (w.heap.size + 1) 38 (proofL (.slice A' n' c') has AC SC)) ∧ Hid (Below w.heap.size w wr)) (fun i _ => n' - (intOf i).toNat)
  case atStart => exact ⟨0, Nat.zero_le _, rfl, B1, B2, X1⟩
  case round =>
    clear B1 B2 X1 w1
    obtain ⟨m, hm, rfl, B1, B2, W1⟩ := hrel
    have a0 : wr.cell? ⟨w.heap.size, 0, none⟩ = some (.slice A n' c) := B1.out.cell 0
    by_cases hmn : m < n'
    · have hlb : decide ((m : Int) < (n' : Int)) = true := by simp; omega
      have hml : m < sides.length := by omega
      obtain ⟨q, f, rfl, hq, hZa, hx⟩ := rd2_hash HRA.out hml
      obtain ⟨q2, f2, rfl, hq2, hZb, hx2⟩ := rd2_hash HRB.out hml
      obtain ⟨o1, ho1⟩ : ∃ o, o = f + m * 32 := ⟨_, rfl⟩
      obtain ⟨o2, ho2⟩ : ∃ o, o = f2 + m * 32 := ⟨_, rfl⟩
      have hi1 := fun W => index_hash q f n' c m hmn W
      have hi2 := fun W => index_hash q2 f2 n' c' m hmn W
      rw [← ho1] at hi1 hx
      rw [← ho2] at hi2 hx2
      have hsl := HE.out sides[m] (List.getElem_mem hml)
      have ISD := Lib.hid (hash_info hsl)
      have e0 := fun W => hash_eq sides[m] sides[m] hsl hsl W
      rw [decide_eq_true rfl] at e0
      obtain ⟨S, hS⟩ : ∃ S, S = sides[m].map cellOf := ⟨_, rfl⟩
      rw [← hS] at ISD e0 hx hx2
      have HX := Lib.hid hx
      have HX2 := Lib.hid hx2
      clear hS hx hx2 hZa hZb ho1 ho2 hsl
      go_upto_region 6 with (fail)
      clear a0 hlb
      replace B1 := Lib.hid B1.out.drew
      replace B2 := Lib.hid B2.out.drew
      replace W1 := Lib.hid W1.out.drew
      refine wp_region_any (by kernel_rfl) ?_
      change wpAny _ _ _ _ _ _ _ (World.drew _)
      generalize wr.drew = wd at *
      refine wpAny_take (i := 0) (oi := ?oi1) (v := .pointer (some ⟨w.heap.size, 0, none⟩)) ?hi1 (by kernel_rfl) (by kernel_rfl) (by kernel_rfl) ?hQ1 ?hy1 ?rest1
      case hi1 => simp only [zge]; rfl
      case hQ1 => exact fun _ _ _ h => h
      case hy1 => exact Or.inl ⟨by rfl, by intro w; go_simp⟩
      try simp only [zpt]
      refine wpAny_take (i := 2) (oi := ?oi2) (v := .int .i64 (m : Int)) ?hi2 (by kernel_rfl) (by kernel_rfl) (by kernel_rfl) ?hQ2 ?hy2 ?rest2
      case hi2 => simp only [zge]; rfl
      case hQ2 => exact fun _ _ _ h => h
      case hy2 => exact Or.inl ⟨by rfl, by intro w; go_simp⟩
      try simp only [zpt]
      refine wpAny_take (i := 5) (oi := ?oi3) (v := .pointer (some ⟨w.heap.size + 1, 0, none⟩)) ?hi3 (by kernel_rfl) (by kernel_rfl) (by kernel_rfl) ?hQ3 ?hy3 ?rest3
      case hi3 => simp only [zge]; rfl
      case hQ3 => exact fun _ _ _ h => h
      case hy3 => exact Or.inl ⟨by rfl, by intro w; go_simp⟩
      try simp only [zpt]
      refine wpAny_take (i := 7) (oi := ?oi4) (v := .int .i64 (m : Int)) ?hi4 (by kernel_rfl) (by kernel_rfl) (by kernel_rfl) ?hQ4 ?hy4 ?rest4
      case hi4 => simp only [zge]; rfl
      case hQ4 => exact fun _ _ _ h => h
      case hy4 => exact Or.inl ⟨by rfl, by intro w; go_simp⟩
      try simp only [zpt]
      refine phaseL (fun i => if i = 3 then [1] else if i = 4 then [3] else if i = 8 then [6] else if i = 9 then [8] else if i = 10 then [4, 9] else []) (fun d a w' => ∃ x42 x44 x45 x47 x49 x50 x51 : Value, a = { tmps := #[.agg (proofL (.slice (some ⟨q, f, none⟩) n' c) has AC SC).toArray, .agg (proofL (.slice (some ⟨q2, f2, none⟩) n' c') has AC SC).toArray, .pointer (some ⟨w.heap.size, 0, none⟩), .pointer (some ⟨w.heap.size + 1, 0, none⟩), u4, .int .i64 (m : Int), .pointer (some ⟨w.heap.size, 1, none⟩), .bool has, .pointer (some ⟨w.heap.size + 1, 1, none⟩), .bool has, .bool false, .bool false, .pointer (some ⟨w.heap.size, 2, none⟩), .agg AC.toArray, .pointer (some ⟨w.heap.size + 1, 2, none⟩), .agg AC.toArray, .bool false, .bool false, .bool false, .pointer (some ⟨w.heap.size, 34, none⟩), .agg SC.toArray, .pointer (some ⟨w.heap.size + 1, 34, none⟩), .agg SC.toArray, .bool false, .bool false, .bool false, .pointer (some ⟨w.heap.size, 0, none⟩), .slice (some ⟨q, f, none⟩) n' c, .int .i64 (n' : Int), .pointer (some ⟨w.heap.size + 1, 0, none⟩), .slice (some ⟨q2, f2, none⟩) n' c', .int .i64 (n' : Int), .bool false, .bool false, .int .i64 (m : Int), .pointer (some ⟨w.heap.size, 0, none⟩), .slice (some ⟨q, f, none⟩) n' c, .int .i64 (n' : Int), .bool true, u39, u40, .pointer (some ⟨w.heap.size, 0, none⟩), x42, .int .i64 (m : Int), x44, x45, .pointer (some ⟨w.heap.size + 1, 0, none⟩), x47, .int .i64 (m : Int), x49, x50, x51], defers := [] } ∧ Hid (Below wd.heap.size wd w') ∧ (d 1 = true → x42 = .slice (some ⟨q, f, none⟩) n' c) ∧ (d 3 = true → x44 = .pointer (some ⟨q, o1, none⟩)) ∧ (d 4 = true → x45 = .agg S.toArray) ∧ (d 6 = true → x47 = .slice (some ⟨q2, f2, none⟩) n' c') ∧ (d 8 = true → x49 = .pointer (some ⟨q2, o2, none⟩)) ∧ (d 9 = true → x50 = .agg S.toArray) ∧ (d 10 = true → x51 = .bool false)) [1, 3, 4, 6, 8, 9, 10] ?step5 0 7 [1, 3, 4, 6, 8, 9, 10] _ _ _ rfl (by decide) (fun _ h => h) (Fits.of (by kernel_rfl)) ?init5 ?fin5
      case init5 => refine ⟨_, _, _, _, _, _, _, rfl, Below.refl _ _, ?_, ?_, ?_, ?_, ?_, ?_, ?_⟩ <;> (intro h; exact absurd h (by decide))
      case step5 =>
        intro i hi d a v5 hI hdi hdeps
        obtain ⟨x42, x44, x45, x47, x49, x50, x51, rfl, BW, h1, h3, h4, h6, h8, h9, h10⟩ := hI
        have hsw := BW.out.size
        simp only [List.mem_cons, List.not_mem_nil, or_false] at hi
        rcases hi with rfl | rfl | rfl | rfl | rfl | rfl | rfl
        · have c0 : v5.cell? ⟨w.heap.size, 0, none⟩ = some (.slice (some ⟨q, f, none⟩) n' c) := (B1.out.below BW.out B1.out.lt).cell 0
          refine wpOp_step (o := ?os6) ?hos6 (fun K hK => ?_)
          case hos6 => simp only [zge]; rfl
          go_simp
          refine hK _ _ ?_
          clear hK K
          try simp only [zpt]
          exact ⟨_, _, _, _, _, _, _, rfl, BW, fun _ => rfl, fun a => by first | exact h3 (by simpa using a) | rfl, fun a => by first | exact h4 (by simpa using a) | rfl, fun a => by first | exact h6 (by simpa using a) | rfl, fun a => by first | exact h8 (by simpa using a) | rfl, fun a => by first | exact h9 (by simpa using a) | rfl, fun a => by first | exact h10 (by simpa using a) | rfl⟩
        · obtain rfl := h1 (hdeps 1 (by simp))
          refine wpOp_step (o := ?os7) ?hos7 (fun K hK => ?_)
          case hos7 => simp only [zge]; rfl
          go_simp
          refine hK _ _ ?_
          clear hK K
          try simp only [zpt]
          exact ⟨_, _, _, _, _, _, _, rfl, BW, fun a => by first | exact h1 (by simpa using a) | rfl, fun _ => rfl, fun a => by first | exact h4 (by simpa using a) | rfl, fun a => by first | exact h6 (by simpa using a) | rfl, fun a => by first | exact h8 (by simpa using a) | rfl, fun a => by first | exact h9 (by simpa using a) | rfl, fun a => by first | exact h10 (by simpa using a) | rfl⟩
        · obtain rfl := h3 (hdeps 3 (by simp))
          refine wpOp_step (o := ?os8) ?hos8 (fun K hK => ?_)
          case hos8 => simp only [zge]; rfl
          refine step_loadW rfl 30 (.tmp 44) rfl q o1 rfl S _ Tryd.underlying30 rfl ISD.out (fun i y hy => (World.cell?_of_block (a := ⟨q, o1 + i, none⟩) ((W1.out.trans (BW.out.mono W1.out.size)).block q hq)).trans (HX.out i y hy)) (hK _ _ ?_)
          clear hK K
          try simp only [zpt]
          exact ⟨_, _, _, _, _, _, _, rfl, BW, fun a => by first | exact h1 (by simpa using a) | rfl, fun a => by first | exact h3 (by simpa using a) | rfl, fun _ => rfl, fun a => by first | exact h6 (by simpa using a) | rfl, fun a => by first | exact h8 (by simpa using a) | rfl, fun a => by first | exact h9 (by simpa using a) | rfl, fun a => by first | exact h10 (by simpa using a) | rfl⟩
        · have c0 : v5.cell? ⟨w.heap.size + 1, 0, none⟩ = some (.slice (some ⟨q2, f2, none⟩) n' c') := (B2.out.below BW.out B2.out.lt).cell 0
          refine wpOp_step (o := ?os9) ?hos9 (fun K hK => ?_)
          case hos9 => simp only [zge]; rfl
          go_simp
          refine hK _ _ ?_
          clear hK K
          try simp only [zpt]
          exact ⟨_, _, _, _, _, _, _, rfl, BW, fun a => by first | exact h1 (by simpa using a) | rfl, fun a => by first | exact h3 (by simpa using a) | rfl, fun a => by first | exact h4 (by simpa using a) | rfl, fun _ => rfl, fun a => by first | exact h8 (by simpa using a) | rfl, fun a => by first | exact h9 (by simpa using a) | rfl, fun a => by first | exact h10 (by simpa using a) | rfl⟩
        · obtain rfl := h6 (hdeps 6 (by simp))
          refine wpOp_step (o := ?os10) ?hos10 (fun K hK => ?_)
          case hos10 => simp only [zge]; rfl
          go_simp
          refine hK _ _ ?_
          clear hK K
          try simp only [zpt]
          exact ⟨_, _, _, _, _, _, _, rfl, BW, fun a => by first | exact h1 (by simpa using a) | rfl, fun a => by first | exact h3 (by simpa using a) | rfl, fun a => by first | exact h4 (by simpa using a) | rfl, fun a => by first | exact h6 (by simpa using a) | rfl, fun _ => rfl, fun a => by first | exact h9 (by simpa using a) | rfl, fun a => by first | exact h10 (by simpa using a) | rfl⟩
        · obtain rfl := h8 (hdeps 8 (by simp))
          refine wpOp_step (o := ?os11) ?hos11 (fun K hK => ?_)
          case hos11 => simp only [zge]; rfl
          refine step_loadW rfl 30 (.tmp 49) rfl q2 o2 rfl S _ Tryd.underlying30 rfl ISD.out (fun i y hy => (World.cell?_of_block (a := ⟨q2, o2 + i, none⟩) ((W1.out.trans (BW.out.mono W1.out.size)).block q2 hq2)).trans (HX2.out i y hy)) (hK _ _ ?_)
          clear hK K
          try simp only [zpt]
          exact ⟨_, _, _, _, _, _, _, rfl, BW, fun a => by first | exact h1 (by simpa using a) | rfl, fun a => by first | exact h3 (by simpa using a) | rfl, fun a => by first | exact h4 (by simpa using a) | rfl, fun a => by first | exact h6 (by simpa using a) | rfl, fun a => by first | exact h8 (by simpa using a) | rfl, fun _ => rfl, fun a => by first | exact h10 (by simpa using a) | rfl⟩
        · obtain rfl := h4 (hdeps 4 (by simp))
          obtain rfl := h9 (hdeps 9 (by simp))
          refine wpOp_step (o := ?os12) ?hos12 (fun K hK => ?_)
          case hos12 => simp only [zge]; rfl
          go_simp
          refine hK _ _ ?_
          clear hK K
          try simp only [zpt]
          exact ⟨_, _, _, _, _, _, _, rfl, BW, fun a => by first | exact h1 (by simpa using a) | rfl, fun a => by first | exact h3 (by simpa using a) | rfl, fun a => by first | exact h4 (by simpa using a) | rfl, fun a => by first | exact h6 (by simpa using a) | rfl, fun a => by first | exact h8 (by simpa using a) | rfl, fun a => by first | exact h9 (by simpa using a) | rfl, fun _ => rfl⟩
      case fin5 =>
        intro a v5 hI
        obtain ⟨x42, x44, x45, x47, x49, x50, x51, rfl, BW, h1, h3, h4, h6, h8, h9, h10⟩ := hI
        obtain rfl := h1 (by decide)
        obtain rfl := h3 (by decide)
        obtain rfl := h4 (by decide)
        obtain rfl := h6 (by decide)
        obtain rfl := h8 (by decide)
        obtain rfl := h9 (by decide)
        obtain rfl := h10 (by decide)
        have B19 := Lib.hid (B1.out.below BW.out B1.out.lt)
        have B29 := Lib.hid (B2.out.below BW.out B2.out.lt)
        have W9 := Lib.hid (W1.out.trans (BW.out.mono W1.out.size))
        clear B1 B2 W1 BW e0
        try dsimp only
        refine wpAny_done (by kernel_rfl) ?_ _
        go_wp2_with fail
        go_roundw
        case rel => exact ⟨m + 1, by omega, by go_num, B19, B29, W9⟩
        case measure => simp [intOf]; omega
    · obtain rfl : m = n' := by omega
      have hlb : decide ((m : Int) < (m : Int)) = false := by simp
      go_wp2_with fail
      go_ret
      exact ⟨rfl, W1.out⟩
end Go.Proofs.YtmidbpjdpakkoaaDoor
