import Derived.Test.YtmidbpjdpakkoaaDoorSTx
namespace Go.Proofs.YtmidbpjdpakkoaaDoor
set_option linter.unusedVariables false
set_option linter.unusedSimpArgs false
set_option maxRecDepth 100000
open Go.RowKit
theorem tr_more {w : World} {x : Option Nat} {d : Nat} {l : List Tm.P} (h : Tr w x d l) (h2 : 2 ≤ l.length) : ∃ g a b, x = some g ∧ Blk w g 72 (nodeL (Tm.root d l) none a b) ∧ Tr w a (d + 1) (Tm.half false d l) ∧ Tr w b (d + 1) (Tm.half true d l) := by
  cases h with
  | none d => simp at h2
  | one h1 _ => simp at h2
  | more h h1 ha hb => exact ⟨_, _, _, rfl, h1, ha, hb⟩
theorem tr_one {w : World} {x : Option Nat} {d : Nat} {l : List Tm.P} (h : Tr w x d l) (h2 : ¬ 2 ≤ l.length) : (x = none ∧ l = []) ∨ ∃ g q p, x = some g ∧ l = [p] ∧ Blk w g 72 (nodeL (Tm.leaf p.1 p.2) (some q) none none) ∧ Blk w q 75 (leafL p) := by
  cases h with
  | none d => exact .inl ⟨rfl, rfl⟩
  | one h1 h3 => exact .inr ⟨_, _, _, rfl, rfl, h1, h3⟩
  | more h _ _ _ => exact absurd h h2
set_option maxRecDepth 100000 in
set_option maxHeartbeats 1000000 in
theorem tget_none (w : World) (k : List UInt8) : Calls Tryd.prog 19 #[.pointer none, hv k] w fun e w' => e = .returned (.tuple #[hv Tm.none32, .bool false]) ∧ Below w.heap.size w w' := by
  rw [hv_none]
  unfold hv
  obtain ⟨L, hL⟩ : ∃ L, L = k.map cellOf := ⟨_, rfl⟩
  rw [← hL]
  obtain ⟨w1, hw1⟩ : ∃ w1, w1 = (w.alloc (.cells L.toArray 30)).alloc (.cells (List.replicate 32 (Value.int .u8 0)).toArray 30) := ⟨_, rfl⟩
  have X1 : Hid (Below w.heap.size w w1) := by unfold Hid; rw [hw1]; exact ((Below.refl _ _).alloc (Nat.le_refl _) _).alloc (by simp) _
  have B1 : Hid (Blk w1 (w.heap.size + 1) 30 (List.replicate 32 (Value.int .u8 0))) := by unfold Hid; rw [hw1]; exact Blk.at_new _ _ 30 _ _ rfl (by simp)
  have HI := Lib.hid zero_info
  have HO := Lib.hid zero_one
  have HB := Lib.hid zero_built
  obtain ⟨Z, hZ⟩ : ∃ Z, Z = List.replicate 32 (Value.int .u8 0) := ⟨_, rfl⟩
  rw [← hZ] at HI HO HB B1 ⊢
  have hle : w.heap.size ≤ w.heap.size + 1 := by omega
  clear hL
  go_enter Tryd.func19, Tryd.ntmps19
  go_upto_region 1 with (fail)
  change Code.wp _ _ _ _ ((w.alloc (.cells L.toArray 30)).alloc (.cells (List.replicate 32 (Value.int .u8 0)).toArray 30))
  rw [← hw1]
  clear hZ hw1
  go_wp2_with (first
    | (with_reducible refine build_law rfl 30 #[] rfl Z (by simp only [List.map_toArray, List.map_nil]; exact HB.out) ?_)
    | ((with_reducible refine storeGen_law rfl 30 (.tmp 4) (.tmp 10) rfl (w.heap.size + 1) rfl Z rfl 30 Z HI.out rfl HO.out w.heap.size w B1.out X1.out hle ?_); intro w6 B6 W6))
  exact bodyPost_ret (results_row_tmp rfl _ _ (w.heap.size + 1) 30 Z.toArray (0, 0) _ _ rfl rfl B6.out Tryd.underlying30 rfl (by rw [HI.out]; simp)) rfl ⟨rfl, W6.out⟩
set_option maxRecDepth 100000 in
set_option maxHeartbeats 2000000 in
theorem tget_any {w : World} {g : Nat} {l : List Tm.P} (h : TreeAt w g l) {k : List UInt8} (hk : k.length = 32) : Calls Tryd.prog 19 #[.pointer (some ⟨g, 0, none⟩), hv k] w fun e w' => e = .returned (.tuple #[hv ((Tm.get k l).getD Tm.none32), .bool (Tm.get k l).isSome]) ∧ Below w.heap.size w w' := by
  obtain ⟨top, h1, h2⟩ := h.blk
  have HF := Lib.hid h.fit
  have HI := Lib.hid (hash_info hk)
  have CB : Hid (∀ (dp : Nat) (W : World), dp < 256 → Calls Tryd.prog 41 #[hv k, .int .i64 (dp : Int)] W fun e w' => e = .returned (.int .i64 (bitI k dp)) ∧ Below W.heap.size W w') := fun dp W hd => bit_any hk hd W
  have EQ : Hid (∀ (r : List UInt8) (W : World), r.length = 32 → (Op.equalIn 10000 30 (.agg (r.map cellOf).toArray) (.agg (k.map cellOf).toArray)).run Tryd.prog W = .ok (decide (r = k)) W) := fun r W hr => hash_eq r k hr hk W
  obtain ⟨res, hres⟩ : ∃ res, res = Tm.get k l := ⟨_, rfl⟩
  rw [← hres]
  have HRES := Lib.hid hres
  unfold hv at CB ⊢
  obtain ⟨L, hL⟩ : ∃ L, L = k.map cellOf := ⟨_, rfl⟩
  rw [← hL] at CB EQ HI ⊢
  obtain ⟨w1, hw1⟩ : ∃ w1, w1 = (w.alloc (.cells L.toArray 30)).alloc (.cells (List.replicate 32 (Value.int .u8 0)).toArray 30) := ⟨_, rfl⟩
  have X1 : Hid (Below w.heap.size w w1) := by unfold Hid; rw [hw1]; exact ((Below.refl _ _).alloc (Nat.le_refl _) _).alloc (by simp) _
  have BL : Hid (Blk w1 w.heap.size 30 L) := by unfold Hid; rw [hw1]; exact (Blk.new w 30 _).alloc _
  have BZ : Hid (Blk w1 (w.heap.size + 1) 30 (List.replicate 32 (Value.int .u8 0))) := by unfold Hid; rw [hw1]; exact Blk.at_new _ _ 30 _ _ rfl (by simp)
  have c0 : w1.cell? ⟨g, 0, none⟩ = some (ptr top) := (h1.below X1.out h1.lt).cell 0
  have T1 := Lib.hid (h2.low X1.out)
  obtain ⟨Z, hZ⟩ : ∃ Z, Z = List.replicate 32 (Value.int .u8 0) := ⟨_, rfl⟩
  have HZ := Lib.hid hZ
  rw [← hZ] at BZ
  clear hL h h1 h2 hres
  go_enter Tryd.func19, Tryd.ntmps19
  go_upto_region 1 with (fail)
  change Code.wp _ _ _ _ ((w.alloc (.cells L.toArray 30)).alloc (.cells (List.replicate 32 (Value.int .u8 0)).toArray 30))
  rw [← hw1]
  clear hZ hw1
  go_wp2_with fail
  go_loopw [6, 7] (fun nv dv wr => ∃ (x : Option Nat) (dp : Nat) (lx : List Tm.P), nv = ptr x ∧ dv = .int .i64 (dp : Int) ∧ Hid (Tr wr x dp lx) ∧ Hid (Tm.Fit dp lx) ∧ Hid (dp ≤ 256) ∧ Hid (Tm.get k lx = res) ∧ Hid (Blk wr w.heap.size 30 L) ∧ Hid (Blk wr (w.heap.size + 1) 30 Z) ∧ Hid (Below w.heap.size w wr)) (fun _ d _ => 256 - (intOf d).toNat)
  case atStart => exact ⟨top, 0, l, rfl, rfl, T1, HF, Nat.zero_le _, HRES.out.symm, BL, BZ, X1⟩
  case round =>
    clear c0 T1 HF BL BZ X1 w1
    obtain ⟨x, dp, lx, rfl, rfl, TX, HF, HD, HR, BL, BZ, W1⟩ := hrel
    by_cases h2 : 2 ≤ lx.length
    · have CM := Lib.hid (many_of TX.out)
      rw [decide_eq_true h2] at CM
      have hd : dp < 256 := HF.out.deep h2
      obtain ⟨g0, a, b, rfl, hN, hTa, hTb⟩ := tr_more TX.out h2
      have BN := Lib.hid hN
      have TA := Lib.hid hTa
      have TB := Lib.hid hTb
      clear TX hN hTa hTb
      go_upto_region 7 with (refine CM.out.mono ?_; rintro e w' ⟨rfl, rfl⟩)
      rw [show ptr (some g0) = .pointer (some ⟨g0, 0, none⟩) from rfl]
      refine wp_region_any (by kernel_rfl) ?_
      replace BN := Lib.hid BN.out.drew
      replace BL := Lib.hid BL.out.drew
      replace BZ := Lib.hid BZ.out.drew
      replace W1 := Lib.hid W1.out.drew
      replace TA := Lib.hid (TA.out.keep (TrK.drew _))
      replace TB := Lib.hid (TB.out.keep (TrK.drew _))
      change wpAny _ _ _ _ _ _ _ (World.drew _)
      generalize wr.drew = wd at *
      obtain ⟨kk, y, hkk, hk2, hky, hty⟩ : ∃ (kk : Nat) (y : Option Nat), bitI k dp = (kk : Int) ∧ kk < 2 ∧ (nodeL (Tm.root dp lx) none a b)[33 + kk]? = some (ptr y) ∧ Tr wd y (dp + 1) (Tm.half (Tm.bit k dp) dp lx) := by
        unfold bitI
        cases Tm.bit k dp
        · exact ⟨0, a, rfl, by omega, (nodeL_ptrs (Tm.root_length _ _)).2.1, TA.out⟩
        · exact ⟨1, b, rfl, by omega, (nodeL_ptrs (Tm.root_length _ _)).2.2, TB.out⟩
      have CD := Lib.hid fun W => CB.out dp W hd
      rw [hkk] at CD
      have HKY := Lib.hid hky
      have TY := Lib.hid hty
      have HG := Lib.hid (Tm.get_half (k := k) (d := dp) lx)
      have HF1 := Lib.hid (HF.out.half (Tm.bit k dp))
      have hk2i : ¬ (2 : Int) ≤ (kk : Int) := by omega
      clear TA TB hky hty hkk CM
      refine wpAny_take (i := 0) (oi := ?oi1) (v := .pointer (some ⟨g0, 0, none⟩)) ?hi1 (by kernel_rfl) (by kernel_rfl) (by kernel_rfl) ?hQ1 ?hy1 ?rest1
      case hi1 => simp only [zge]; rfl
      case hQ1 => exact fun _ _ _ h => h
      case hy1 => exact Or.inl ⟨by rfl, by intro w; go_simp⟩
      try simp only [zpt]
      refine wpAny_take (i := 2) (oi := ?oi2) (v := .int .i64 (dp : Int)) ?hi2 (by kernel_rfl) (by kernel_rfl) (by kernel_rfl) ?hQ2 ?hy2 ?rest2
      case hi2 => simp only [zge]; rfl
      case hQ2 => exact fun _ _ _ h => h
      case hy2 => exact Or.inl ⟨by rfl, by intro w; go_simp⟩
      try simp only [zpt]
      refine wpAny_take (i := 4) (oi := ?oi3) (v := .pointer (some ⟨g0, 0, none⟩)) ?hi3 (by kernel_rfl) (by kernel_rfl) (by kernel_rfl) ?hQ3 ?hy3 ?rest3
      case hi3 => simp only [zge]; rfl
      case hQ3 => exact fun _ _ _ h => h
      case hy3 => exact Or.inl ⟨by rfl, by intro w; go_simp⟩
      try simp only [zpt]
      refine wpAny_take (i := 5) (oi := ?oi4) (v := .pointer (some ⟨g0, 33, none⟩)) ?hi4 (by kernel_rfl) (by kernel_rfl) (by kernel_rfl) ?hQ4 ?hy4 ?rest4
      case hi4 => simp only [zge]; rfl
      case hQ4 => exact fun _ _ _ h => h
      case hy4 => exact Or.inl ⟨by rfl, by intro w; go_simp⟩
      try simp only [zpt]
      refine phaseL (fun i => if i = 3 then [1] else []) (fun d a w' => ∃ x20 x22 : Value, a = { tmps := #[.pointer (some ⟨g, 0, none⟩), .agg L.toArray, undef, .pointer (some ⟨w.heap.size, 0, none⟩), .pointer (some ⟨w.heap.size + 1, 0, none⟩), .bool false, .pointer (some ⟨g0, 0, none⟩), .int .i64 (dp : Int), .pointer (some ⟨g, 0, none⟩), .bool false, undef, .pointer (some ⟨g, 0, none⟩), .pointer (some ⟨g, 0, none⟩), .pointer (some ⟨g, 0, none⟩), ptr top, .pointer (some ⟨g0, 0, none⟩), .bool true, u17, u18, .pointer (some ⟨g0, 0, none⟩), x20, .int .i64 (dp : Int), x22, .pointer (some ⟨g0, 0, none⟩), .pointer (some ⟨g0, 33, none⟩), u25, u26, undef, undef, undef, undef, undef, undef, undef, undef, undef, undef, undef, undef, undef, undef, undef, undef, undef, undef, undef, undef, undef], defers := [] } ∧ Hid (Below wd.heap.size wd w') ∧ (d 1 = true → x20 = .agg L.toArray) ∧ (d 3 = true → x22 = .int .i64 (kk : Int))) [1, 3] ?step5 3 2 [1, 3] _ _ _ rfl (by decide) (fun _ h => h) (Fits.of (by kernel_rfl)) ?init5 ?fin5
      case init5 => refine ⟨_, _, rfl, Below.refl _ _, ?_, ?_⟩ <;> (intro h; exact absurd h (by decide))
      case step5 =>
        intro i hi d a v5 hI hdi hdeps
        obtain ⟨x20, x22, rfl, BW, h1, h3⟩ := hI
        have hsw := BW.out.size
        simp only [List.mem_cons, List.not_mem_nil, or_false] at hi
        rcases hi with rfl | rfl
        · refine wpOp_step (o := ?os6) ?hos6 (fun K hK => ?_)
          case hos6 => simp only [zge]; rfl
          refine step_loadW rfl 30 (.tmp 3) rfl w.heap.size 0 rfl L _ Tryd.underlying30 rfl HI.out (BL.out.below BW.out BL.out.lt).cells (hK _ _ ?_)
          clear hK K
          try simp only [zpt]
          exact ⟨_, _, rfl, BW, fun _ => rfl, fun a => by first | exact h3 (by simpa using a) | rfl⟩
        · obtain rfl := h1 (hdeps 1 (by simp))
          refine wpOp_step (o := ?os7) ?hos7 (fun K hK => ?_)
          case hos7 => simp only [zge]; rfl
          go_simp
          refine (CD.out v5).mono ?_
          rintro e u5 ⟨rfl, hX⟩
          refine hK _ _ ?_
          clear hK K
          try simp only [zpt]
          exact ⟨_, _, rfl, BW.out.trans (hX.mono hsw), fun a => by first | exact h1 (by simpa using a) | rfl, fun _ => rfl⟩
      case fin5 =>
        intro a v5 hI
        obtain ⟨x20, x22, rfl, BW, h1, h3⟩ := hI
        obtain rfl := h1 (by decide)
        obtain rfl := h3 (by decide)
        have c1 : v5.cell? ⟨g0, 33 + kk, none⟩ = some (ptr y) := by rw [(BN.out.below BW.out BN.out.lt).cell]; exact HKY.out
        have TY1 := Lib.hid (TY.out.low BW.out)
        have BL1 := Lib.hid (BL.out.below BW.out BL.out.lt)
        have BZ1 := Lib.hid (BZ.out.below BW.out BZ.out.lt)
        have W2 := Lib.hid (W1.out.trans (BW.out.mono W1.out.size))
        clear BN TY BL BZ W1 CD HKY BW
        try dsimp only
        refine wpAny_take (i := 6) (oi := ?oi8) (v := .pointer (some ⟨g0, 33 + kk, none⟩)) ?hi8 (by kernel_rfl) (by kernel_rfl) (by kernel_rfl) ?hQ8 ?hy8 ?rest8
        case hi8 => simp only [zge]; rfl
        case hQ8 => exact fun _ _ _ h => h
        case hy8 => exact Or.inl ⟨by rfl, by intro w; go_simp⟩
        try simp only [zpt]
        refine wpAny_ready (rs := [7]) (by kernel_rfl) (by simp) ?_
        refine AllReady.cons (o := ?p9) ?q9 (fun K hK => ?_) AllReady.nil
        case q9 => simp only [zge]; rfl
        go_simp
        refine hK _ _ ?_
        clear hK K
        try simp only [zpt]
        refine wpAny_take (i := 8) (oi := ?oi10) (v := ptr y) ?hi10 (by kernel_rfl) (by kernel_rfl) (by kernel_rfl) ?hQ10 ?hy10 ?rest10
        case hi10 => simp only [zge]; rfl
        case hQ10 => exact fun _ _ _ h => h
        case hy10 => exact Or.inl ⟨by rfl, by intro w; go_simp⟩
        try simp only [zpt]
        refine wpAny_done (by kernel_rfl) ?_ _
        clear c1
        go_wp2_with fail
        go_roundw
        case rel => exact ⟨y, dp + 1, _, rfl, by go_num, TY1, HF1, by unfold Hid; omega, by unfold Hid; rw [HG.out]; exact HR.out, BL1, BZ1, W2⟩
        case measure => simp [intOf]; omega
    · have CM := Lib.hid (many_of TX.out)
      rw [decide_eq_false h2] at CM
      have HR' := HR.out
      have HIZ := Lib.hid zero_info
      have HOZ := Lib.hid zero_one
      have HBZ := Lib.hid zero_built
      rw [← HZ.out] at HIZ HOZ HBZ
      have hle : w.heap.size ≤ w.heap.size + 1 := by omega
      rcases tr_one TX.out h2 with ⟨rfl, rfl⟩ | ⟨g0, q0, r, rfl, rfl, hN, hQ⟩
      · obtain rfl : res = none := HR'.symm
        clear HR' HR TX HRES
        go_upto_region 8 with (refine CM.out.mono ?_; rintro e w' ⟨rfl, rfl⟩)
        rw [show ptr none = .pointer none from rfl]
        refine wp_region_any (by kernel_rfl) ?_
        replace BZ := Lib.hid BZ.out.drew
        replace W1 := Lib.hid W1.out.drew
        change wpAny _ _ _ _ _ _ _ (World.drew _)
        generalize wr.drew = wd at *
        refine wpAny_take (i := 0) (oi := ?oi11) (v := .pointer none) ?hi11 (by kernel_rfl) (by kernel_rfl) (by kernel_rfl) ?hQ11 ?hy11 ?rest11
        case hi11 => simp only [zge]; rfl
        case hQ11 => exact fun _ _ _ h => h
        case hy11 => exact Or.inl ⟨by rfl, by intro w; go_simp⟩
        try simp only [zpt]
        refine wpAny_take (i := 1) (oi := ?oi12) (v := .bool true) ?hi12 (by kernel_rfl) (by kernel_rfl) (by kernel_rfl) ?hQ12 ?hy12 ?rest12
        case hi12 => simp only [zge]; rfl
        case hQ12 => exact fun _ _ _ h => h
        case hy12 => exact Or.inl ⟨by rfl, by intro w; go_simp⟩
        try simp only [zpt]
        refine wpAny_take (i := 2) (oi := ?oi13) (v := .bool true) ?hi13 (by kernel_rfl) (by kernel_rfl) (by kernel_rfl) ?hQ13 ?hy13 ?rest13
        case hi13 => simp only [zge]; rfl
        case hQ13 => exact fun _ _ _ h => h
        case hy13 => exact Or.inl ⟨by rfl, by intro w; go_simp⟩
        try simp only [zpt]
        refine wpAny_take (i := 3) (oi := ?oi14) (v := undef) ?hi14 (by kernel_rfl) (by kernel_rfl) (by kernel_rfl) ?hQ14 ?hy14 ?rest14
        case hi14 => simp only [zge]; rfl
        case hQ14 => exact fun _ _ _ h => h
        case hy14 => exact Or.inr ⟨by rfl, rfl⟩
        try simp only [zpt]
        refine wpAny_take (i := 4) (oi := ?oi15) (v := undef) ?hi15 (by kernel_rfl) (by kernel_rfl) (by kernel_rfl) ?hQ15 ?hy15 ?rest15
        case hi15 => simp only [zge]; rfl
        case hQ15 => exact fun _ _ _ h => h
        case hy15 => exact Or.inr ⟨by rfl, rfl⟩
        try simp only [zpt]
        refine wpAny_take (i := 5) (oi := ?oi16) (v := undef) ?hi16 (by kernel_rfl) (by kernel_rfl) (by kernel_rfl) ?hQ16 ?hy16 ?rest16
        case hi16 => simp only [zge]; rfl
        case hQ16 => exact fun _ _ _ h => h
        case hy16 => exact Or.inr ⟨by rfl, rfl⟩
        try simp only [zpt]
        refine wpAny_take (i := 6) (oi := ?oi17) (v := undef) ?hi17 (by kernel_rfl) (by kernel_rfl) (by kernel_rfl) ?hQ17 ?hy17 ?rest17
        case hi17 => simp only [zge]; rfl
        case hQ17 => exact fun _ _ _ h => h
        case hy17 => exact Or.inr ⟨by rfl, rfl⟩
        try simp only [zpt]
        refine wpAny_take (i := 7) (oi := ?oi18) (v := undef) ?hi18 (by kernel_rfl) (by kernel_rfl) (by kernel_rfl) ?hQ18 ?hy18 ?rest18
        case hi18 => simp only [zge]; rfl
        case hQ18 => exact fun _ _ _ h => h
        case hy18 => exact Or.inr ⟨by rfl, rfl⟩
        try simp only [zpt]
        refine wpAny_take (i := 8) (oi := ?oi19) (v := undef) ?hi19 (by kernel_rfl) (by kernel_rfl) (by kernel_rfl) ?hQ19 ?hy19 ?rest19
        case hi19 => simp only [zge]; rfl
        case hQ19 => exact fun _ _ _ h => h
        case hy19 => exact Or.inr ⟨by rfl, rfl⟩
        try simp only [zpt]
        refine wpAny_take (i := 9) (oi := ?oi20) (v := undef) ?hi20 (by kernel_rfl) (by kernel_rfl) (by kernel_rfl) ?hQ20 ?hy20 ?rest20
        case hi20 => simp only [zge]; rfl
        case hQ20 => exact fun _ _ _ h => h
        case hy20 => exact Or.inr ⟨by rfl, rfl⟩
        try simp only [zpt]
        refine wpAny_take (i := 10) (oi := ?oi21) (v := undef) ?hi21 (by kernel_rfl) (by kernel_rfl) (by kernel_rfl) ?hQ21 ?hy21 ?rest21
        case hi21 => simp only [zge]; rfl
        case hQ21 => exact fun _ _ _ h => h
        case hy21 => exact Or.inr ⟨by rfl, rfl⟩
        try simp only [zpt]
        refine wpAny_take (i := 11) (oi := ?oi22) (v := undef) ?hi22 (by kernel_rfl) (by kernel_rfl) (by kernel_rfl) ?hQ22 ?hy22 ?rest22
        case hi22 => simp only [zge]; rfl
        case hQ22 => exact fun _ _ _ h => h
        case hy22 => exact Or.inr ⟨by rfl, rfl⟩
        try simp only [zpt]
        refine wpAny_take (i := 12) (oi := ?oi23) (v := .bool true) ?hi23 (by kernel_rfl) (by kernel_rfl) (by kernel_rfl) ?hQ23 ?hy23 ?rest23
        case hi23 => simp only [zge]; rfl
        case hQ23 => exact fun _ _ _ h => h
        case hy23 => exact Or.inl ⟨by rfl, by intro w; go_simp⟩
        try simp only [zpt]
        refine wpAny_done (by kernel_rfl) ?_ _
        go_wp2_with (first
          | (with_reducible refine build_law rfl 30 #[] rfl Z (by simp only [List.map_toArray, List.map_nil]; exact HBZ.out) ?_)
          | ((with_reducible refine storeGen_law rfl 30 (.tmp 4) (.tmp 40) rfl (w.heap.size + 1) rfl Z rfl 30 Z HIZ.out rfl HOZ.out w.heap.size w BZ.out W1.out hle ?_); intro w6 B6 W6))
        exact bodyPost_ret (results_row_tmp rfl _ _ (w.heap.size + 1) 30 Z.toArray (0, 0) _ _ rfl rfl B6.out Tryd.underlying30 rfl (by rw [HIZ.out]; simp)) rfl ⟨by rw [HZ.out]; rfl, W6.out⟩
      · have hr1 := (HF.out.len r (by simp)).1
        have hr2 := (HF.out.len r (by simp)).2
        have NP0 := Lib.hid (nodeL_ptrs (q := some q0) (a := none) (b := none) (Tm.leaf_length r.1 r.2)).1
        have HIR := Lib.hid (hash_info hr1)
        have HIS := Lib.hid (hash_info hr2)
        have HNS : Hid (Z.length = (r.2.map cellOf).length) := by unfold Hid; rw [HZ.out, List.length_map, hr2]; rfl
        have HOS := Lib.hid (cells_u8 r.2)
        have ER := Lib.hid fun W => EQ.out r.1 W hr1
        have LR := Lib.hid fun (W : World) (h : Blk W q0 75 (leafL r)) => leaf_label h hr1
        have LS := Lib.hid fun (W : World) (h : Blk W q0 75 (leafL r)) => leaf_sum h hr1
        obtain ⟨L0, hL0⟩ : ∃ L, L = r.1.map cellOf := ⟨_, rfl⟩
        obtain ⟨S0, hS0⟩ : ∃ L, L = r.2.map cellOf := ⟨_, rfl⟩
        rw [← hL0] at HIR LR ER
        rw [← hS0] at HIS LS HNS HOS
        have HS0 := Lib.hid hS0
        have HR2 : Hid (res = if r.1 = k then some r.2 else none) := HR'.symm
        clear HR' HR TX HRES hL0 hS0 hr2
        have BN := Lib.hid hN
        have BQ := Lib.hid hQ
        clear hN hQ
        go_upto_region 8 with (refine CM.out.mono ?_; rintro e w' ⟨rfl, rfl⟩)
        rw [show ptr (some g0) = .pointer (some ⟨g0, 0, none⟩) from rfl]
        refine wp_region_any (by kernel_rfl) ?_
        replace BN := Lib.hid BN.out.drew
        replace BQ := Lib.hid BQ.out.drew
        replace BL := Lib.hid BL.out.drew
        replace BZ := Lib.hid BZ.out.drew
        replace W1 := Lib.hid W1.out.drew
        change wpAny _ _ _ _ _ _ _ (World.drew _)
        generalize wr.drew = wd at *
        refine wpAny_take (i := 0) (oi := ?oi24) (v := .pointer (some ⟨g0, 0, none⟩)) ?hi24 (by kernel_rfl) (by kernel_rfl) (by kernel_rfl) ?hQ24 ?hy24 ?rest24
        case hi24 => simp only [zge]; rfl
        case hQ24 => exact fun _ _ _ h => h
        case hy24 => exact Or.inl ⟨by rfl, by intro w; go_simp⟩
        try simp only [zpt]
        refine wpAny_take (i := 1) (oi := ?oi25) (v := .bool false) ?hi25 (by kernel_rfl) (by kernel_rfl) (by kernel_rfl) ?hQ25 ?hy25 ?rest25
        case hi25 => simp only [zge]; rfl
        case hQ25 => exact fun _ _ _ h => h
        case hy25 => exact Or.inl ⟨by rfl, by intro w; go_simp⟩
        try simp only [zpt]
        refine wpAny_take (i := 2) (oi := ?oi26) (v := .bool false) ?hi26 (by kernel_rfl) (by kernel_rfl) (by kernel_rfl) ?hQ26 ?hy26 ?rest26
        case hi26 => simp only [zge]; rfl
        case hQ26 => exact fun _ _ _ h => h
        case hy26 => exact Or.inl ⟨by rfl, by intro w; go_simp⟩
        try simp only [zpt]
        refine wpAny_take (i := 3) (oi := ?oi27) (v := .pointer (some ⟨g0, 0, none⟩)) ?hi27 (by kernel_rfl) (by kernel_rfl) (by kernel_rfl) ?hQ27 ?hy27 ?rest27
        case hi27 => simp only [zge]; rfl
        case hQ27 => exact fun _ _ _ h => h
        case hy27 => exact Or.inl ⟨by rfl, by intro w; go_simp⟩
        try simp only [zpt]
        refine wpAny_take (i := 4) (oi := ?oi28) (v := .pointer (some ⟨g0, 0, none⟩)) ?hi28 (by kernel_rfl) (by kernel_rfl) (by kernel_rfl) ?hQ28 ?hy28 ?rest28
        case hi28 => simp only [zge]; rfl
        case hQ28 => exact fun _ _ _ h => h
        case hy28 => exact Or.inl ⟨by rfl, by intro w; go_simp⟩
        try simp only [zpt]
        refine wpAny_take (i := 5) (oi := ?oi29) (v := .pointer (some ⟨g0, 32, none⟩)) ?hi29 (by kernel_rfl) (by kernel_rfl) (by kernel_rfl) ?hQ29 ?hy29 ?rest29
        case hi29 => simp only [zge]; rfl
        case hQ29 => exact fun _ _ _ h => h
        case hy29 => exact Or.inl ⟨by rfl, by intro w; go_simp⟩
        try simp only [zpt]
        refine phaseL (fun i => if i = 7 then [6] else if i = 8 then [7] else if i = 9 then [8] else []) (fun d a w' => ∃ x33 x34 x35 x36 x37 : Value, a = { tmps := #[.pointer (some ⟨g, 0, none⟩), .agg L.toArray, undef, .pointer (some ⟨w.heap.size, 0, none⟩), .pointer (some ⟨w.heap.size + 1, 0, none⟩), .bool false, .pointer (some ⟨g0, 0, none⟩), .int .i64 (dp : Int), .pointer (some ⟨g, 0, none⟩), .bool false, undef, .pointer (some ⟨g, 0, none⟩), .pointer (some ⟨g, 0, none⟩), .pointer (some ⟨g, 0, none⟩), ptr top, .pointer (some ⟨g0, 0, none⟩), .bool false, u17, u18, u19, u20, u21, u22, u23, u24, u25, u26, .pointer (some ⟨g0, 0, none⟩), .bool false, .bool false, .pointer (some ⟨g0, 0, none⟩), .pointer (some ⟨g0, 0, none⟩), .pointer (some ⟨g0, 32, none⟩), x33, x34, x35, x36, x37, undef, undef, undef, undef, undef, undef, undef, undef, undef, undef], defers := [] } ∧ Hid (Below wd.heap.size wd w') ∧ (d 6 = true → x33 = .pointer (some ⟨q0, 0, none⟩)) ∧ (d 7 = true → x34 = .pointer (some ⟨q0, 0, none⟩)) ∧ (d 8 = true → x35 = .pointer (some ⟨q0, 0, none⟩)) ∧ (d 9 = true → x36 = .agg L0.toArray) ∧ (d 10 = true → x37 = .agg L.toArray)) [6, 7, 8, 9, 10] ?step30 2 5 [6, 7, 8, 9, 10] _ _ _ rfl (by decide) (fun _ h => h) (Fits.of (by kernel_rfl)) ?init30 ?fin30
        case init30 => refine ⟨_, _, _, _, _, rfl, Below.refl _ _, ?_, ?_, ?_, ?_, ?_⟩ <;> (intro h; exact absurd h (by decide))
        case step30 =>
          intro i hi d a v30 hI hdi hdeps
          obtain ⟨x33, x34, x35, x36, x37, rfl, BW, h6, h7, h8, h9, h10⟩ := hI
          have hsw := BW.out.size
          simp only [List.mem_cons, List.not_mem_nil, or_false] at hi
          rcases hi with rfl | rfl | rfl | rfl | rfl
          · have c0 : v30.cell? ⟨g0, 32, none⟩ = some (.pointer (some ⟨q0, 0, none⟩)) := by rw [(BN.out.below BW.out BN.out.lt).cell]; exact NP0.out
            refine wpOp_step (o := ?os31) ?hos31 (fun K hK => ?_)
            case hos31 => simp only [zge]; rfl
            go_simp
            refine hK _ _ ?_
            clear hK K
            try simp only [zpt]
            exact ⟨_, _, _, _, _, rfl, BW, fun _ => rfl, fun a => by first | exact h7 (by simpa using a) | rfl, fun a => by first | exact h8 (by simpa using a) | rfl, fun a => by first | exact h9 (by simpa using a) | rfl, fun a => by first | exact h10 (by simpa using a) | rfl⟩
          · obtain rfl := h6 (hdeps 6 (by simp))
            refine wpOp_step (o := ?os32) ?hos32 (fun K hK => ?_)
            case hos32 => simp only [zge]; rfl
            go_simp
            refine hK _ _ ?_
            clear hK K
            try simp only [zpt]
            exact ⟨_, _, _, _, _, rfl, BW, fun a => by first | exact h6 (by simpa using a) | rfl, fun _ => rfl, fun a => by first | exact h8 (by simpa using a) | rfl, fun a => by first | exact h9 (by simpa using a) | rfl, fun a => by first | exact h10 (by simpa using a) | rfl⟩
          · obtain rfl := h7 (hdeps 7 (by simp))
            refine wpOp_step (o := ?os33) ?hos33 (fun K hK => ?_)
            case hos33 => simp only [zge]; rfl
            go_simp
            refine hK _ _ ?_
            clear hK K
            try simp only [zpt]
            exact ⟨_, _, _, _, _, rfl, BW, fun a => by first | exact h6 (by simpa using a) | rfl, fun a => by first | exact h7 (by simpa using a) | rfl, fun _ => rfl, fun a => by first | exact h9 (by simpa using a) | rfl, fun a => by first | exact h10 (by simpa using a) | rfl⟩
          · obtain rfl := h8 (hdeps 8 (by simp))
            refine wpOp_step (o := ?os34) ?hos34 (fun K hK => ?_)
            case hos34 => simp only [zge]; rfl
            refine step_loadW rfl 30 (.tmp 35) rfl q0 0 rfl L0 _ Tryd.underlying30 rfl HIR.out (LR.out v30 (BQ.out.below BW.out BQ.out.lt)) (hK _ _ ?_)
            clear hK K
            try simp only [zpt]
            exact ⟨_, _, _, _, _, rfl, BW, fun a => by first | exact h6 (by simpa using a) | rfl, fun a => by first | exact h7 (by simpa using a) | rfl, fun a => by first | exact h8 (by simpa using a) | rfl, fun _ => rfl, fun a => by first | exact h10 (by simpa using a) | rfl⟩
          · refine wpOp_step (o := ?os35) ?hos35 (fun K hK => ?_)
            case hos35 => simp only [zge]; rfl
            refine step_loadW rfl 30 (.tmp 3) rfl w.heap.size 0 rfl L _ Tryd.underlying30 rfl HI.out (BL.out.below BW.out BL.out.lt).cells (hK _ _ ?_)
            clear hK K
            try simp only [zpt]
            exact ⟨_, _, _, _, _, rfl, BW, fun a => by first | exact h6 (by simpa using a) | rfl, fun a => by first | exact h7 (by simpa using a) | rfl, fun a => by first | exact h8 (by simpa using a) | rfl, fun a => by first | exact h9 (by simpa using a) | rfl, fun _ => rfl⟩
        case fin30 =>
          intro a v30 hI
          obtain ⟨x33, x34, x35, x36, x37, rfl, BW, h6, h7, h8, h9, h10⟩ := hI
          obtain rfl := h6 (by decide)
          obtain rfl := h7 (by decide)
          obtain rfl := h8 (by decide)
          obtain rfl := h9 (by decide)
          obtain rfl := h10 (by decide)
          have BN2 := Lib.hid (BN.out.below BW.out BN.out.lt)
          have BQ2 := Lib.hid (BQ.out.below BW.out BQ.out.lt)
          have BZ2 := Lib.hid (BZ.out.below BW.out BZ.out.lt)
          have W2 := Lib.hid (W1.out.trans (BW.out.mono W1.out.size))
          have LS2 := Lib.hid (LS.out v30 BQ2.out)
          have c32 : v30.cell? ⟨g0, 32, none⟩ = some (.pointer (some ⟨q0, 0, none⟩)) := by rw [BN2.out.cell]; exact NP0.out
          clear BN BQ BL BZ W1 BW LR LS
          try dsimp only
          by_cases he : r.1 = k
          · have HE : Hid (res = some r.2) := by unfold Hid; rw [HR2.out, if_pos he]
            have e0 := ER.out
            rw [decide_eq_true he] at e0
            clear he HR2
            refine wpAny_take (i := 11) (oi := ?oi36) (v := .bool false) ?hi36 (by kernel_rfl) (by kernel_rfl) (by kernel_rfl) ?hQ36 ?hy36 ?rest36
            case hi36 => simp only [zge]; rfl
            case hQ36 => exact fun _ _ _ h => h
            case hy36 => exact Or.inl ⟨by rfl, by intro w; go_simp⟩
            try simp only [zpt]
            refine wpAny_take (i := 12) (oi := ?oi37) (v := .bool false) ?hi37 (by kernel_rfl) (by kernel_rfl) (by kernel_rfl) ?hQ37 ?hy37 ?rest37
            case hi37 => simp only [zge]; rfl
            case hQ37 => exact fun _ _ _ h => h
            case hy37 => exact Or.inl ⟨by rfl, by intro w; go_simp⟩
            try simp only [zpt]
            clear e0
            refine wpAny_done (by kernel_rfl) ?_ _
            go_wp2_with (first
              | (with_reducible refine load_law rfl 30 (.tmp 46) rfl q0 32 rfl S0 _ Tryd.underlying30 rfl HIS.out LS2.out ?_)
              | ((with_reducible refine storeGen_law rfl 30 (.tmp 4) (.tmp 47) rfl (w.heap.size + 1) rfl S0 rfl 30 Z HIS.out HNS.out HOS.out w.heap.size w BZ2.out W2.out hle ?_); intro w6 B6 W6))
            exact bodyPost_ret (results_row_tmp rfl _ _ (w.heap.size + 1) 30 S0.toArray (0, 0) _ _ rfl rfl B6.out Tryd.underlying30 rfl (by rw [HIS.out]; simp)) rfl ⟨by rw [HS0.out, HE.out]; rfl, W6.out⟩
          · have HE : Hid (res = none) := by unfold Hid; rw [HR2.out, if_neg he]
            have e0 := ER.out
            rw [decide_eq_false he] at e0
            clear he HR2
            refine wpAny_take (i := 11) (oi := ?oi38) (v := .bool true) ?hi38 (by kernel_rfl) (by kernel_rfl) (by kernel_rfl) ?hQ38 ?hy38 ?rest38
            case hi38 => simp only [zge]; rfl
            case hQ38 => exact fun _ _ _ h => h
            case hy38 => exact Or.inl ⟨by rfl, by intro w; go_simp⟩
            try simp only [zpt]
            refine wpAny_take (i := 12) (oi := ?oi39) (v := .bool true) ?hi39 (by kernel_rfl) (by kernel_rfl) (by kernel_rfl) ?hQ39 ?hy39 ?rest39
            case hi39 => simp only [zge]; rfl
            case hQ39 => exact fun _ _ _ h => h
            case hy39 => exact Or.inl ⟨by rfl, by intro w; go_simp⟩
            try simp only [zpt]
            clear e0
            refine wpAny_done (by kernel_rfl) ?_ _
            go_wp2_with (first
              | (with_reducible refine build_law rfl 30 #[] rfl Z (by simp only [List.map_toArray, List.map_nil]; exact HBZ.out) ?_)
              | ((with_reducible refine storeGen_law rfl 30 (.tmp 4) (.tmp 40) rfl (w.heap.size + 1) rfl Z rfl 30 Z HIZ.out rfl HOZ.out w.heap.size w BZ2.out W2.out hle ?_); intro w6 B6 W6))
            exact bodyPost_ret (results_row_tmp rfl _ _ (w.heap.size + 1) 30 Z.toArray (0, 0) _ _ rfl rfl B6.out Tryd.underlying30 rfl (by rw [HIZ.out]; simp)) rfl ⟨by rw [HZ.out, HE.out]; rfl, W6.out⟩
end Go.Proofs.YtmidbpjdpakkoaaDoor
