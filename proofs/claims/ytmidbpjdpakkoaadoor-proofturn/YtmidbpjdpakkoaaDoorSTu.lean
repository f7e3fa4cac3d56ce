import Derived.Deep.CutRange
import Derived.Deep.DeepCutAuto
import Derived.Test.YtmidbpjdpakkoaaDoorSTy
namespace Go.Proofs.YtmidbpjdpakkoaaDoor
set_option linter.unusedVariables false
set_option linter.unusedSimpArgs false
set_option maxRecDepth 100000
open Go.RowKit
def OneAt (w : World) (x : Value) (p : Tm.P) : Prop := ∃ m, x = .pointer (some ⟨m, 0, none⟩) ∧ ∃ q, Blk w m 72 (nodeL (Tm.leaf p.1 p.2) (some q) none none) ∧ Blk w q 75 (leafL p)
theorem OneAt.below {w w' : World} {x : Value} {p : Tm.P} (h : OneAt w x p) (hb : Below w.heap.size w w') : OneAt w' x p := by
  obtain ⟨m, h1, q, h2, h3⟩ := h
  exact ⟨m, h1, q, h2.below hb h2.lt, h3.below hb h3.lt⟩
theorem get_length {l : List Tm.P} {k : List UInt8} (h : ∀ p ∈ l, p.1.length = 32 ∧ p.2.length = 32) : ((Tm.get k l).getD Tm.none32).length = 32 := by
  induction l with
  | nil => rfl
  | cons p l ih =>
    rw [Tm.get]
    split
    · exact (h p (by simp)).2
    · exact ih fun q hq => h q (by simp [hq])
theorem tput_none (w : World) (k s : List UInt8) : Calls Tryd.prog 26 #[.pointer none, hv k, hv s] w fun e w' => e = .returned (.bool false) ∧ Below w.heap.size w w' := by
  unfold hv
  obtain ⟨L, hL⟩ : ∃ L, L = k.map cellOf := ⟨_, rfl⟩
  obtain ⟨S, hS⟩ : ∃ L, L = s.map cellOf := ⟨_, rfl⟩
  rw [← hL, ← hS]
  have X1 : Hid (Below w.heap.size w ((w.alloc (.cells L.toArray 30)).alloc (.cells S.toArray 30))) := ((Below.refl _ _).alloc (Nat.le_refl _) _).alloc (by simp) _
  clear hL hS
  go_enter Tryd.func26, Tryd.ntmps26
  go_wp2_with fail
  go_ret
  exact ⟨rfl, X1.out⟩
set_option maxRecDepth 100000 in
set_option maxHeartbeats 400000 in
theorem tput_any {w : World} (hg : Gl w) {g : Nat} {l : List Tm.P} (h : TreeAt w g l) (hN : 2 ≤ g) (hn : l.length ≤ 1000) {k s : List UInt8} (hk : k.length = 32) (hs : s.length = 32) : Calls Tryd.prog 26 #[.pointer (some ⟨g, 0, none⟩), hv k, hv s] w fun e w' => e = .returned (.bool (!(Tm.get k l).isSome)) ∧ TreeAt w' g (Tm.put (k, s) l) ∧ w.grownBy w' (some g) := by
  obtain ⟨top, h1, h2⟩ := h.blk
  have hlt := h1.lt
  have HF := Lib.hid h.fit
  have HG := Lib.hid hg
  have HI := Lib.hid (hash_info hk)
  have HJ := Lib.hid (hash_info hs)
  obtain ⟨w1, hw1⟩ : ∃ w1, w1 = (w.alloc (.cells (k.map cellOf).toArray 30)).alloc (.cells (s.map cellOf).toArray 30) := ⟨_, rfl⟩
  have X1 : Hid (Below w.heap.size w w1) := by unfold Hid; rw [hw1]; exact ((Below.refl _ _).alloc (Nat.le_refl _) _).alloc (by simp) _
  have BL : Hid (Blk w1 w.heap.size 30 (k.map cellOf)) := by unfold Hid; rw [hw1]; exact (Blk.new w 30 _).alloc _
  have BS : Hid (Blk w1 (w.heap.size + 1) 30 (s.map cellOf)) := by unfold Hid; rw [hw1]; exact Blk.at_new _ _ 30 _ _ rfl (by simp)
  have T1 : Hid (TreeAt w1 g l) := h.low X1.out
  have BT : Hid (Blk w1 g 66 [ptr top, .int .i64 (l.length : Int)]) := h1.below X1.out hlt
  have TR : Hid (Tr w1 top 0 l) := h2.low X1.out
  have CG := Lib.hid (tget_any T1.out hk)
  obtain ⟨had, hhad⟩ : ∃ b, b = (Tm.get k l).isSome := ⟨_, rfl⟩
  rw [← hhad] at CG
  have HAD := Lib.hid hhad
  have hgl := get_length (k := k) h.fit.len
  obtain ⟨res, hres⟩ : ∃ r, r = (Tm.get k l).getD Tm.none32 := ⟨_, rfl⟩
  rw [← hres] at CG hgl
  have HIR := Lib.hid (hash_info hgl)
  have HOR := Lib.hid (cells_u8 res)
  have HNR : Hid ((List.replicate 32 (Value.int .u8 0)).length = (res.map cellOf).length) := by unfold Hid; rw [List.length_map, hgl]; rfl
  have CO : Hid (∀ W, Gl W → Calls Tryd.prog 45 #[hv k, hv s] W fun e w' => ∃ x, e = .returned x ∧ OneAt w' x (k, s) ∧ Below W.heap.size W w') := fun W hW => by
    refine (one_any hW hk hs).mono ?_
    rintro e w' ⟨m, rfl, hq, hX⟩
    exact ⟨_, rfl, ⟨m, rfl, hq⟩, hX⟩
  unfold hv at CG CO ⊢
  obtain ⟨R, hR⟩ : ∃ L, L = res.map cellOf := ⟨_, rfl⟩
  rw [← hR] at CG HIR HOR HNR
  obtain ⟨L, hL⟩ : ∃ L, L = k.map cellOf := ⟨_, rfl⟩
  obtain ⟨S, hS⟩ : ∃ L, L = s.map cellOf := ⟨_, rfl⟩
  rw [← hL] at CG CO HI BL hw1 ⊢
  rw [← hS] at CO HJ BS hw1 ⊢
  have HLEN := Lib.hid (Tm.put_length (k, s) l)
  rw [← hhad] at HLEN
  obtain ⟨n, hnn⟩ : ∃ n, n = l.length := ⟨_, rfl⟩
  rw [← hnn] at HLEN BT hn
  have ZB : Hid (∀ W : World, Blk (W.alloc (.cells (List.replicate 32 (Value.int .u8 0)).toArray 30)) W.heap.size 30 (List.replicate 32 (Value.int .u8 0))) := fun W => Blk.new W 30 _
  clear hg h h1 h2 hhad hres hR hL hS hgl T1 hnn
  go_enter Tryd.func26, Tryd.ntmps26
  go_upto_region 1 with (fail)
  change Code.wp _ _ _ _ ((w.alloc (.cells L.toArray 30)).alloc (.cells S.toArray 30))
  rw [← hw1]
  clear hw1
  have hs1 := BS.out.lt
  go_upto_if 18 with (first
    | (with_reducible refine load_law rfl 30 (.tmp 4) rfl w.heap.size 0 rfl L _ Tryd.underlying30 rfl HI.out BL.out.cells ?_)
    | (go_at_call 19; refine CG.out.mono ?_; rintro e w2 ⟨rfl, hX⟩; have X2 := Lib.hid hX; have hn2 := Nat.le_refl w2.heap.size; clear hX)
    | ((with_reducible refine storeGen_law rfl 30 (.tmp 7) (.tmp 15) rfl w2.heap.size rfl R rfl 30 (List.replicate 32 (Value.int .u8 0)) HIR.out HNR.out HOR.out w2.heap.size w2 ?_ ?_ hn2 ?_)
       · exact ZB.out w2
       · exact alloc_below w2 _
       intro w3 B3 X3))
  have h12 := X1.out.size
  have h23 := X2.out.size
  have W3 := Lib.hid ((X1.out.trans (X2.out.mono h12)).trans (X3.out.mono (by omega)))
  have BL3 := Lib.hid ((BL.out.below X2.out BL.out.lt).below X3.out (by have := BL.out.lt; omega))
  have BS3 := Lib.hid ((BS.out.below X2.out hs1).below X3.out (by omega))
  have BT3 := Lib.hid ((BT.out.below X2.out BT.out.lt).below X3.out (by have := BT.out.lt; omega))
  have TR3 := Lib.hid ((TR.out.low X2.out).low X3.out)
  have c1 : w3.cell? ⟨g, 1, none⟩ = some (.int .i64 (n : Int)) := BT3.out.cell 1
  have f1 : w3.frozen? ⟨g, 1, none⟩ = false := BT3.out.frozen 1
  clear X1 X2 X3 BL BS BT TR B3 CG ZB HIR HOR HNR h12 h23 hs1 hn2
  go_cut [] (fun wr => ∃ n' : Nat, Hid (n' = (Tm.put (k, s) l).length) ∧ Hid (Blk wr w.heap.size 30 L) ∧ Hid (Blk wr (w.heap.size + 1) 30 S) ∧ Hid (Blk wr g 66 [ptr top, .int .i64 (n' : Int)]) ∧ Hid (Tr wr top 0 l) ∧ Hid (w.grownBy wr (some g)))
  case first =>
    cases had with
    | true =>
      go_wp2_with fail
      go_meet
      case rel => exact ⟨n, HLEN.out.symm, BL3, BS3, BT3, TR3, only_of_below W3.out _⟩
    | false =>
      go_wp2_with fail
      go_meet
      case rel =>
        have BT4 : Blk (w3.setCell ⟨g, 1, none⟩ (.int .i64 ((n : Int) + 1))) g 66 [ptr top, .int .i64 ((n + 1 : Nat) : Int)] := BT3.out.set_ 1 (.int .i64 ((n : Int) + 1))
        exact ⟨n + 1, HLEN.out.symm, BL3.out.far (by show w.heap.size ≠ g; omega) _, BS3.out.far (by show w.heap.size + 1 ≠ g; omega) _, BT4, TR3.out.keep (TrK.setCell _ BT3.out (by decide) (by decide)), only_setCell (only_of_below W3.out _) (.inl rfl) _⟩
  case rest =>
    obtain ⟨n', HN', BL, BS, BT, TR, GW⟩ := hcut
    clear c1 f1 BL3 BS3 BT3 TR3 W3 HLEN w3 w2
    go_upto_region 6 with (fail)
    replace BL := Lib.hid BL.out.drew
    replace BS := Lib.hid BS.out.drew
    replace BT := Lib.hid BT.out.drew
    replace TR := Lib.hid (TR.out.keep (TrK.drew _))
    replace GW := Lib.hid (only_drew GW.out)
    refine wp_region_any (by kernel_rfl) ?_
    change wpAny _ _ _ _ _ _ _ (World.drew _)
    generalize wc.drew = wd at *
    have GL : Hid (Gl wd) := HG.out.only GW.out hN
    have hsz := GL.out.size
    refine wpAny_take (i := 0) (oi := ?oi1) (v := .pointer (some ⟨g, 0, none⟩)) ?hi1 (by kernel_rfl) (by kernel_rfl) (by kernel_rfl) ?hQ1 ?hy1 ?rest1
    case hi1 => simp only [zge]; rfl
    case hQ1 => exact fun _ _ _ h => h
    case hy1 => exact Or.inl ⟨by rfl, by intro w; go_simp⟩
    try simp only [zpt]
    refine wpAny_take (i := 1) (oi := ?oi2) (v := .pointer (some ⟨g, 0, none⟩)) ?hi2 (by kernel_rfl) (by kernel_rfl) (by kernel_rfl) ?hQ2 ?hy2 ?rest2
    case hi2 => simp only [zge]; rfl
    case hQ2 => exact fun _ _ _ h => h
    case hy2 => exact Or.inl ⟨by rfl, by intro w; go_simp⟩
    try simp only [zpt]
    refine wpAny_take (i := 2) (oi := ?oi3) (v := .pointer (some ⟨g, 0, none⟩)) ?hi3 (by kernel_rfl) (by kernel_rfl) (by kernel_rfl) ?hQ3 ?hy3 ?rest3
    case hi3 => simp only [zge]; rfl
    case hQ3 => exact fun _ _ _ h => h
    case hy3 => exact Or.inl ⟨by rfl, by intro w; go_simp⟩
    try simp only [zpt]
    refine wpAny_take (i := 3) (oi := ?oi4) (v := .pointer (some ⟨g, 0, none⟩)) ?hi4 (by kernel_rfl) (by kernel_rfl) (by kernel_rfl) ?hQ4 ?hy4 ?rest4
    case hi4 => simp only [zge]; rfl
    case hQ4 => exact fun _ _ _ h => h
    case hy4 => exact Or.inl ⟨by rfl, by intro w; go_simp⟩
    try simp only [zpt]
    refine phaseL (fun i => if i = 7 then [5, 6] else []) (fun d a w' => ∃ x30 x31 x32 x33 : Value, a = { tmps := #[.pointer (some ⟨g, 0, none⟩), .agg L.toArray, .agg S.toArray, undef, .pointer (some ⟨w.heap.size, 0, none⟩), .pointer (some ⟨w.heap.size + 1, 0, none⟩), .bool false, u7, .bool had, u9, u10, u11, u12, u13, u14, u15, u16, u17, u18, u19, u20, u21, u22, u23, u24, u25, .pointer (some ⟨g, 0, none⟩), .pointer (some ⟨g, 0, none⟩), .pointer (some ⟨g, 0, none⟩), .pointer (some ⟨g, 0, none⟩), x30, x31, x32, x33, u34, u35, u36, u37, u38], defers := [] } ∧ Hid (Below wd.heap.size wd w') ∧ (d 4 = true → x30 = ptr top) ∧ (d 5 = true → x31 = .agg L.toArray) ∧ (d 6 = true → x32 = .agg S.toArray) ∧ (d 7 = true → Hid (OneAt w' x33 (k, s)))) [4, 5, 6, 7] ?step5 4 4 [4, 5, 6, 7] _ _ _ rfl (by decide) (fun _ h => h) (Fits.of (by kernel_rfl)) ?init5 ?fin5
    case init5 => refine ⟨_, _, _, _, rfl, Below.refl _ _, ?_, ?_, ?_, ?_⟩ <;> (intro h; exact absurd h (by decide))
    case step5 =>
      intro i hi d a v5 hI hdi hdeps
      obtain ⟨x30, x31, x32, x33, rfl, BW, h4, h5, h6, h7⟩ := hI
      have hsw := BW.out.size
      simp only [List.mem_cons, List.not_mem_nil, or_false] at hi
      rcases hi with rfl | rfl | rfl | rfl
      · have c0 : v5.cell? ⟨g, 0, none⟩ = some (ptr top) := (BT.out.below BW.out BT.out.lt).cell 0
        refine wpOp_step (o := ?os6) ?hos6 (fun K hK => ?_)
        case hos6 => simp only [zge]; rfl
        go_simp
        refine hK _ _ ?_
        clear hK K
        try simp only [zpt]
        exact ⟨_, _, _, _, rfl, BW, fun _ => rfl, fun a => by first | exact h5 (by simpa using a) | rfl, fun a => by first | exact h6 (by simpa using a) | rfl, fun a => h7 (by simpa using a)⟩
      · refine wpOp_step (o := ?os7) ?hos7 (fun K hK => ?_)
        case hos7 => simp only [zge]; rfl
        refine step_loadW rfl 30 (.tmp 4) rfl w.heap.size 0 rfl L _ Tryd.underlying30 rfl HI.out (BL.out.below BW.out BL.out.lt).cells (hK _ _ ?_)
        clear hK K
        try simp only [zpt]
        exact ⟨_, _, _, _, rfl, BW, fun a => by first | exact h4 (by simpa using a) | rfl, fun _ => rfl, fun a => by first | exact h6 (by simpa using a) | rfl, fun a => h7 (by simpa using a)⟩
      · refine wpOp_step (o := ?os8) ?hos8 (fun K hK => ?_)
        case hos8 => simp only [zge]; rfl
        refine step_loadW rfl 30 (.tmp 5) rfl (w.heap.size + 1) 0 rfl S _ Tryd.underlying30 rfl HJ.out (BS.out.below BW.out BS.out.lt).cells (hK _ _ ?_)
        clear hK K
        try simp only [zpt]
        exact ⟨_, _, _, _, rfl, BW, fun a => by first | exact h4 (by simpa using a) | rfl, fun a => by first | exact h5 (by simpa using a) | rfl, fun _ => rfl, fun a => h7 (by simpa using a)⟩
      · obtain rfl := h5 (hdeps 5 (by simp))
        obtain rfl := h6 (hdeps 6 (by simp))
        refine wpOp_step (o := ?os9) ?hos9 (fun K hK => ?_)
        case hos9 => simp only [zge]; rfl
        go_simp
        refine (CO.out v5 (GL.out.below BW.out hsz)).mono ?_
        rintro e u5 ⟨x, rfl, hQ, hX⟩
        refine hK _ _ ?_
        clear hK K
        try simp only [zpt]
        exact ⟨_, _, _, _, rfl, BW.out.trans (hX.mono hsw), fun a => by first | exact h4 (by simpa using a) | rfl, fun a => by first | exact h5 (by simpa using a) | rfl, fun a => by first | exact h6 (by simpa using a) | rfl, fun _ => hQ⟩
    case fin5 =>
      intro a v5 hI
      obtain ⟨x30, x31, x32, x33, rfl, BW, h4, h5, h6, h7⟩ := hI
      obtain rfl := h4 (by decide)
      obtain rfl := h5 (by decide)
      obtain rfl := h6 (by decide)
      obtain ⟨m, rfl, q, hM, hQ⟩ := (h7 (by decide)).out
      have BT2 := Lib.hid (BT.out.below BW.out BT.out.lt)
      have GW2 := Lib.hid (only_trans GW.out (only_of_below BW.out _))
      have CW := Lib.hid (with_any 256 (GL.out.below BW.out hsz) top 0 l (k, s) m q rfl HF.out (TR.out.low BW.out) hM hQ hk hs (fun r _ i hi => absurd hi (Nat.not_lt_zero i)))
      clear hM hQ h7 BW BT TR BL BS GL GW CO
      try dsimp only
      refine wpAny_ready (rs := [8]) (by kernel_rfl) (by simp) ?_
      refine AllReady.cons (o := ?p10) ?q10 (fun K hK => ?_) AllReady.nil
      case q10 => simp only [zge]; rfl
      go_simp
      refine CW.out.mono ?_
      rintro e w5 ⟨m', rfl, hT, hX⟩
      have T5 := Lib.hid hT
      have BT5 := Lib.hid (BT2.out.below hX BT2.out.lt)
      have GW5 := Lib.hid (only_trans GW2.out (only_of_below hX _))
      clear hX hT CW BT2 GW2
      refine hK _ _ ?_
      clear hK K
      try simp only [zpt]
      refine wpAny_take (i := 9) (oi := ?oi11) (v := .pointer (some ⟨g, 0, none⟩)) ?hi11 (by kernel_rfl) (by kernel_rfl) (by kernel_rfl) ?hQ11 ?hy11 ?rest11
      case hi11 => simp only [zge]; rfl
      case hQ11 => exact fun _ _ _ h => h
      case hy11 => exact Or.inl ⟨by rfl, by intro w; go_simp⟩
      try simp only [zpt]
      refine wpAny_take (i := 10) (oi := ?oi12) (v := .pointer (some ⟨g, 0, none⟩)) ?hi12 (by kernel_rfl) (by kernel_rfl) (by kernel_rfl) ?hQ12 ?hy12 ?rest12
      case hi12 => simp only [zge]; rfl
      case hQ12 => exact fun _ _ _ h => h
      case hy12 => exact Or.inl ⟨by rfl, by intro w; go_simp⟩
      try simp only [zpt]
      have c0 : w5.cell? ⟨g, 0, none⟩ = some (ptr top) := BT5.out.cell 0
      have f0 : w5.frozen? ⟨g, 0, none⟩ = false := BT5.out.frozen 0
      refine wpAny_ready (rs := [11]) (by kernel_rfl) (by simp) ?_
      refine AllReady.cons (o := ?p13) ?q13 (fun K hK => ?_) AllReady.nil
      case q13 => simp only [zge]; rfl
      go_simp
      refine hK _ _ ?_
      clear hK K
      try simp only [zpt]
      have BT6 : Blk (w5.setCell ⟨g, 0, none⟩ (ptr (some m'))) g 66 [ptr (some m'), .int .i64 (n' : Int)] := BT5.out.set_ 0 (ptr (some m'))
      rw [HN'.out] at BT6
      have T6 : Hid (TreeAt (w5.setCell ⟨g, 0, none⟩ (ptr (some m'))) g (Tm.put (k, s) l)) := ⟨⟨some m', BT6, T5.out.keep (TrK.setCell _ BT5.out (by decide) (by decide))⟩, HF.out.more0 hk hs⟩
      have GW6 : Hid (w.grownBy (w5.setCell ⟨g, 0, none⟩ (ptr (some m'))) (some g)) := only_setCell GW5.out (.inl rfl) _
      change wpAny _ _ _ _ _ _ _ (w5.setCell ⟨g, 0, none⟩ (ptr (some m')))
      generalize w5.setCell ⟨g, 0, none⟩ (ptr (some m')) = w6 at *
      clear c0 f0 BT6
      refine wpAny_done (by kernel_rfl) ?_ _
      go_wp2_with fail
      go_ret
      exact ⟨by rw [HAD.out]; simp, T6.out, GW6.out⟩
end Go.Proofs.YtmidbpjdpakkoaaDoor
