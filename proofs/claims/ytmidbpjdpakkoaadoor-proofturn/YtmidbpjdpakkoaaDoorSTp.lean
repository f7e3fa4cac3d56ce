import Derived.Test.YtmidbpjdpakkoaaDoorSTo
namespace Go.Proofs.YtmidbpjdpakkoaaDoor
set_option linter.unusedVariables false
set_option linter.unusedSimpArgs false
set_option maxRecDepth 100000
open Go.RowKit
def At (w : World) (B : Nat) (x : Value) (t : TypeId) (cs : List Value) : Prop := ∃ q, x = .pointer (some ⟨q, 0, none⟩) ∧ B ≤ q ∧ Blk w q t cs
theorem At.below {w w' : World} {B : Nat} {x : Value} {t : TypeId} {cs : List Value} (h : At w B x t cs) (hb : Below w.heap.size w w') : At w' B x t cs := by
  obtain ⟨q, h1, h2, h3⟩ := h
  exact ⟨q, h1, h2, h3.below hb h3.lt⟩
theorem At.new (w : World) {B : Nat} (t : TypeId) (cs : List Value) (hB : B ≤ w.heap.size) : At (w.alloc (.cells cs.toArray t)) B (.pointer (some ⟨w.heap.size, 0, none⟩)) t cs := ⟨_, rfl, hB, Blk.new w t cs⟩
theorem builtLeaf {a b : List Value} (ha : a.length = 32) (hb : b.length = 32) : Tryd.prog.built 75 [(0, .agg a.toArray), (1, .agg b.toArray)] = some (a ++ b).toArray := by
  obtain ⟨a0, a1, a2, a3, a4, a5, a6, a7, a8, a9, a10, a11, a12, a13, a14, a15, a16, a17, a18, a19, a20, a21, a22, a23, a24, a25, a26, a27, a28, a29, a30, a31, rfl⟩ := list32 ha
  obtain ⟨b0, b1, b2, b3, b4, b5, b6, b7, b8, b9, b10, b11, b12, b13, b14, b15, b16, b17, b18, b19, b20, b21, b22, b23, b24, b25, b26, b27, b28, b29, b30, b31, rfl⟩ := list32 hb
  kernel_rfl
theorem builtNode1 {a : List Value} (ha : a.length = 32) (p : Option Addr) : Tryd.prog.built 72 [(0, .agg a.toArray), (1, .pointer p)] = some (a ++ [Value.pointer p, .pointer none, .pointer none]).toArray := by
  obtain ⟨a0, a1, a2, a3, a4, a5, a6, a7, a8, a9, a10, a11, a12, a13, a14, a15, a16, a17, a18, a19, a20, a21, a22, a23, a24, a25, a26, a27, a28, a29, a30, a31, rfl⟩ := list32 ha
  kernel_rfl
theorem builtNode2 {a : List Value} (ha : a.length = 32) (p p' : Option Addr) : Tryd.prog.built 72 [(0, .agg a.toArray), (2, .agg #[.pointer p, .pointer p'])] = some (a ++ [Value.pointer none, .pointer p, .pointer p']).toArray := by
  obtain ⟨a0, a1, a2, a3, a4, a5, a6, a7, a8, a9, a10, a11, a12, a13, a14, a15, a16, a17, a18, a19, a20, a21, a22, a23, a24, a25, a26, a27, a28, a29, a30, a31, rfl⟩ := list32 ha
  kernel_rfl
set_option maxRecDepth 100000 in
set_option maxHeartbeats 2000000 in
theorem one_any {w : World} (hg : Gl w) {a b : List UInt8} (ha : a.length = 32) (hb : b.length = 32) : Calls Tryd.prog 45 #[hv a, hv b] w fun e w' => ∃ g, e = .returned (.pointer (some ⟨g, 0, none⟩)) ∧ (∃ q, Blk w' g 72 (nodeL (Tm.leaf a b) (some q) none none) ∧ Blk w' q 75 (leafL (a, b))) ∧ Below w.heap.size w w' := by
  have hsz := hg.size
  have CL : Hid (∀ W : World, Below w.heap.size w W → Calls Tryd.prog 34 #[hv a, hv b] W fun e w' => e = .returned (hv (Tm.leaf a b)) ∧ Below W.heap.size W w') := fun W hX => tleaf_any (hg.below hX hsz) ha hb
  have HLL := Lib.hid (Tm.leaf_length a b)
  have HI := Lib.hid (hash_info ha)
  have HJ := Lib.hid (hash_info hb)
  have HBL : Hid (Tryd.prog.built 75 [(0, .agg (a.map cellOf).toArray), (1, .agg (b.map cellOf).toArray)] = some (leafL (a, b)).toArray) := builtLeaf (by simpa using ha) (by simpa using hb)
  have HBN : Hid (∀ x, Tryd.prog.built 72 [(0, .agg ((Tm.leaf a b).map cellOf).toArray), (1, .pointer x)] = some (((Tm.leaf a b).map cellOf) ++ [Value.pointer x, .pointer none, .pointer none]).toArray) := fun x => builtNode1 (by simpa using HLL.out) x
  unfold nodeL
  obtain ⟨LL, hLL⟩ : ∃ LL, LL = leafL (a, b) := ⟨_, rfl⟩
  rw [← hLL] at HBL ⊢
  obtain ⟨h, hh⟩ : ∃ h, h = Tm.leaf a b := ⟨_, rfl⟩
  rw [← hh] at CL HBN HLL ⊢
  unfold hv at CL ⊢
  obtain ⟨D, hD⟩ : ∃ D, D = h.map cellOf := ⟨_, rfl⟩
  rw [← hD] at CL HBN ⊢
  obtain ⟨L, hL⟩ : ∃ L, L = a.map cellOf := ⟨_, rfl⟩
  obtain ⟨S, hS⟩ : ∃ S, S = b.map cellOf := ⟨_, rfl⟩
  rw [← hL, ← hS] at CL HBL ⊢
  rw [← hL] at HI
  rw [← hS] at HJ
  obtain ⟨w1, hw1⟩ : ∃ w1, w1 = ((w.alloc (.cells L.toArray 30)).alloc (.cells S.toArray 30)).drew := ⟨_, rfl⟩
  have HW : Hid (Below w.heap.size w w1) := by unfold Hid; rw [hw1]; exact (((Below.refl _ _).alloc (Nat.le_refl _) _).alloc (by simp) _).drew
  have BL : Hid (Blk w1 w.heap.size 30 L) := by unfold Hid; rw [hw1]; exact ((Blk.new w 30 _).alloc _).drew
  have BS : Hid (Blk w1 (w.heap.size + 1) 30 S) := by unfold Hid; rw [hw1]; exact (Blk.at_new _ _ 30 _ _ rfl (by simp)).drew
  have hs1 := HW.out.size
  clear hg hL hS hLL hh hD
  go_enter Tryd.func45, Tryd.ntmps45
  go_upto_region 1 with (fail)
  refine wp_region_any (by kernel_rfl) ?_
  change wpAny _ _ _ _ _ _ _ (((w.alloc (.cells L.toArray 30)).alloc (.cells S.toArray 30)).drew)
  rw [← hw1]
  clear hw1
  refine phaseL (fun i => if i = 2 then [0, 1] else if i = 5 then [3, 4] else if i = 6 then [5] else []) (fun d a w' => ∃ x5 x6 x7 x8 x9 x10 x11 : Value, a = { tmps := #[.agg L.toArray, .agg S.toArray, .pointer (some ⟨w.heap.size, 0, none⟩), .pointer (some ⟨w.heap.size + 1, 0, none⟩), .pointer none, x5, x6, x7, x8, x9, x10, x11, undef, undef], defers := [] } ∧ Hid (Below w1.heap.size w1 w') ∧ (d 0 = true → x5 = .agg L.toArray) ∧ (d 1 = true → x6 = .agg S.toArray) ∧ (d 2 = true → x7 = .agg D.toArray) ∧ (d 3 = true → x8 = .agg L.toArray) ∧ (d 4 = true → x9 = .agg S.toArray) ∧ (d 5 = true → x10 = .agg LL.toArray) ∧ (d 6 = true → Hid (At w' w1.heap.size x11 75 LL))) [0, 1, 2, 3, 4, 5, 6] ?step1 3 7 [0, 1, 2, 3, 4, 5, 6] _ _ _ rfl (by decide) (fun _ h => h) (Fits.of (by kernel_rfl)) ?init1 ?fin1
  case init1 => refine ⟨_, _, _, _, _, _, _, rfl, Below.refl _ _, ?_, ?_, ?_, ?_, ?_, ?_, ?_⟩ <;> (intro h; exact absurd h (by decide))
  case step1 =>
    intro i hi d a v1 hI hdi hdeps
    obtain ⟨x5, x6, x7, x8, x9, x10, x11, rfl, BW, h0, h1, h2, h3, h4, h5, h6⟩ := hI
    have hsw := BW.out.size
    simp only [List.mem_cons, List.not_mem_nil, or_false] at hi
    rcases hi with rfl | rfl | rfl | rfl | rfl | rfl | rfl
    · refine wpOp_step (o := ?os2) ?hos2 (fun K hK => ?_)
      case hos2 => simp only [zge]; rfl
      refine step_loadW rfl 30 (.tmp 2) rfl w.heap.size 0 rfl L _ Tryd.underlying30 rfl HI.out (BL.out.below BW.out BL.out.lt).cells (hK _ _ ?_)
      clear hK K
      try simp only [zpt]
      exact ⟨_, _, _, _, _, _, _, rfl, BW, fun _ => rfl, fun a => by first | exact h1 (by simpa using a) | rfl, fun a => by first | exact h2 (by simpa using a) | rfl, fun a => by first | exact h3 (by simpa using a) | rfl, fun a => by first | exact h4 (by simpa using a) | rfl, fun a => by first | exact h5 (by simpa using a) | rfl, fun a => h6 (by simpa using a)⟩
    · refine wpOp_step (o := ?os3) ?hos3 (fun K hK => ?_)
      case hos3 => simp only [zge]; rfl
      refine step_loadW rfl 30 (.tmp 3) rfl (w.heap.size + 1) 0 rfl S _ Tryd.underlying30 rfl HJ.out (BS.out.below BW.out BS.out.lt).cells (hK _ _ ?_)
      clear hK K
      try simp only [zpt]
      exact ⟨_, _, _, _, _, _, _, rfl, BW, fun a => by first | exact h0 (by simpa using a) | rfl, fun _ => rfl, fun a => by first | exact h2 (by simpa using a) | rfl, fun a => by first | exact h3 (by simpa using a) | rfl, fun a => by first | exact h4 (by simpa using a) | rfl, fun a => by first | exact h5 (by simpa using a) | rfl, fun a => h6 (by simpa using a)⟩
    · obtain rfl := h0 (hdeps 0 (by simp))
      obtain rfl := h1 (hdeps 1 (by simp))
      refine wpOp_step (o := ?os4) ?hos4 (fun K hK => ?_)
      case hos4 => simp only [zge]; rfl
      go_simp
      refine (CL.out v1 (HW.out.trans (BW.out.mono HW.out.size))).mono ?_
      rintro e u1 ⟨rfl, hX⟩
      refine hK _ _ ?_
      clear hK K
      try simp only [zpt]
      exact ⟨_, _, _, _, _, _, _, rfl, BW.out.trans (hX.mono hsw), fun a => by first | exact h0 (by simpa using a) | rfl, fun a => by first | exact h1 (by simpa using a) | rfl, fun _ => rfl, fun a => by first | exact h3 (by simpa using a) | rfl, fun a => by first | exact h4 (by simpa using a) | rfl, fun a => by first | exact h5 (by simpa using a) | rfl, fun a => (h6 (by simpa using a)).out.below hX⟩
    · refine wpOp_step (o := ?os5) ?hos5 (fun K hK => ?_)
      case hos5 => simp only [zge]; rfl
      refine step_loadW rfl 30 (.tmp 2) rfl w.heap.size 0 rfl L _ Tryd.underlying30 rfl HI.out (BL.out.below BW.out BL.out.lt).cells (hK _ _ ?_)
      clear hK K
      try simp only [zpt]
      exact ⟨_, _, _, _, _, _, _, rfl, BW, fun a => by first | exact h0 (by simpa using a) | rfl, fun a => by first | exact h1 (by simpa using a) | rfl, fun a => by first | exact h2 (by simpa using a) | rfl, fun _ => rfl, fun a => by first | exact h4 (by simpa using a) | rfl, fun a => by first | exact h5 (by simpa using a) | rfl, fun a => h6 (by simpa using a)⟩
    · refine wpOp_step (o := ?os6) ?hos6 (fun K hK => ?_)
      case hos6 => simp only [zge]; rfl
      refine step_loadW rfl 30 (.tmp 3) rfl (w.heap.size + 1) 0 rfl S _ Tryd.underlying30 rfl HJ.out (BS.out.below BW.out BS.out.lt).cells (hK _ _ ?_)
      clear hK K
      try simp only [zpt]
      exact ⟨_, _, _, _, _, _, _, rfl, BW, fun a => by first | exact h0 (by simpa using a) | rfl, fun a => by first | exact h1 (by simpa using a) | rfl, fun a => by first | exact h2 (by simpa using a) | rfl, fun a => by first | exact h3 (by simpa using a) | rfl, fun _ => rfl, fun a => by first | exact h5 (by simpa using a) | rfl, fun a => h6 (by simpa using a)⟩
    · obtain rfl := h3 (hdeps 3 (by simp))
      obtain rfl := h4 (hdeps 4 (by simp))
      refine wpOp_step (o := ?os7) ?hos7 (fun K hK => ?_)
      case hos7 => simp only [zge]; rfl
      refine step_build rfl 75 #[(0, .tmp 8), (1, .tmp 9)] rfl LL (by simp only [List.map_toArray, List.map_cons, List.map_nil]; exact HBL.out) (hK _ _ ?_)
      clear hK K
      try simp only [zpt]
      exact ⟨_, _, _, _, _, _, _, rfl, BW, fun a => by first | exact h0 (by simpa using a) | rfl, fun a => by first | exact h1 (by simpa using a) | rfl, fun a => by first | exact h2 (by simpa using a) | rfl, fun a => by first | exact h3 (by simpa using a) | rfl, fun a => by first | exact h4 (by simpa using a) | rfl, fun _ => rfl, fun a => h6 (by simpa using a)⟩
    · obtain rfl := h5 (hdeps 5 (by simp))
      have hX := alloc_below v1 (.cells LL.toArray 75)
      refine wpOp_step (o := ?os8) ?hos8 (fun K hK => ?_)
      case hos8 => simp only [zge]; rfl
      go_simp
      refine hK _ _ ?_
      clear hK K
      try simp only [zpt]
      exact ⟨_, _, _, _, _, _, _, rfl, BW.out.trans (hX.mono hsw), fun a => by first | exact h0 (by simpa using a) | rfl, fun a => by first | exact h1 (by simpa using a) | rfl, fun a => by first | exact h2 (by simpa using a) | rfl, fun a => by first | exact h3 (by simpa using a) | rfl, fun a => by first | exact h4 (by simpa using a) | rfl, fun a => by first | exact h5 (by simpa using a) | rfl, fun _ => At.new _ _ _ hsw⟩
  case fin1 =>
    intro a v1 hI
    obtain ⟨x5, x6, x7, x8, x9, x10, x11, rfl, BW, h0, h1, h2, h3, h4, h5, h6⟩ := hI
    obtain rfl := h0 (by decide)
    obtain rfl := h1 (by decide)
    obtain rfl := h2 (by decide)
    obtain rfl := h3 (by decide)
    obtain rfl := h4 (by decide)
    obtain rfl := h5 (by decide)
    obtain ⟨q, rfl, hq, hQ⟩ := (h6 (by decide)).out
    have W2 := Lib.hid (HW.out.trans (BW.out.mono HW.out.size))
    have BQ := Lib.hid hQ
    have BN := Lib.hid (HBN.out (some ⟨q, 0, none⟩))
    obtain ⟨NL, hNL⟩ : ∃ NL, NL = D ++ [Value.pointer (some ⟨q, 0, none⟩), .pointer none, .pointer none] := ⟨_, rfl⟩
    rw [← hNL] at BN
    have HNL := Lib.hid hNL
    have X3 := Lib.hid (alloc_below v1 (.cells NL.toArray 72))
    have B3 := Lib.hid (Blk.new v1 72 NL)
    clear h6 hQ hq BW HW BL BS CL HBN hNL
    try dsimp only
    refine wpAny_ready (rs := [7]) (by kernel_rfl) (by simp) ?_
    refine AllReady.cons (o := ?p9) ?q9 (fun K hK => ?_) AllReady.nil
    case q9 => simp only [zge]; rfl
    refine step_build rfl 72 #[(0, .tmp 7), (1, .tmp 11)] rfl NL (by simp only [List.map_toArray, List.map_cons, List.map_nil]; exact BN.out) (hK _ _ ?_)
    clear hK K
    try simp only [zpt]
    refine wpAny_ready (rs := [8]) (by kernel_rfl) (by simp) ?_
    refine AllReady.cons (o := ?p10) ?q10 (fun K hK => ?_) AllReady.nil
    case q10 => simp only [zge]; rfl
    go_simp
    refine hK _ _ ?_
    clear hK K
    try simp only [zpt]
    generalize v1.alloc (.cells NL.toArray 72) = w3 at *
    have W3 := Lib.hid (W2.out.trans (X3.out.mono W2.out.size))
    have Q3 := Lib.hid (BQ.out.below X3.out BQ.out.lt)
    refine wpAny_take (i := 9) (oi := ?oi11) (v := .pointer (some ⟨v1.heap.size, 0, none⟩)) ?hi11 (by kernel_rfl) (by kernel_rfl) (by kernel_rfl) ?hQ11 ?hy11 ?rest11
    case hi11 => simp only [zge]; rfl
    case hQ11 => exact fun _ _ _ h => h
    case hy11 => exact Or.inl ⟨by rfl, by intro w; go_simp⟩
    try simp only [zpt]
    refine wpAny_done (by kernel_rfl) ?_ _
    go_wp2_with fail
    go_ret
    exact ⟨_, rfl, ⟨q, by have := B3.out; rw [HNL.out] at this; exact this, Q3.out⟩, W3.out⟩
end Go.Proofs.YtmidbpjdpakkoaaDoor
