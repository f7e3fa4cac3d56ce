import Derived.Deep.DeepCutAuto
import Derived.Test.YtmidbpjdpakkoaaDoorSGrow
import Derived.Test.YtmidbpjdpakkoaaDoorSTbg
namespace Go.Proofs.YtmidbpjdpakkoaaDoor.treeHashes
set_option linter.unusedVariables false
set_option linter.unusedSimpArgs false
set_option maxRecDepth 100000
open Go.RowKit
set_option maxRecDepth 100000 in
set_option maxHeartbeats 4000000 in
theorem walk (hB : BegunOk) {A A' : Option Addr} {n c n' c' : Nat} {ba bb : List UInt8} (w : World) (hg : Gl w) (hra : Rd w A n c ba) (hrb : Rd w A' n' c' bb) :
    Calls Tryd.prog 10 #[.slice A n c, .slice A' n' c'] w fun e w' => e = .returned (.bool true) ∧ Below w.heap.size w w' := by
  have HG := Lib.hid hg
  have hsz := hg.size
  have RA := Lib.hid hra
  have RB := Lib.hid hrb
  have HLA := Lib.hid hra.len
  have HLB := Lib.hid hrb.len
  have CG : Hid (∀ W, Below w.heap.size w W → Calls Tryd.prog 14 #[] W fun e w' => e = .returned (.bool true) ∧ Below W.heap.size W w') := fun W hW => hB (hg.below hW hsz)
  obtain ⟨x, hx⟩ : ∃ x, x = padTo 32 ba := ⟨_, rfl⟩
  obtain ⟨y, hy⟩ : ∃ x, x = padTo 32 bb := ⟨_, rfl⟩
  have hxl : x.length = 32 := by rw [hx, padTo_length]
  have hyl : y.length = 32 := by rw [hy, padTo_length]
  have PX : Hid ((List.replicate 32 (Value.int .u8 0)).take 0 ++ (ba.take (min n 32)).map cellOf ++ (List.replicate 32 (Value.int .u8 0)).drop (0 + min n 32) = x.map cellOf) := by unfold Hid; rw [hx]; exact pad_cells 32 n ba hra.len
  have PY : Hid ((List.replicate 32 (Value.int .u8 0)).take 0 ++ (bb.take (min n' 32)).map cellOf ++ (List.replicate 32 (Value.int .u8 0)).drop (0 + min n' 32) = y.map cellOf) := by unfold Hid; rw [hy]; exact pad_cells 32 n' bb hrb.len
  have CL : Hid (∀ W, Below w.heap.size w W → Calls Tryd.prog 34 #[hv x, hv y] W fun e w' => e = .returned (hv (Tm.leaf x y)) ∧ Below W.heap.size W w') := fun W h => tleaf_any (hg.below h hsz) hxl hyl
  have CN : Hid (∀ W, Below w.heap.size w W → Calls Tryd.prog 35 #[hv x, hv y] W fun e w' => e = .returned (hv (Tm.node x y)) ∧ Below W.heap.size W w') := fun W h => tnode_any (hg.below h hsz) hxl hyl
  have DL : Hid (∀ W, Calls Tryd.prog 33 #[hv x, hv y] W fun e w' => e = .returned (hv (Tm.leaf x y)) ∧ Below W.heap.size W w') := fun W => rleaf_any hxl hyl
  have DN : Hid (∀ W, Calls Tryd.prog 36 #[hv x, hv y] W fun e w' => e = .returned (hv (Tm.node x y)) ∧ Below W.heap.size W w') := fun W => rnode_any hxl hyl
  have EL := Lib.hid (hash_eq (Tm.leaf x y) (Tm.leaf x y) (Tm.leaf_length _ _) (Tm.leaf_length _ _))
  have EN := Lib.hid (hash_eq (Tm.node x y) (Tm.node x y) (Tm.node_length _ _) (Tm.node_length _ _))
  rw [decide_eq_true rfl] at EL EN
  have IX := Lib.hid (hash_info hxl)
  have IY := Lib.hid (hash_info hyl)
  unfold hv at CL CN DL DN
  obtain ⟨XC, hXC⟩ : ∃ L, L = x.map cellOf := ⟨_, rfl⟩
  obtain ⟨YC, hYC⟩ : ∃ L, L = y.map cellOf := ⟨_, rfl⟩
  obtain ⟨LC, hLC⟩ : ∃ L, L = (Tm.leaf x y).map cellOf := ⟨_, rfl⟩
  obtain ⟨NC, hNC⟩ : ∃ L, L = (Tm.node x y).map cellOf := ⟨_, rfl⟩
  rw [← hXC] at CL CN DL DN IX PX
  rw [← hYC] at CL CN DL DN IY PY
  rw [← hLC] at CL DL EL
  rw [← hNC] at CN DN EN
  clear hXC hYC hLC hNC hx hy hxl hyl hra hrb hg
  have W := Lib.hid (Below.refl w.heap.size w)
  go_enter Tryd.func10, Tryd.ntmps10
  go_upto_region 4 with (first
    | (go_at_call 14; refine (CG.out w W.out).mono ?_; rintro e w2 ⟨rfl, hX⟩; replace W := Lib.hid (W.out.trans (hX.mono W.out.size)); clear hX))
  go_upto_region 5 with (fail)
  obtain ⟨w4, hw4⟩ : ∃ w4, w4 = (w2.alloc (.cells (List.replicate 32 (Value.int .u8 0)).toArray 30)).alloc (.cells (List.replicate 32 (Value.int .u8 0)).toArray 30) := ⟨_, rfl⟩
  obtain ⟨q0, hq0⟩ : ∃ q, q = w2.heap.size := ⟨_, rfl⟩
  have B0 : Hid (Blk w4 q0 30 (List.replicate 32 (Value.int .u8 0))) := by unfold Hid; rw [hw4, hq0]; exact (Blk.new w2 30 _).alloc _
  have B1 : Hid (Blk w4 (q0 + 1) 30 (List.replicate 32 (Value.int .u8 0))) := by unfold Hid; rw [hw4, hq0]; exact Blk.at_new _ _ 30 _ _ rfl (by simp)
  have W4 : Hid (Below w.heap.size w w4) := by unfold Hid; rw [hw4]; exact (W.out.alloc W.out.size _).alloc (by have := W.out.size; simp; omega) _
  have hwq : w.heap.size ≤ q0 := by rw [hq0]; exact W.out.size
  change Code.wp _ _ _ _ ((w2.alloc (Obj.cells (List.replicate 32 (Value.int .u8 0)).toArray 30)).alloc (Obj.cells (List.replicate 32 (Value.int .u8 0)).toArray 30))
  rw [← hw4, ← hq0]
  clear hw4 hq0 W
  obtain ⟨w5, hcopy, hB5, hO5⟩ := copy_into (off := 0) (dLen := 32) (dCap := 32) B0.out (RA.out.below W4.out) (by simp)
  rw [PX.out] at hB5
  have hs4 := B1.out.lt
  have C1 : Hid (Blk w5 (q0 + 1) 30 (List.replicate 32 (Value.int .u8 0))) := (hO5.block _ hs4 (by simp)).trans B1.out
  have C0 := Lib.hid hB5
  have W5 : Hid (Below w.heap.size w w5) := below_of_only W4.out hO5 hwq (by omega)
  clear hB5 hO5 B0 B1 W4
  go_upto_region 6 with (fail)
  clear hcopy
  obtain ⟨w6, hcopy, hB6, hO6⟩ := copy_into (off := 0) (dLen := 32) (dCap := 32) C1.out (RB.out.below W5.out) (by simp)
  rw [PY.out] at hB6
  have hs5 := C0.out.lt
  have BX : Hid (Blk w6 q0 30 XC) := (hO6.block _ hs5 (by simp)).trans C0.out
  have BY := Lib.hid hB6
  have W : Hid (Below w.heap.size w w6) := below_of_only W5.out hO6 (by omega) (by omega)
  clear hB6 hO6 C0 C1 W5
  go_upto_region 7 with (fail)
  clear hcopy
  have hX := (Below.refl w6.heap.size w6).drew
  replace BX := Lib.hid (BX.out.below hX BX.out.lt)
  replace BY := Lib.hid (BY.out.below hX BY.out.lt)
  replace W := Lib.hid (W.out.trans (hX.mono W.out.size))
  clear hX
  refine wp_region_any (by kernel_rfl) ?_
  change wpAny _ _ _ _ _ _ _ (World.drew _)
  generalize w6.drew = wd at *
  refine phaseL (fun i => if i = 2 then [0, 1] else if i = 5 then [3, 4, 2] else if i = 6 then [2, 5] else []) (fun d a w' => ∃ x17 x18 x19 x20 x21 x22 x23 : Value, a = { tmps := #[.slice A n c, .slice A' n' c', undef, undef, .bool false, .bool true, .pointer (some ⟨q0, 0, none⟩), .pointer (some ⟨q0 + 1, 0, none⟩), .bool true, .bool true, .bool false, .slice (some ⟨q0, 0, none⟩) 32 32, .slice A n c, .int .i64 ((min n 32 : Nat) : Int), .slice (some ⟨q0 + 1, 0, none⟩) 32 32, .slice A' n' c', .int .i64 ((min n' 32 : Nat) : Int), x17, x18, x19, x20, x21, x22, x23, undef, undef, undef, undef, undef, undef, undef, undef, undef], defers := [] } ∧ Hid (Below wd.heap.size wd w') ∧ (d 0 = true → x17 = .agg XC.toArray) ∧ (d 1 = true → x18 = .agg YC.toArray) ∧ (d 2 = true → x19 = .agg LC.toArray) ∧ (d 3 = true → x20 = .agg XC.toArray) ∧ (d 4 = true → x21 = .agg YC.toArray) ∧ (d 5 = true → x22 = .agg LC.toArray) ∧ (d 6 = true → x23 = .bool true)) [0, 1, 2, 3, 4, 5, 6] ?step1 10 7 [0, 1, 2, 3, 4, 5, 6] _ _ _ rfl (by decide) (fun _ h => h) (Fits.of (by kernel_rfl)) ?init1 ?fin1
  case init1 => refine ⟨_, _, _, _, _, _, _, rfl, Below.refl _ _, ?_, ?_, ?_, ?_, ?_, ?_, ?_⟩ <;> (intro h; exact absurd h (by decide))
  case step1 =>
    intro i hi d a v1 hI hdi hdeps
    obtain ⟨x17, x18, x19, x20, x21, x22, x23, rfl, BW, h0, h1, h2, h3, h4, h5, h6⟩ := hI
    have hsw := BW.out.size
    simp only [List.mem_cons, List.not_mem_nil, or_false] at hi
    rcases hi with rfl | rfl | rfl | rfl | rfl | rfl | rfl
    · refine wpOp_step (o := ?os2) ?hos2 (fun K hK => ?_)
      case hos2 => simp only [zge]; rfl
      refine step_loadW rfl 30 (.tmp 6) rfl q0 0 rfl XC _ Tryd.underlying30 rfl IX.out (BX.out.below BW.out BX.out.lt).cells (hK _ _ ?_)
      clear hK K
      try simp only [zpt]
      exact ⟨_, _, _, _, _, _, _, rfl, BW, fun _ => rfl, fun a => by first | exact h1 (by simpa using a) | rfl, fun a => by first | exact h2 (by simpa using a) | rfl, fun a => by first | exact h3 (by simpa using a) | rfl, fun a => by first | exact h4 (by simpa using a) | rfl, fun a => by first | exact h5 (by simpa using a) | rfl, fun a => by first | exact h6 (by simpa using a) | rfl⟩
    · refine wpOp_step (o := ?os3) ?hos3 (fun K hK => ?_)
      case hos3 => simp only [zge]; rfl
      refine step_loadW rfl 30 (.tmp 7) rfl (q0 + 1) 0 rfl YC _ Tryd.underlying30 rfl IY.out (BY.out.below BW.out BY.out.lt).cells (hK _ _ ?_)
      clear hK K
      try simp only [zpt]
      exact ⟨_, _, _, _, _, _, _, rfl, BW, fun a => by first | exact h0 (by simpa using a) | rfl, fun _ => rfl, fun a => by first | exact h2 (by simpa using a) | rfl, fun a => by first | exact h3 (by simpa using a) | rfl, fun a => by first | exact h4 (by simpa using a) | rfl, fun a => by first | exact h5 (by simpa using a) | rfl, fun a => by first | exact h6 (by simpa using a) | rfl⟩
    · obtain rfl := h0 (hdeps 0 (by simp))
      obtain rfl := h1 (hdeps 1 (by simp))
      refine wpOp_step (o := ?os4) ?hos4 (fun K hK => ?_)
      case hos4 => simp only [zge]; rfl
      go_simp
      refine (CL.out v1 (W.out.trans (BW.out.mono W.out.size))).mono ?_
      rintro e u1 ⟨rfl, hX⟩
      refine hK _ _ ?_
      clear hK K
      try simp only [zpt]
      exact ⟨_, _, _, _, _, _, _, rfl, BW.out.trans (hX.mono hsw), fun a => by first | exact h0 (by simpa using a) | rfl, fun a => by first | exact h1 (by simpa using a) | rfl, fun _ => rfl, fun a => by first | exact h3 (by simpa using a) | rfl, fun a => by first | exact h4 (by simpa using a) | rfl, fun a => by first | exact h5 (by simpa using a) | rfl, fun a => by first | exact h6 (by simpa using a) | rfl⟩
    · refine wpOp_step (o := ?os5) ?hos5 (fun K hK => ?_)
      case hos5 => simp only [zge]; rfl
      refine step_loadW rfl 30 (.tmp 6) rfl q0 0 rfl XC _ Tryd.underlying30 rfl IX.out (BX.out.below BW.out BX.out.lt).cells (hK _ _ ?_)
      clear hK K
      try simp only [zpt]
      exact ⟨_, _, _, _, _, _, _, rfl, BW, fun a => by first | exact h0 (by simpa using a) | rfl, fun a => by first | exact h1 (by simpa using a) | rfl, fun a => by first | exact h2 (by simpa using a) | rfl, fun _ => rfl, fun a => by first | exact h4 (by simpa using a) | rfl, fun a => by first | exact h5 (by simpa using a) | rfl, fun a => by first | exact h6 (by simpa using a) | rfl⟩
    · refine wpOp_step (o := ?os6) ?hos6 (fun K hK => ?_)
      case hos6 => simp only [zge]; rfl
      refine step_loadW rfl 30 (.tmp 7) rfl (q0 + 1) 0 rfl YC _ Tryd.underlying30 rfl IY.out (BY.out.below BW.out BY.out.lt).cells (hK _ _ ?_)
      clear hK K
      try simp only [zpt]
      exact ⟨_, _, _, _, _, _, _, rfl, BW, fun a => by first | exact h0 (by simpa using a) | rfl, fun a => by first | exact h1 (by simpa using a) | rfl, fun a => by first | exact h2 (by simpa using a) | rfl, fun a => by first | exact h3 (by simpa using a) | rfl, fun _ => rfl, fun a => by first | exact h5 (by simpa using a) | rfl, fun a => by first | exact h6 (by simpa using a) | rfl⟩
    · obtain rfl := h3 (hdeps 3 (by simp))
      obtain rfl := h4 (hdeps 4 (by simp))
      refine wpOp_step (o := ?os7) ?hos7 (fun K hK => ?_)
      case hos7 => simp only [zge]; rfl
      go_simp
      refine (DL.out v1 ).mono ?_
      rintro e u1 ⟨rfl, hX⟩
      refine hK _ _ ?_
      clear hK K
      try simp only [zpt]
      exact ⟨_, _, _, _, _, _, _, rfl, BW.out.trans (hX.mono hsw), fun a => by first | exact h0 (by simpa using a) | rfl, fun a => by first | exact h1 (by simpa using a) | rfl, fun a => by first | exact h2 (by simpa using a) | rfl, fun a => by first | exact h3 (by simpa using a) | rfl, fun a => by first | exact h4 (by simpa using a) | rfl, fun _ => rfl, fun a => by first | exact h6 (by simpa using a) | rfl⟩
    · obtain rfl := h2 (hdeps 2 (by simp))
      obtain rfl := h5 (hdeps 5 (by simp))
      have el := EL.out
      refine wpOp_step (o := ?os8) ?hos8 (fun K hK => ?_)
      case hos8 => simp only [zge]; rfl
      go_simp
      refine hK _ _ ?_
      clear hK K
      try simp only [zpt]
      exact ⟨_, _, _, _, _, _, _, rfl, BW, fun a => by first | exact h0 (by simpa using a) | rfl, fun a => by first | exact h1 (by simpa using a) | rfl, fun a => by first | exact h2 (by simpa using a) | rfl, fun a => by first | exact h3 (by simpa using a) | rfl, fun a => by first | exact h4 (by simpa using a) | rfl, fun a => by first | exact h5 (by simpa using a) | rfl, fun _ => rfl⟩
  case fin1 =>
    intro a v1 hI
    obtain ⟨x17, x18, x19, x20, x21, x22, x23, rfl, BW, h0, h1, h2, h3, h4, h5, h6⟩ := hI
    obtain rfl := h0 (by decide)
    obtain rfl := h1 (by decide)
    obtain rfl := h2 (by decide)
    obtain rfl := h3 (by decide)
    obtain rfl := h4 (by decide)
    obtain rfl := h5 (by decide)
    obtain rfl := h6 (by decide)
    have hX := BW.out
    replace BX := Lib.hid (BX.out.below hX BX.out.lt)
    replace BY := Lib.hid (BY.out.below hX BY.out.lt)
    replace W := Lib.hid (W.out.trans (hX.mono W.out.size))
    clear hX BW
    try dsimp only
    refine wpAny_take (i := 7) (oi := ?oi9) (v := .bool true) ?hi9 (by kernel_rfl) (by kernel_rfl) (by kernel_rfl) ?hQ9 ?hy9 ?rest9
    case hi9 => simp only [zge]; rfl
    case hQ9 => exact fun _ _ _ h => h
    case hy9 => exact Or.inl ⟨by rfl, by intro w; go_simp⟩
    try simp only [zpt]
    refine phaseL (fun i => if i = 10 then [8, 9] else if i = 13 then [11, 12, 10] else if i = 14 then [10, 13] else []) (fun d a w' => ∃ x25 x26 x27 x28 x29 x30 x31 : Value, a = { tmps := #[.slice A n c, .slice A' n' c', undef, undef, .bool false, .bool true, .pointer (some ⟨q0, 0, none⟩), .pointer (some ⟨q0 + 1, 0, none⟩), .bool true, .bool true, .bool false, .slice (some ⟨q0, 0, none⟩) 32 32, .slice A n c, .int .i64 ((min n 32 : Nat) : Int), .slice (some ⟨q0 + 1, 0, none⟩) 32 32, .slice A' n' c', .int .i64 ((min n' 32 : Nat) : Int), .agg XC.toArray, .agg YC.toArray, .agg LC.toArray, .agg XC.toArray, .agg YC.toArray, .agg LC.toArray, .bool true, .bool true, x25, x26, x27, x28, x29, x30, x31, undef], defers := [] } ∧ Hid (Below v1.heap.size v1 w') ∧ (d 8 = true → x25 = .agg XC.toArray) ∧ (d 9 = true → x26 = .agg YC.toArray) ∧ (d 10 = true → x27 = .agg NC.toArray) ∧ (d 11 = true → x28 = .agg XC.toArray) ∧ (d 12 = true → x29 = .agg YC.toArray) ∧ (d 13 = true → x30 = .agg NC.toArray) ∧ (d 14 = true → x31 = .bool true)) [8, 9, 10, 11, 12, 13, 14] ?step10 2 7 [8, 9, 10, 11, 12, 13, 14] _ _ _ rfl (by decide) (fun _ h => h) (Fits.of (by kernel_rfl)) ?init10 ?fin10
    case init10 => refine ⟨_, _, _, _, _, _, _, rfl, Below.refl _ _, ?_, ?_, ?_, ?_, ?_, ?_, ?_⟩ <;> (intro h; exact absurd h (by decide))
    case step10 =>
      intro i hi d a v10 hI hdi hdeps
      obtain ⟨x25, x26, x27, x28, x29, x30, x31, rfl, BW, h8, h9, h10, h11, h12, h13, h14⟩ := hI
      have hsw := BW.out.size
      simp only [List.mem_cons, List.not_mem_nil, or_false] at hi
      rcases hi with rfl | rfl | rfl | rfl | rfl | rfl | rfl
      · refine wpOp_step (o := ?os11) ?hos11 (fun K hK => ?_)
        case hos11 => simp only [zge]; rfl
        refine step_loadW (by kernel_rfl) 30 (.tmp 6) rfl q0 0 rfl XC _ Tryd.underlying30 rfl IX.out (BX.out.below BW.out BX.out.lt |>.cells) (hK _ _ ?_)
        clear hK K
        try simp only [zpt]
        exact ⟨_, _, _, _, _, _, _, rfl, BW, fun _ => rfl, fun a => by first | exact h9 (by simpa using a) | rfl, fun a => by first | exact h10 (by simpa using a) | rfl, fun a => by first | exact h11 (by simpa using a) | rfl, fun a => by first | exact h12 (by simpa using a) | rfl, fun a => by first | exact h13 (by simpa using a) | rfl, fun a => by first | exact h14 (by simpa using a) | rfl⟩
      · refine wpOp_step (o := ?os12) ?hos12 (fun K hK => ?_)
        case hos12 => simp only [zge]; rfl
        refine step_loadW (by kernel_rfl) 30 (.tmp 7) rfl (q0 + 1) 0 rfl YC _ Tryd.underlying30 rfl IY.out (BY.out.below BW.out BY.out.lt |>.cells) (hK _ _ ?_)
        clear hK K
        try simp only [zpt]
        exact ⟨_, _, _, _, _, _, _, rfl, BW, fun a => by first | exact h8 (by simpa using a) | rfl, fun _ => rfl, fun a => by first | exact h10 (by simpa using a) | rfl, fun a => by first | exact h11 (by simpa using a) | rfl, fun a => by first | exact h12 (by simpa using a) | rfl, fun a => by first | exact h13 (by simpa using a) | rfl, fun a => by first | exact h14 (by simpa using a) | rfl⟩
      · obtain rfl := h8 (hdeps 8 (by simp))
        obtain rfl := h9 (hdeps 9 (by simp))
        refine wpOp_step (o := ?os13) ?hos13 (fun K hK => ?_)
        case hos13 => simp only [zge]; rfl
        go_simp
        refine (CN.out v10 (W.out.trans (BW.out.mono W.out.size))).mono ?_
        rintro e u10 ⟨rfl, hX⟩
        refine hK _ _ ?_
        clear hK K
        try simp only [zpt]
        exact ⟨_, _, _, _, _, _, _, rfl, BW.out.trans (hX.mono hsw), fun a => by first | exact h8 (by simpa using a) | rfl, fun a => by first | exact h9 (by simpa using a) | rfl, fun _ => rfl, fun a => by first | exact h11 (by simpa using a) | rfl, fun a => by first | exact h12 (by simpa using a) | rfl, fun a => by first | exact h13 (by simpa using a) | rfl, fun a => by first | exact h14 (by simpa using a) | rfl⟩
      · refine wpOp_step (o := ?os14) ?hos14 (fun K hK => ?_)
        case hos14 => simp only [zge]; rfl
        refine step_loadW (by kernel_rfl) 30 (.tmp 6) rfl q0 0 rfl XC _ Tryd.underlying30 rfl IX.out (BX.out.below BW.out BX.out.lt |>.cells) (hK _ _ ?_)
        clear hK K
        try simp only [zpt]
        exact ⟨_, _, _, _, _, _, _, rfl, BW, fun a => by first | exact h8 (by simpa using a) | rfl, fun a => by first | exact h9 (by simpa using a) | rfl, fun a => by first | exact h10 (by simpa using a) | rfl, fun _ => rfl, fun a => by first | exact h12 (by simpa using a) | rfl, fun a => by first | exact h13 (by simpa using a) | rfl, fun a => by first | exact h14 (by simpa using a) | rfl⟩
      · refine wpOp_step (o := ?os15) ?hos15 (fun K hK => ?_)
        case hos15 => simp only [zge]; rfl
        refine step_loadW (by kernel_rfl) 30 (.tmp 7) rfl (q0 + 1) 0 rfl YC _ Tryd.underlying30 rfl IY.out (BY.out.below BW.out BY.out.lt |>.cells) (hK _ _ ?_)
        clear hK K
        try simp only [zpt]
        exact ⟨_, _, _, _, _, _, _, rfl, BW, fun a => by first | exact h8 (by simpa using a) | rfl, fun a => by first | exact h9 (by simpa using a) | rfl, fun a => by first | exact h10 (by simpa using a) | rfl, fun a => by first | exact h11 (by simpa using a) | rfl, fun _ => rfl, fun a => by first | exact h13 (by simpa using a) | rfl, fun a => by first | exact h14 (by simpa using a) | rfl⟩
      · obtain rfl := h11 (hdeps 11 (by simp))
        obtain rfl := h12 (hdeps 12 (by simp))
        refine wpOp_step (o := ?os16) ?hos16 (fun K hK => ?_)
        case hos16 => simp only [zge]; rfl
        go_simp
        refine (DN.out v10 ).mono ?_
        rintro e u10 ⟨rfl, hX⟩
        refine hK _ _ ?_
        clear hK K
        try simp only [zpt]
        exact ⟨_, _, _, _, _, _, _, rfl, BW.out.trans (hX.mono hsw), fun a => by first | exact h8 (by simpa using a) | rfl, fun a => by first | exact h9 (by simpa using a) | rfl, fun a => by first | exact h10 (by simpa using a) | rfl, fun a => by first | exact h11 (by simpa using a) | rfl, fun a => by first | exact h12 (by simpa using a) | rfl, fun _ => rfl, fun a => by first | exact h14 (by simpa using a) | rfl⟩
      · obtain rfl := h10 (hdeps 10 (by simp))
        obtain rfl := h13 (hdeps 13 (by simp))
        have el := EN.out
        refine wpOp_step (o := ?os17) ?hos17 (fun K hK => ?_)
        case hos17 => simp only [zge]; rfl
        go_simp
        refine hK _ _ ?_
        clear hK K
        try simp only [zpt]
        exact ⟨_, _, _, _, _, _, _, rfl, BW, fun a => by first | exact h8 (by simpa using a) | rfl, fun a => by first | exact h9 (by simpa using a) | rfl, fun a => by first | exact h10 (by simpa using a) | rfl, fun a => by first | exact h11 (by simpa using a) | rfl, fun a => by first | exact h12 (by simpa using a) | rfl, fun a => by first | exact h13 (by simpa using a) | rfl, fun _ => rfl⟩
    case fin10 =>
      intro a v10 hI
      obtain ⟨x25, x26, x27, x28, x29, x30, x31, rfl, BW, h8, h9, h10, h11, h12, h13, h14⟩ := hI
      obtain rfl := h8 (by decide)
      obtain rfl := h9 (by decide)
      obtain rfl := h10 (by decide)
      obtain rfl := h11 (by decide)
      obtain rfl := h12 (by decide)
      obtain rfl := h13 (by decide)
      obtain rfl := h14 (by decide)
      have hX := BW.out
      replace BX := Lib.hid (BX.out.below hX BX.out.lt)
      replace BY := Lib.hid (BY.out.below hX BY.out.lt)
      replace W := Lib.hid (W.out.trans (hX.mono W.out.size))
      clear hX BW
      try dsimp only
      refine wpAny_take (i := 15) (oi := ?oi18) (v := .bool true) ?hi18 (by kernel_rfl) (by kernel_rfl) (by kernel_rfl) ?hQ18 ?hy18 ?rest18
      case hi18 => simp only [zge]; rfl
      case hQ18 => exact fun _ _ _ h => h
      case hy18 => exact Or.inl ⟨by rfl, by intro w; go_simp⟩
      try simp only [zpt]
      refine wpAny_take (i := 16) (oi := ?oi19) (v := .bool true) ?hi19 (by kernel_rfl) (by kernel_rfl) (by kernel_rfl) ?hQ19 ?hy19 ?rest19
      case hi19 => simp only [zge]; rfl
      case hQ19 => exact fun _ _ _ h => h
      case hy19 => exact Or.inl ⟨by rfl, by intro w; go_simp⟩
      try simp only [zpt]
      refine wpAny_done (by kernel_rfl) ?_ _
      go_wp2_with fail
      go_ret
      exact ⟨rfl, W.out⟩
end Go.Proofs.YtmidbpjdpakkoaaDoor.treeHashes
