import Derived.Deep.RegionWith
import Derived.Deep.RegionHeld3
import Derived.Test.YtijncclcdkgaoaaDoorSBegun9
import Derived.Test.YtijncclcdkgaoaaDoorSPhase
import Derived.Test.YtijncclcdkgaoaaDoorSRm
import Derived.Test.YtijncclcdkgaoaaDoorSDoc
namespace Go.Proofs.YtijncclcdkgaoaaDoor
set_option linter.unusedVariables false
open Go.RowKit
end Go.Proofs.YtijncclcdkgaoaaDoor
namespace Go.Proofs.YtijncclcdkgaoaaDoor.recShape
set_option linter.unusedVariables false
set_option linter.unusedSimpArgs false
set_option maxRecDepth 100000
open Go.RowKit
set_option maxRecDepth 100000 in
set_option maxHeartbeats 4000000 in
theorem walk {P : BxP} (hB : BoxOk P) (va vb : Int) (ga gb : Bool) (la lb : List UInt8) (sd : Int) (w : World) (hg : Gl w) (ha : la.length ≤ 9223372036854775807) (hb : lb.length ≤ 9223372036854775807) (h1 : -9223372036854775808 ≤ sd) (h2 : sd ≤ 9223372036854775807) : Calls Tryd.prog 7 #[.agg #[.int .i64 va, .bool ga, .string ⟨la.toArray⟩], .agg #[.int .i64 vb, .bool gb, .string ⟨lb.toArray⟩], .int .i64 sd] w fun e w' => e = .returned (.bool true) ∧ Below w.heap.size w w' := by
  have HG := Lib.hid hg
  have HB := Lib.hid hB
  have hsz := hg.size
  have CA : Hid (∀ W, Calls Tryd.prog 22 #[.string ⟨la.toArray⟩, .int .i64 1000] W fun e w' => e = .returned (.string ⟨(la.take 1000).toArray⟩) ∧ W = w') := fun W => cut_eq 1000 ha (by omega)
  have CB : Hid (∀ W, Calls Tryd.prog 22 #[.string ⟨lb.toArray⟩, .int .i64 1000] W fun e w' => e = .returned (.string ⟨(lb.take 1000).toArray⟩) ∧ W = w') := fun W => cut_eq 1000 hb (by omega)
  obtain ⟨sa, hsa⟩ : ∃ s, s = (⟨la.toArray⟩ : ByteArray) := ⟨_, rfl⟩
  obtain ⟨sb, hsb⟩ : ∃ s, s = (⟨lb.toArray⟩ : ByteArray) := ⟨_, rfl⟩
  obtain ⟨ka, hka⟩ : ∃ s, s = la.take 1000 := ⟨_, rfl⟩
  obtain ⟨kb, hkb⟩ : ∃ s, s = lb.take 1000 := ⟨_, rfl⟩
  have hla : ka.length ≤ 1000 := by rw [hka, List.length_take]; omega
  have hlb : kb.length ≤ 1000 := by rw [hkb, List.length_take]; omega
  rw [← hsa, ← hka] at CA
  rw [← hsb, ← hkb] at CB
  rw [← hsa, ← hsb]
  clear hg hB hsa hsb hka hkb ha hb
  go_enter Tryd.func7, Tryd.ntmps7
  go_upto_region 1 with (fail)
  have BA : Hid (Blk ((w.alloc (.cells #[.int .i64 va, .bool ga, .string sa] 42)).alloc (.cells #[.int .i64 vb, .bool gb, .string sb] 42)) w.heap.size 42 [.int .i64 va, .bool ga, .string sa]) := (Blk.new _ _ _).alloc _
  have BB : Hid (Blk ((w.alloc (.cells #[.int .i64 va, .bool ga, .string sa] 42)).alloc (.cells #[.int .i64 vb, .bool gb, .string sb] 42)) (w.heap.size + 1) 42 [.int .i64 vb, .bool gb, .string sb]) := Blk.at_new _ _ _ _ _ (by rfl) (by simp)
  have W0 := Lib.hid (((Below.refl w.heap.size w).alloc (Nat.le_refl _) (.cells #[.int .i64 va, .bool ga, .string sa] 42)).alloc (by simp) (.cells #[.int .i64 vb, .bool gb, .string sb] 42))
  generalize (w.alloc (.cells #[.int .i64 va, .bool ga, .string sa] 42)).alloc (.cells #[.int .i64 vb, .bool gb, .string sb] 42) = w0 at *
  obtain ⟨g1, hg1⟩ : ∃ g, g = w.heap.size := ⟨_, rfl⟩
  go_wp2_with fail
  refine (begun9_any HB.out (HG.out.below W0.out hsz)).mono ?_
  rintro e w1 ⟨rfl, hX⟩
  have W1 := Lib.hid (W0.out.trans (hX.mono W0.out.size))
  replace BA := Lib.hid (BA.out.below hX BA.out.lt)
  replace BB := Lib.hid (BB.out.below hX BB.out.lt)
  clear hX W0
  have ca : w1.cell? ⟨w.heap.size, 2, none⟩ = some (.string sa) := BA.out.cell 2
  have cb : w1.cell? ⟨w.heap.size + 1, 2, none⟩ = some (.string sb) := BB.out.cell 2
  have fa : w1.frozen? ⟨w.heap.size, 2, none⟩ = false := BA.out.frozen 2
  have fb : w1.frozen? ⟨w.heap.size + 1, 2, none⟩ = false := BB.out.frozen 2
  go_upto_region 4 with (fail)
  have cb2 : ∀ v, (w1.setCell ⟨w.heap.size, 2, none⟩ v).cell? ⟨w.heap.size + 1, 2, none⟩ = some (.string sb) := fun v => (BB.out.far (p := ⟨w.heap.size, 2, none⟩) (by simp) v).cell 2
  have fb2 : ∀ v, (w1.setCell ⟨w.heap.size, 2, none⟩ v).frozen? ⟨w.heap.size + 1, 2, none⟩ = false := fun v => (BB.out.far (p := ⟨w.heap.size, 2, none⟩) (by simp) v).frozen 2
  go_cut [6] (fun v wx => v = .bool false ∧ Hid (Blk wx w.heap.size 42 [.int .i64 va, .bool ga, .string ⟨ka.toArray⟩]) ∧ Hid (Blk wx (w.heap.size + 1) 42 [.int .i64 vb, .bool gb, .string ⟨kb.toArray⟩]) ∧ Hid (Below w.heap.size w wx))
  case first =>
    go_region_with (first
      | (go_at_call_of 22 (Value.string sa); refine (CA.out _).mono ?_; rintro e w' ⟨rfl, rfl⟩)
      | (go_at_call_of 22 (Value.string sb); refine (CB.out _).mono ?_; rintro e w' ⟨rfl, rfl⟩))
    all_goals (go_wp2_with fail; go_meet)
    all_goals exact ⟨rfl, ((BA.out.drew).set_ 2 (.string ⟨ka.toArray⟩)).far (p := ⟨w.heap.size + 1, 2, none⟩) (by simp) _, ((BB.out.drew).far (p := ⟨w.heap.size, 2, none⟩) (by simp) _).set_ 2 (.string ⟨kb.toArray⟩), (W1.out.drew.setCell (p := ⟨w.heap.size, 2, none⟩) (Nat.le_refl _) _).setCell (p := ⟨w.heap.size + 1, 2, none⟩) (by show w.heap.size ≤ w.heap.size + 1; omega) _⟩
  case rest =>
    clear ca cb fa fb cb2 fb2 BA BB W1 CA CB
    obtain ⟨rfl, BA, BB, W2⟩ := hcut
    have hsa : (⟨ka.toArray⟩ : ByteArray).size = ka.length := by show ka.toArray.size = _; simp
    have hsb : (⟨kb.toArray⟩ : ByteArray).size = kb.length := by show kb.toArray.size = _; simp
    have hwa : IntKind.i64.wrap (9 + (ka.length : Int)) = 9 + (ka.length : Int) := by rw [IntKind.wrap_i64]; omega
    have hwb : IntKind.i64.wrap (9 + (kb.length : Int)) = 9 + (kb.length : Int) := by rw [IntKind.wrap_i64]; omega
    obtain ⟨ma, hma⟩ : ∃ b, b = Rc.may ⟨va, ga, ka⟩ := ⟨_, rfl⟩
    obtain ⟨mb, hmb⟩ : ∃ b, b = Rc.may ⟨vb, gb, kb⟩ := ⟨_, rfl⟩
    obtain ⟨za, hza⟩ : ∃ z, z = Rc.size (9 + (ka.length : Int)) := ⟨_, rfl⟩
    obtain ⟨zb, hzb⟩ : ∃ z, z = Rc.size (9 + (kb.length : Int)) := ⟨_, rfl⟩
    obtain ⟨RA, hRA⟩ : ∃ l : List Value, l = [.int .i64 va, .bool ga, .string ⟨ka.toArray⟩] := ⟨_, rfl⟩
    obtain ⟨RB, hRB⟩ : ∃ l : List Value, l = [.int .i64 vb, .bool gb, .string ⟨kb.toArray⟩] := ⟨_, rfl⟩
    have IRA : Hid ((Tryd.prog.info? 42).map (·.size) = some RA.length) := by unfold Hid; rw [hRA]; kernel_rfl
    have IRB : Hid ((Tryd.prog.info? 42).map (·.size) = some RB.length) := by unfold Hid; rw [hRB]; kernel_rfl
    have MA : Hid (∀ W : World, Calls Tryd.prog 23 #[.agg RA.toArray] W fun e w' => e = .returned (.bool ma) ∧ Below W.heap.size W w') := fun W => by rw [hma, hRA]; exact rmr_any ⟨va, ga, ka⟩ W
    have MB : Hid (∀ W : World, Calls Tryd.prog 23 #[.agg RB.toArray] W fun e w' => e = .returned (.bool mb) ∧ Below W.heap.size W w') := fun W => by rw [hmb, hRB]; exact rmr_any ⟨vb, gb, kb⟩ W
    have ZA : Hid (∀ W : World, Calls Tryd.prog 19 #[.int .i64 (9 + (ka.length : Int))] W fun e w' => e = .returned (.int .i64 (za : Int)) ∧ Below W.heap.size W w') := fun W => by rw [hza]; exact rsize_any _ W (by omega) (by omega)
    have ZB : Hid (∀ W : World, Calls Tryd.prog 19 #[.int .i64 (9 + (kb.length : Int))] W fun e w' => e = .returned (.int .i64 (zb : Int)) ∧ Below W.heap.size W w') := fun W => by rw [hzb]; exact rsize_any _ W (by omega) (by omega)
    have HMA := Lib.hid hma
    have HMB := Lib.hid hmb
    have HZA := Lib.hid hza
    have HZB := Lib.hid hzb
    have HRA := Lib.hid hRA
    have HRB := Lib.hid hRB
    obtain ⟨res, hres⟩ : ∃ b : Bool, b = (!(ma && mb && decide (za = zb))) := ⟨_, rfl⟩
    have HRES := Lib.hid hres
    clear hma hmb hza hzb hres hRA hRB
    go_upto_region 5 with (fail)
    go_cut [45] (fun v wx => v = .bool res ∧ Hid (Blk wx w.heap.size 42 [.int .i64 va, .bool ga, .string ⟨ka.toArray⟩]) ∧ Hid (Blk wx (w.heap.size + 1) 42 [.int .i64 vb, .bool gb, .string ⟨kb.toArray⟩]) ∧ Hid (Below w.heap.size w wx))
    case first =>
      have BD : Hid (Blk wc.drew w.heap.size 42 [.int .i64 va, .bool ga, .string ⟨ka.toArray⟩]) := BA.out.drew
      have BE : Hid (Blk wc.drew (w.heap.size + 1) 42 [.int .i64 vb, .bool gb, .string ⟨kb.toArray⟩]) := BB.out.drew
      have WD : Hid (Below w.heap.size w wc.drew) := W2.out.drew
      clear BA BB W2
      refine wp_region_any (by kernel_rfl) ?_
      change wpAny _ _ _ _ _ _ _ (World.drew _)
      generalize wc.drew = wd at *
      have FL : Hid (Blk wd w.heap.size 42 RA) := by unfold Hid; rw [HRA.out]; exact BD.out
      refine wpAny_ready (rs := [0]) (by kernel_rfl) (by simp) ?_
      refine AllReady.cons (o := ?p1) ?q1 (fun K hK => ?_) AllReady.nil
      case q1 => simp only [zge]; rfl
      refine step_loadW rfl 42 (.tmp 3) rfl w.heap.size 0 rfl RA _ Tryd.underlying42 rfl IRA.out FL.out.cells ?_
      refine hK _ _ ?_
      clear hK K
      try simp only [zpt]
      refine wpAny_ready (rs := [1]) (by kernel_rfl) (by simp) ?_
      refine AllReady.cons (o := ?p2) ?q2 (fun K hK => ?_) AllReady.nil
      case q2 => simp only [zge]; rfl
      go_simp
      refine (MA.out wd).mono ?_
      rintro e w5 ⟨rfl, hX⟩
      have A5 := Lib.hid (BD.out.below hX BD.out.lt)
      have B5 := Lib.hid (BE.out.below hX BE.out.lt)
      have V5 := Lib.hid (WD.out.trans (hX.mono WD.out.size))
      clear hX
      refine hK _ _ ?_
      clear hK K
      try simp only [zpt]
      clear FL BD BE WD
      cases ma with
      | false =>
        obtain rfl : res = true := by rw [HRES.out]; rfl
        refine wpAny_take (i := 2) (oi := ?oi3) (v := .bool true) ?hi3 (by kernel_rfl) (by kernel_rfl) (by kernel_rfl) ?hQ3 ?hy3 ?rest3
        case hi3 => simp only [zge]; rfl
        case hQ3 => exact fun _ _ _ h => h
        case hy3 => exact Or.inl ⟨by rfl, by intro w; go_simp⟩
        try simp only [zpt]
        refine wpAny_take (i := 3) (oi := ?oi4) (v := .bool true) ?hi4 (by kernel_rfl) (by kernel_rfl) (by kernel_rfl) ?hQ4 ?hy4 ?rest4
        case hi4 => simp only [zge]; rfl
        case hQ4 => exact fun _ _ _ h => h
        case hy4 => exact Or.inl ⟨by rfl, by intro w; go_simp⟩
        try simp only [zpt]
        refine wpAny_take (i := 4) (oi := ?oi5) (v := undef) ?hi5 (by kernel_rfl) (by kernel_rfl) (by kernel_rfl) ?hQ5 ?hy5 ?rest5
        case hi5 => simp only [zge]; rfl
        case hQ5 => exact fun _ _ _ h => h
        case hy5 => exact Or.inr ⟨by rfl, rfl⟩
        try simp only [zpt]
        refine wpAny_take (i := 5) (oi := ?oi6) (v := undef) ?hi6 (by kernel_rfl) (by kernel_rfl) (by kernel_rfl) ?hQ6 ?hy6 ?rest6
        case hi6 => simp only [zge]; rfl
        case hQ6 => exact fun _ _ _ h => h
        case hy6 => exact Or.inr ⟨by rfl, rfl⟩
        try simp only [zpt]
        refine wpAny_take (i := 6) (oi := ?oi7) (v := undef) ?hi7 (by kernel_rfl) (by kernel_rfl) (by kernel_rfl) ?hQ7 ?hy7 ?rest7
        case hi7 => simp only [zge]; rfl
        case hQ7 => exact fun _ _ _ h => h
        case hy7 => exact Or.inr ⟨by rfl, rfl⟩
        try simp only [zpt]
        refine wpAny_take (i := 7) (oi := ?oi8) (v := .bool true) ?hi8 (by kernel_rfl) (by kernel_rfl) (by kernel_rfl) ?hQ8 ?hy8 ?rest8
        case hi8 => simp only [zge]; rfl
        case hQ8 => exact fun _ _ _ h => h
        case hy8 => exact Or.inl ⟨by rfl, by intro w; go_simp⟩
        try simp only [zpt]
        refine wpAny_take (i := 8) (oi := ?oi9) (v := .bool true) ?hi9 (by kernel_rfl) (by kernel_rfl) (by kernel_rfl) ?hQ9 ?hy9 ?rest9
        case hi9 => simp only [zge]; rfl
        case hQ9 => exact fun _ _ _ h => h
        case hy9 => exact Or.inl ⟨by rfl, by intro w; go_simp⟩
        try simp only [zpt]
        refine wpAny_take (i := 9) (oi := ?oi10) (v := undef) ?hi10 (by kernel_rfl) (by kernel_rfl) (by kernel_rfl) ?hQ10 ?hy10 ?rest10
        case hi10 => simp only [zge]; rfl
        case hQ10 => exact fun _ _ _ h => h
        case hy10 => exact Or.inr ⟨by rfl, rfl⟩
        try simp only [zpt]
        refine wpAny_take (i := 10) (oi := ?oi11) (v := undef) ?hi11 (by kernel_rfl) (by kernel_rfl) (by kernel_rfl) ?hQ11 ?hy11 ?rest11
        case hi11 => simp only [zge]; rfl
        case hQ11 => exact fun _ _ _ h => h
        case hy11 => exact Or.inr ⟨by rfl, rfl⟩
        try simp only [zpt]
        refine wpAny_take (i := 11) (oi := ?oi12) (v := undef) ?hi12 (by kernel_rfl) (by kernel_rfl) (by kernel_rfl) ?hQ12 ?hy12 ?rest12
        case hi12 => simp only [zge]; rfl
        case hQ12 => exact fun _ _ _ h => h
        case hy12 => exact Or.inr ⟨by rfl, rfl⟩
        try simp only [zpt]
        refine wpAny_take (i := 12) (oi := ?oi13) (v := undef) ?hi13 (by kernel_rfl) (by kernel_rfl) (by kernel_rfl) ?hQ13 ?hy13 ?rest13
        case hi13 => simp only [zge]; rfl
        case hQ13 => exact fun _ _ _ h => h
        case hy13 => exact Or.inr ⟨by rfl, rfl⟩
        try simp only [zpt]
        refine wpAny_take (i := 13) (oi := ?oi14) (v := undef) ?hi14 (by kernel_rfl) (by kernel_rfl) (by kernel_rfl) ?hQ14 ?hy14 ?rest14
        case hi14 => simp only [zge]; rfl
        case hQ14 => exact fun _ _ _ h => h
        case hy14 => exact Or.inr ⟨by rfl, rfl⟩
        try simp only [zpt]
        refine wpAny_take (i := 14) (oi := ?oi15) (v := undef) ?hi15 (by kernel_rfl) (by kernel_rfl) (by kernel_rfl) ?hQ15 ?hy15 ?rest15
        case hi15 => simp only [zge]; rfl
        case hQ15 => exact fun _ _ _ h => h
        case hy15 => exact Or.inr ⟨by rfl, rfl⟩
        try simp only [zpt]
        refine wpAny_take (i := 15) (oi := ?oi16) (v := undef) ?hi16 (by kernel_rfl) (by kernel_rfl) (by kernel_rfl) ?hQ16 ?hy16 ?rest16
        case hi16 => simp only [zge]; rfl
        case hQ16 => exact fun _ _ _ h => h
        case hy16 => exact Or.inr ⟨by rfl, rfl⟩
        try simp only [zpt]
        refine wpAny_take (i := 16) (oi := ?oi17) (v := undef) ?hi17 (by kernel_rfl) (by kernel_rfl) (by kernel_rfl) ?hQ17 ?hy17 ?rest17
        case hi17 => simp only [zge]; rfl
        case hQ17 => exact fun _ _ _ h => h
        case hy17 => exact Or.inr ⟨by rfl, rfl⟩
        try simp only [zpt]
        refine wpAny_take (i := 17) (oi := ?oi18) (v := undef) ?hi18 (by kernel_rfl) (by kernel_rfl) (by kernel_rfl) ?hQ18 ?hy18 ?rest18
        case hi18 => simp only [zge]; rfl
        case hQ18 => exact fun _ _ _ h => h
        case hy18 => exact Or.inr ⟨by rfl, rfl⟩
        try simp only [zpt]
        refine wpAny_take (i := 18) (oi := ?oi19) (v := undef) ?hi19 (by kernel_rfl) (by kernel_rfl) (by kernel_rfl) ?hQ19 ?hy19 ?rest19
        case hi19 => simp only [zge]; rfl
        case hQ19 => exact fun _ _ _ h => h
        case hy19 => exact Or.inr ⟨by rfl, rfl⟩
        try simp only [zpt]
        refine wpAny_take (i := 19) (oi := ?oi20) (v := undef) ?hi20 (by kernel_rfl) (by kernel_rfl) (by kernel_rfl) ?hQ20 ?hy20 ?rest20
        case hi20 => simp only [zge]; rfl
        case hQ20 => exact fun _ _ _ h => h
        case hy20 => exact Or.inr ⟨by rfl, rfl⟩
        try simp only [zpt]
        refine wpAny_take (i := 20) (oi := ?oi21) (v := .bool true) ?hi21 (by kernel_rfl) (by kernel_rfl) (by kernel_rfl) ?hQ21 ?hy21 ?rest21
        case hi21 => simp only [zge]; rfl
        case hQ21 => exact fun _ _ _ h => h
        case hy21 => exact Or.inl ⟨by rfl, by intro w; go_simp⟩
        try simp only [zpt]
        refine wpAny_done (by kernel_rfl) ?_ _
        go_wp2_with fail
        go_meet
        exact ⟨rfl, A5, B5, V5⟩
      | true =>
        refine wpAny_take (i := 2) (oi := ?oi22) (v := .bool false) ?hi22 (by kernel_rfl) (by kernel_rfl) (by kernel_rfl) ?hQ22 ?hy22 ?rest22
        case hi22 => simp only [zge]; rfl
        case hQ22 => exact fun _ _ _ h => h
        case hy22 => exact Or.inl ⟨by rfl, by intro w; go_simp⟩
        try simp only [zpt]
        refine wpAny_take (i := 3) (oi := ?oi23) (v := .bool false) ?hi23 (by kernel_rfl) (by kernel_rfl) (by kernel_rfl) ?hQ23 ?hy23 ?rest23
        case hi23 => simp only [zge]; rfl
        case hQ23 => exact fun _ _ _ h => h
        case hy23 => exact Or.inl ⟨by rfl, by intro w; go_simp⟩
        try simp only [zpt]
        have FM : Hid (Blk w5 (w.heap.size + 1) 42 RB) := by unfold Hid; rw [HRB.out]; exact B5.out
        refine wpAny_ready (rs := [4]) (by kernel_rfl) (by simp) ?_
        refine AllReady.cons (o := ?p24) ?q24 (fun K hK => ?_) AllReady.nil
        case q24 => simp only [zge]; rfl
        refine step_loadW rfl 42 (.tmp 4) rfl (w.heap.size + 1) 0 rfl RB _ Tryd.underlying42 rfl IRB.out FM.out.cells ?_
        refine hK _ _ ?_
        clear hK K
        try simp only [zpt]
        refine wpAny_ready (rs := [5]) (by kernel_rfl) (by simp) ?_
        refine AllReady.cons (o := ?p25) ?q25 (fun K hK => ?_) AllReady.nil
        case q25 => simp only [zge]; rfl
        go_simp
        refine (MB.out w5).mono ?_
        rintro e w6 ⟨rfl, hX⟩
        have A6 := Lib.hid (A5.out.below hX A5.out.lt)
        have B6 := Lib.hid (B5.out.below hX B5.out.lt)
        have V6 := Lib.hid (V5.out.trans (hX.mono V5.out.size))
        clear hX
        refine hK _ _ ?_
        clear hK K
        try simp only [zpt]
        clear FM A5 B5 V5
        cases mb with
        | false =>
          obtain rfl : res = true := by rw [HRES.out]; simp
          refine wpAny_take (i := 6) (oi := ?oi26) (v := .bool true) ?hi26 (by kernel_rfl) (by kernel_rfl) (by kernel_rfl) ?hQ26 ?hy26 ?rest26
          case hi26 => simp only [zge]; rfl
          case hQ26 => exact fun _ _ _ h => h
          case hy26 => exact Or.inl ⟨by rfl, by intro w; go_simp⟩
          try simp only [zpt]
          refine wpAny_take (i := 7) (oi := ?oi27) (v := .bool true) ?hi27 (by kernel_rfl) (by kernel_rfl) (by kernel_rfl) ?hQ27 ?hy27 ?rest27
          case hi27 => simp only [zge]; rfl
          case hQ27 => exact fun _ _ _ h => h
          case hy27 => exact Or.inl ⟨by rfl, by intro w; go_simp⟩
          try simp only [zpt]
          refine wpAny_take (i := 8) (oi := ?oi28) (v := .bool true) ?hi28 (by kernel_rfl) (by kernel_rfl) (by kernel_rfl) ?hQ28 ?hy28 ?rest28
          case hi28 => simp only [zge]; rfl
          case hQ28 => exact fun _ _ _ h => h
          case hy28 => exact Or.inl ⟨by rfl, by intro w; go_simp⟩
          try simp only [zpt]
          refine wpAny_take (i := 9) (oi := ?oi29) (v := undef) ?hi29 (by kernel_rfl) (by kernel_rfl) (by kernel_rfl) ?hQ29 ?hy29 ?rest29
          case hi29 => simp only [zge]; rfl
          case hQ29 => exact fun _ _ _ h => h
          case hy29 => exact Or.inr ⟨by rfl, rfl⟩
          try simp only [zpt]
          refine wpAny_take (i := 10) (oi := ?oi30) (v := undef) ?hi30 (by kernel_rfl) (by kernel_rfl) (by kernel_rfl) ?hQ30 ?hy30 ?rest30
          case hi30 => simp only [zge]; rfl
          case hQ30 => exact fun _ _ _ h => h
          case hy30 => exact Or.inr ⟨by rfl, rfl⟩
          try simp only [zpt]
          refine wpAny_take (i := 11) (oi := ?oi31) (v := undef) ?hi31 (by kernel_rfl) (by kernel_rfl) (by kernel_rfl) ?hQ31 ?hy31 ?rest31
          case hi31 => simp only [zge]; rfl
          case hQ31 => exact fun _ _ _ h => h
          case hy31 => exact Or.inr ⟨by rfl, rfl⟩
          try simp only [zpt]
          refine wpAny_take (i := 12) (oi := ?oi32) (v := undef) ?hi32 (by kernel_rfl) (by kernel_rfl) (by kernel_rfl) ?hQ32 ?hy32 ?rest32
          case hi32 => simp only [zge]; rfl
          case hQ32 => exact fun _ _ _ h => h
          case hy32 => exact Or.inr ⟨by rfl, rfl⟩
          try simp only [zpt]
          refine wpAny_take (i := 13) (oi := ?oi33) (v := undef) ?hi33 (by kernel_rfl) (by kernel_rfl) (by kernel_rfl) ?hQ33 ?hy33 ?rest33
          case hi33 => simp only [zge]; rfl
          case hQ33 => exact fun _ _ _ h => h
          case hy33 => exact Or.inr ⟨by rfl, rfl⟩
          try simp only [zpt]
          refine wpAny_take (i := 14) (oi := ?oi34) (v := undef) ?hi34 (by kernel_rfl) (by kernel_rfl) (by kernel_rfl) ?hQ34 ?hy34 ?rest34
          case hi34 => simp only [zge]; rfl
          case hQ34 => exact fun _ _ _ h => h
          case hy34 => exact Or.inr ⟨by rfl, rfl⟩
          try simp only [zpt]
          refine wpAny_take (i := 15) (oi := ?oi35) (v := undef) ?hi35 (by kernel_rfl) (by kernel_rfl) (by kernel_rfl) ?hQ35 ?hy35 ?rest35
          case hi35 => simp only [zge]; rfl
          case hQ35 => exact fun _ _ _ h => h
          case hy35 => exact Or.inr ⟨by rfl, rfl⟩
          try simp only [zpt]
          refine wpAny_take (i := 16) (oi := ?oi36) (v := undef) ?hi36 (by kernel_rfl) (by kernel_rfl) (by kernel_rfl) ?hQ36 ?hy36 ?rest36
          case hi36 => simp only [zge]; rfl
          case hQ36 => exact fun _ _ _ h => h
          case hy36 => exact Or.inr ⟨by rfl, rfl⟩
          try simp only [zpt]
          refine wpAny_take (i := 17) (oi := ?oi37) (v := undef) ?hi37 (by kernel_rfl) (by kernel_rfl) (by kernel_rfl) ?hQ37 ?hy37 ?rest37
          case hi37 => simp only [zge]; rfl
          case hQ37 => exact fun _ _ _ h => h
          case hy37 => exact Or.inr ⟨by rfl, rfl⟩
          try simp only [zpt]
          refine wpAny_take (i := 18) (oi := ?oi38) (v := undef) ?hi38 (by kernel_rfl) (by kernel_rfl) (by kernel_rfl) ?hQ38 ?hy38 ?rest38
          case hi38 => simp only [zge]; rfl
          case hQ38 => exact fun _ _ _ h => h
          case hy38 => exact Or.inr ⟨by rfl, rfl⟩
          try simp only [zpt]
          refine wpAny_take (i := 19) (oi := ?oi39) (v := undef) ?hi39 (by kernel_rfl) (by kernel_rfl) (by kernel_rfl) ?hQ39 ?hy39 ?rest39
          case hi39 => simp only [zge]; rfl
          case hQ39 => exact fun _ _ _ h => h
          case hy39 => exact Or.inr ⟨by rfl, rfl⟩
          try simp only [zpt]
          refine wpAny_take (i := 20) (oi := ?oi40) (v := .bool true) ?hi40 (by kernel_rfl) (by kernel_rfl) (by kernel_rfl) ?hQ40 ?hy40 ?rest40
          case hi40 => simp only [zge]; rfl
          case hQ40 => exact fun _ _ _ h => h
          case hy40 => exact Or.inl ⟨by rfl, by intro w; go_simp⟩
          try simp only [zpt]
          refine wpAny_done (by kernel_rfl) ?_ _
          go_wp2_with fail
          go_meet
          exact ⟨rfl, A6, B6, V6⟩
        | true =>
          refine wpAny_take (i := 6) (oi := ?oi41) (v := .bool false) ?hi41 (by kernel_rfl) (by kernel_rfl) (by kernel_rfl) ?hQ41 ?hy41 ?rest41
          case hi41 => simp only [zge]; rfl
          case hQ41 => exact fun _ _ _ h => h
          case hy41 => exact Or.inl ⟨by rfl, by intro w; go_simp⟩
          try simp only [zpt]
          refine wpAny_take (i := 7) (oi := ?oi42) (v := .bool false) ?hi42 (by kernel_rfl) (by kernel_rfl) (by kernel_rfl) ?hQ42 ?hy42 ?rest42
          case hi42 => simp only [zge]; rfl
          case hQ42 => exact fun _ _ _ h => h
          case hy42 => exact Or.inl ⟨by rfl, by intro w; go_simp⟩
          try simp only [zpt]
          refine wpAny_take (i := 8) (oi := ?oi43) (v := .bool false) ?hi43 (by kernel_rfl) (by kernel_rfl) (by kernel_rfl) ?hQ43 ?hy43 ?rest43
          case hi43 => simp only [zge]; rfl
          case hQ43 => exact fun _ _ _ h => h
          case hy43 => exact Or.inl ⟨by rfl, by intro w; go_simp⟩
          try simp only [zpt]
          refine wpAny_take (i := 9) (oi := ?oi44) (v := .pointer (some ⟨w.heap.size, 2, none⟩)) ?hi44 (by kernel_rfl) (by kernel_rfl) (by kernel_rfl) ?hQ44 ?hy44 ?rest44
          case hi44 => simp only [zge]; rfl
          case hQ44 => exact fun _ _ _ h => h
          case hy44 => exact Or.inl ⟨by rfl, by intro w; go_simp⟩
          try simp only [zpt]
          refine wpAny_take (i := 14) (oi := ?oi45) (v := .pointer (some ⟨w.heap.size + 1, 2, none⟩)) ?hi45 (by kernel_rfl) (by kernel_rfl) (by kernel_rfl) ?hQ45 ?hy45 ?rest45
          case hi45 => simp only [zge]; rfl
          case hQ45 => exact fun _ _ _ h => h
          case hy45 => exact Or.inl ⟨by rfl, by intro w; go_simp⟩
          try simp only [zpt]
          refine phaseL (fun i => if i = 11 then [10] else if i = 12 then [11] else if i = 13 then [12] else if i = 16 then [15] else if i = 17 then [16] else if i = 18 then [17, 13] else []) (fun d a w' => ∃ x35 x36 x37 x38 x40 x41 x42 x43 : Value, a = { tmps := #[.agg #[.int .i64 va, .bool ga, .string sa], .agg #[.int .i64 vb, .bool gb, .string sb], .int .i64 sd, .pointer (some ⟨w.heap.size, 0, none⟩), .pointer (some ⟨w.heap.size + 1, 0, none⟩), undef, .bool false, .bool true, undef, undef, undef, undef, undef, undef, u14, u15, u16, u17, u18, u19, u20, u21, u22, u23, u24, .agg RA.toArray, .bool true, .bool false, .bool false, .agg RB.toArray, .bool true, .bool false, .bool false, .bool false, .pointer (some ⟨w.heap.size, 2, none⟩), x35, x36, x37, x38, .pointer (some ⟨w.heap.size + 1, 2, none⟩), x40, x41, x42, x43, u44, u45, u46, u47, u48, u49, u50, u51, u52, u53, u54, u55, u56, u57, u58, u59, u60, u61, u62, u63, u64, u65, u66, u67, u68, u69, u70, u71, u72, u73, u74, u75, u76, u77, u78, u79, u80], defers := [] } ∧ Hid (Below w6.heap.size w6 w') ∧ (d 10 = true → x35 = .string ⟨ka.toArray⟩) ∧ (d 11 = true → x36 = .int .i64 (ka.length : Int)) ∧ (d 12 = true → x37 = .int .i64 (9 + (ka.length : Int))) ∧ (d 13 = true → x38 = .int .i64 (za : Int)) ∧ (d 15 = true → x40 = .string ⟨kb.toArray⟩) ∧ (d 16 = true → x41 = .int .i64 (kb.length : Int)) ∧ (d 17 = true → x42 = .int .i64 (9 + (kb.length : Int))) ∧ (d 18 = true → x43 = .int .i64 (zb : Int))) [10, 11, 12, 13, 15, 16, 17, 18] ?step46 2 8 [10, 11, 12, 13, 15, 16, 17, 18] _ _ _ rfl (by decide) (fun _ h => h) (Fits.of (by kernel_rfl)) ?init46 ?fin46
          case init46 => refine ⟨_, _, _, _, _, _, _, _, rfl, Below.refl _ _, ?_, ?_, ?_, ?_, ?_, ?_, ?_, ?_⟩ <;> (intro h; exact absurd h (by decide))
          case step46 =>
            intro i hi d a v46 hI hdi hdeps
            obtain ⟨x35, x36, x37, x38, x40, x41, x42, x43, rfl, BW, h10, h11, h12, h13, h15, h16, h17, h18⟩ := hI
            have hsw := BW.out.size
            simp only [List.mem_cons, List.not_mem_nil, or_false] at hi
            rcases hi with rfl | rfl | rfl | rfl | rfl | rfl | rfl | rfl
            · have c0 : v46.cell? ⟨w.heap.size, 2, none⟩ = some (.string ⟨ka.toArray⟩) := (A6.out.below BW.out A6.out.lt).cell 2
              refine wpOp_step (o := ?os47) ?hos47 (fun K hK => ?_)
              case hos47 => simp only [zge]; rfl
              go_simp
              refine hK _ _ ?_
              clear hK K
              try simp only [zpt]
              exact ⟨_, _, _, _, _, _, _, _, rfl, BW, fun _ => rfl, fun a => by first | exact h11 (by simpa using a) | rfl, fun a => by first | exact h12 (by simpa using a) | rfl, fun a => by first | exact h13 (by simpa using a) | rfl, fun a => by first | exact h15 (by simpa using a) | rfl, fun a => by first | exact h16 (by simpa using a) | rfl, fun a => by first | exact h17 (by simpa using a) | rfl, fun a => by first | exact h18 (by simpa using a) | rfl⟩
            · obtain rfl := h10 (hdeps 10 (by simp))
              refine wpOp_step (o := ?os48) ?hos48 (fun K hK => ?_)
              case hos48 => simp only [zge]; rfl
              go_simp
              refine hK _ _ ?_
              clear hK K
              try simp only [zpt]
              exact ⟨_, _, _, _, _, _, _, _, rfl, BW, fun a => by first | exact h10 (by simpa using a) | rfl, fun _ => rfl, fun a => by first | exact h12 (by simpa using a) | rfl, fun a => by first | exact h13 (by simpa using a) | rfl, fun a => by first | exact h15 (by simpa using a) | rfl, fun a => by first | exact h16 (by simpa using a) | rfl, fun a => by first | exact h17 (by simpa using a) | rfl, fun a => by first | exact h18 (by simpa using a) | rfl⟩
            · obtain rfl := h11 (hdeps 11 (by simp))
              refine wpOp_step (o := ?os49) ?hos49 (fun K hK => ?_)
              case hos49 => simp only [zge]; rfl
              go_simp
              refine hK _ _ ?_
              clear hK K
              try simp only [zpt]
              exact ⟨_, _, _, _, _, _, _, _, rfl, BW, fun a => by first | exact h10 (by simpa using a) | rfl, fun a => by first | exact h11 (by simpa using a) | rfl, fun _ => rfl, fun a => by first | exact h13 (by simpa using a) | rfl, fun a => by first | exact h15 (by simpa using a) | rfl, fun a => by first | exact h16 (by simpa using a) | rfl, fun a => by first | exact h17 (by simpa using a) | rfl, fun a => by first | exact h18 (by simpa using a) | rfl⟩
            · obtain rfl := h12 (hdeps 12 (by simp))
              refine wpOp_step (o := ?os50) ?hos50 (fun K hK => ?_)
              case hos50 => simp only [zge]; rfl
              go_simp
              refine (ZA.out v46).mono ?_
              rintro e u46 ⟨rfl, hX⟩
              refine hK _ _ ?_
              clear hK K
              try simp only [zpt]
              exact ⟨_, _, _, _, _, _, _, _, rfl, BW.out.trans (hX.mono hsw), fun a => by first | exact h10 (by simpa using a) | rfl, fun a => by first | exact h11 (by simpa using a) | rfl, fun a => by first | exact h12 (by simpa using a) | rfl, fun _ => rfl, fun a => by first | exact h15 (by simpa using a) | rfl, fun a => by first | exact h16 (by simpa using a) | rfl, fun a => by first | exact h17 (by simpa using a) | rfl, fun a => by first | exact h18 (by simpa using a) | rfl⟩
            · have c0 : v46.cell? ⟨w.heap.size + 1, 2, none⟩ = some (.string ⟨kb.toArray⟩) := (B6.out.below BW.out B6.out.lt).cell 2
              refine wpOp_step (o := ?os51) ?hos51 (fun K hK => ?_)
              case hos51 => simp only [zge]; rfl
              go_simp
              refine hK _ _ ?_
              clear hK K
              try simp only [zpt]
              exact ⟨_, _, _, _, _, _, _, _, rfl, BW, fun a => by first | exact h10 (by simpa using a) | rfl, fun a => by first | exact h11 (by simpa using a) | rfl, fun a => by first | exact h12 (by simpa using a) | rfl, fun a => by first | exact h13 (by simpa using a) | rfl, fun _ => rfl, fun a => by first | exact h16 (by simpa using a) | rfl, fun a => by first | exact h17 (by simpa using a) | rfl, fun a => by first | exact h18 (by simpa using a) | rfl⟩
            · obtain rfl := h15 (hdeps 15 (by simp))
              refine wpOp_step (o := ?os52) ?hos52 (fun K hK => ?_)
              case hos52 => simp only [zge]; rfl
              go_simp
              refine hK _ _ ?_
              clear hK K
              try simp only [zpt]
              exact ⟨_, _, _, _, _, _, _, _, rfl, BW, fun a => by first | exact h10 (by simpa using a) | rfl, fun a => by first | exact h11 (by simpa using a) | rfl, fun a => by first | exact h12 (by simpa using a) | rfl, fun a => by first | exact h13 (by simpa using a) | rfl, fun a => by first | exact h15 (by simpa using a) | rfl, fun _ => rfl, fun a => by first | exact h17 (by simpa using a) | rfl, fun a => by first | exact h18 (by simpa using a) | rfl⟩
            · obtain rfl := h16 (hdeps 16 (by simp))
              refine wpOp_step (o := ?os53) ?hos53 (fun K hK => ?_)
              case hos53 => simp only [zge]; rfl
              go_simp
              refine hK _ _ ?_
              clear hK K
              try simp only [zpt]
              exact ⟨_, _, _, _, _, _, _, _, rfl, BW, fun a => by first | exact h10 (by simpa using a) | rfl, fun a => by first | exact h11 (by simpa using a) | rfl, fun a => by first | exact h12 (by simpa using a) | rfl, fun a => by first | exact h13 (by simpa using a) | rfl, fun a => by first | exact h15 (by simpa using a) | rfl, fun a => by first | exact h16 (by simpa using a) | rfl, fun _ => rfl, fun a => by first | exact h18 (by simpa using a) | rfl⟩
            · obtain rfl := h17 (hdeps 17 (by simp))
              refine wpOp_step (o := ?os54) ?hos54 (fun K hK => ?_)
              case hos54 => simp only [zge]; rfl
              go_simp
              refine (ZB.out v46).mono ?_
              rintro e u46 ⟨rfl, hX⟩
              refine hK _ _ ?_
              clear hK K
              try simp only [zpt]
              exact ⟨_, _, _, _, _, _, _, _, rfl, BW.out.trans (hX.mono hsw), fun a => by first | exact h10 (by simpa using a) | rfl, fun a => by first | exact h11 (by simpa using a) | rfl, fun a => by first | exact h12 (by simpa using a) | rfl, fun a => by first | exact h13 (by simpa using a) | rfl, fun a => by first | exact h15 (by simpa using a) | rfl, fun a => by first | exact h16 (by simpa using a) | rfl, fun a => by first | exact h17 (by simpa using a) | rfl, fun _ => rfl⟩
          case fin46 =>
            intro a v46 hI
            obtain ⟨x35, x36, x37, x38, x40, x41, x42, x43, rfl, BW, h10, h11, h12, h13, h15, h16, h17, h18⟩ := hI
            obtain rfl := h10 (by decide)
            obtain rfl := h11 (by decide)
            obtain rfl := h12 (by decide)
            obtain rfl := h13 (by decide)
            obtain rfl := h15 (by decide)
            obtain rfl := h16 (by decide)
            obtain rfl := h17 (by decide)
            obtain rfl := h18 (by decide)
            have A8 := Lib.hid (A6.out.below BW.out A6.out.lt)
            have B8 := Lib.hid (B6.out.below BW.out B6.out.lt)
            have V8 := Lib.hid (V6.out.trans (BW.out.mono V6.out.size))
            clear A6 B6 V6
            try dsimp only
            have hn2 : ((za : Int) != (zb : Int)) = res := by
              rw [HRES.out]
              by_cases hz : za = zb
              · simp [hz]
              · simp [hz]; omega
            refine wpAny_take (i := 19) (oi := ?oi55) (v := .bool res) ?hi55 (by kernel_rfl) (by kernel_rfl) (by kernel_rfl) ?hQ55 ?hy55 ?rest55
            case hi55 => simp only [zge]; rfl
            case hQ55 => exact fun _ _ _ h => h
            case hy55 => exact Or.inl ⟨by rfl, by intro w; go_simp⟩
            try simp only [zpt]
            refine wpAny_take (i := 20) (oi := ?oi56) (v := .bool res) ?hi56 (by kernel_rfl) (by kernel_rfl) (by kernel_rfl) ?hQ56 ?hy56 ?rest56
            case hi56 => simp only [zge]; rfl
            case hQ56 => exact fun _ _ _ h => h
            case hy56 => exact Or.inl ⟨by rfl, by intro w; go_simp⟩
            try simp only [zpt]
            refine wpAny_done (by kernel_rfl) ?_ _
            go_wp2_with fail
            go_meet
            exact ⟨rfl, A8, B8, V8⟩
    case rest =>
      clear MA MB ZA ZB
      obtain ⟨rfl, A3, B3, W3⟩ := hcut
      cases res with
      | true =>
        go_wp2_with fail
        go_ret
        exact ⟨rfl, W3.out⟩
      | false =>
        have hz := HRES.out
        simp only [Bool.false_eq, Bool.not_eq_false', Bool.and_eq_true, decide_eq_true_eq] at hz
        obtain ⟨⟨hm1, hm2⟩, hm3⟩ := hz
        have may1 : Rc.may ⟨va, ga, ka⟩ = true := by rw [← HMA.out]; exact hm1
        have may2 : Rc.may ⟨vb, gb, kb⟩ = true := by rw [← HMB.out]; exact hm2
        have ez1 : ((9 + ka.length : Nat) : Int) = 9 + (ka.length : Int) := by omega
        have ez2 : ((9 + kb.length : Nat) : Int) = 9 + (kb.length : Int) := by omega
        have len1 : (Rc.put ⟨va, ga, ka⟩).length = za := by rw [Rc.put_length may1, HZA.out, ez1]
        have len2 : (Rc.put ⟨vb, gb, kb⟩).length = za := by rw [Rc.put_length may2, hm3, HZB.out, ez2]
        obtain ⟨lt, hlt⟩ : ∃ l, l = Tap.tape sd 0 (za + 16) := ⟨_, rfl⟩
        obtain ⟨k1, hk1⟩ : ∃ k, k = (key1 1).map cellOf := ⟨_, rfl⟩
        obtain ⟨k2, hk2⟩ : ∃ k, k = (key1 2).map cellOf := ⟨_, rfl⟩
        have BK1 : Hid (Tryd.prog.built 26 [(0, .int .u8 1)] = some k1.toArray) := by unfold Hid; rw [hk1]; kernel_rfl
        have BK2 : Hid (Tryd.prog.built 26 [(0, .int .u8 2)] = some k2.toArray) := by unfold Hid; rw [hk2]; kernel_rfl
        have CS1 : Hid (∀ (W : World) (g : Nat) (M : Nat → Prop) (A : Option Addr), Gl W → (∀ b, M b → 3 ≤ b) → P W g (.ideal sd 0 [] [] []) M → Rd W A 1 1 [115] → Calls Tryd.prog 26 #[.pointer (some ⟨g, 0, none⟩), .slice A 1 1, .int .i64 0, .int .i64 5, .agg k1.toArray, .agg RA.toArray] W fun e w' => e = .returned (.tuple #[.agg #[.int .i64 0, .int .i64 5, .string ⟨lt.toArray⟩], .int .i64 0]) ∧ Fr M W w') := fun W g M A h1 h0 h2 h3 => by
          have := rsealI_any HB.out (lb := key1 1) ⟨va, ga, ka⟩ 0 5 h1 h0 h2 (by omega) h3 (by omega) may1 (by omega) (by omega) (by omega) (by omega) (key1_length 1)
          rw [len1] at this
          rw [hk1, HRA.out, hlt]
          exact this.mono fun e w' hq => by obtain ⟨M', he, _, hF, _⟩ := hq; exact ⟨he, hF⟩
        have CS2 : Hid (∀ (W : World) (g : Nat) (M : Nat → Prop) (A : Option Addr), Gl W → (∀ b, M b → 3 ≤ b) → P W g (.ideal sd 0 [] [] []) M → Rd W A 1 1 [115] → Calls Tryd.prog 26 #[.pointer (some ⟨g, 0, none⟩), .slice A 1 1, .int .i64 0, .int .i64 5, .agg k2.toArray, .agg RB.toArray] W fun e w' => e = .returned (.tuple #[.agg #[.int .i64 0, .int .i64 5, .string ⟨lt.toArray⟩], .int .i64 0]) ∧ Fr M W w') := fun W g M A h1 h0 h2 h3 => by
          have := rsealI_any HB.out (lb := key1 2) ⟨vb, gb, kb⟩ 0 5 h1 h0 h2 (by omega) h3 (by omega) may2 (by omega) (by omega) (by omega) (by omega) (key1_length 2)
          rw [len2] at this
          rw [hk2, HRB.out, hlt]
          exact this.mono fun e w' hq => by obtain ⟨M', he, _, hF, _⟩ := hq; exact ⟨he, hF⟩
        have KA : Hid (Blk wc w.heap.size 42 RA) := by unfold Hid; rw [HRA.out]; exact A3.out
        have KB : Hid (Blk wc (w.heap.size + 1) 42 RB) := by unfold Hid; rw [HRB.out]; exact B3.out
        have hcv := conv23
        have hss := str_same lt
        clear HMA HMB HZA HZB HRA HRB HRES hm1 hm2 hm3 may1 may2 ez1 ez2 len1 len2 hlt hk1 hk2 A3 B3 hwa hwb hsa hsb
        have Vwc := W3
        go_wp2_with fail
        refine (tnew_any sd _ h1 h2).mono ?_
        rintro e ta ⟨t1, rfl, ht1, hT, hX⟩
        have hs0 := Vwc.out.size
        have hsa := hX.size
        have hlA := KA.out.lt
        have hlB := KB.out.lt
        have Vta := Lib.hid (Vwc.out.trans (hX.mono Vwc.out.size))
        replace KA := Lib.hid (KA.out.below hX KA.out.lt)
        replace KB := Lib.hid (KB.out.below hX KB.out.lt)
        have T1 := Lib.hid hT
        clear hT hX
        go_wp2_with fail
        refine (HB.out.newI T1.out).mono ?_
        rintro e tb ⟨gx, Mx, rfl, hM, hP, hX⟩
        have hsb := hX.size
        have Vtb := Lib.hid (Vta.out.trans (hX.mono Vta.out.size))
        replace KA := Lib.hid (KA.out.below hX KA.out.lt)
        replace KB := Lib.hid (KB.out.below hX KB.out.lt)
        have MX : Hid (∀ b, Mx b → wc.heap.size ≤ b) := fun b hb => by rcases hM b hb with h | h <;> omega
        have PX := Lib.hid hP
        have ML : Hid (∀ b, Mx b → b < tb.heap.size) := fun b hb => HB.out.lt PX.out hb
        clear hM hP hX T1 Vta
        go_wp2_with fail
        refine (tnew_any sd _ h1 h2).mono ?_
        rintro e tc ⟨t2, rfl, ht2, hT, hX⟩
        have hsc := hX.size
        have Vtc := Lib.hid (Vtb.out.trans (hX.mono Vtb.out.size))
        replace KA := Lib.hid (KA.out.below hX KA.out.lt)
        replace KB := Lib.hid (KB.out.below hX KB.out.lt)
        replace PX := Lib.hid (HB.out.below PX.out hX)
        have T2 := Lib.hid hT
        clear hT hX Vtb
        go_wp2_with fail
        refine (HB.out.newI T2.out).mono ?_
        rintro e td ⟨gy, My, rfl, hM, hP, hX⟩
        have Vtd := Lib.hid (Vtc.out.trans (hX.mono Vtc.out.size))
        replace KA := Lib.hid (KA.out.below hX KA.out.lt)
        replace KB := Lib.hid (KB.out.below hX KB.out.lt)
        have MY : Hid (∀ b, My b → wc.heap.size ≤ b) := fun b hb => by rcases hM b hb with h | h <;> omega
        have MD : Hid (∀ b, My b → ¬ Mx b) := fun b hb' hb => by
          have h1 := ML.out b hb
          rcases hM b hb' with h | h <;> omega
        replace PX := Lib.hid (HB.out.below PX.out hX)
        have PY := Lib.hid hP
        clear hM hP hX T2 ML hsa hsb hsc ht1 ht2 Vtc
        have FE : Hid (∀ j v, RA[j]? = some v → (td.alloc (.cells #[.int .u8 115] 5 (1, 2))).cell? ⟨w.heap.size, 0 + j, none⟩ = some v) := (KA.out.alloc _).cells
        go_wp2_with (first
          | (with_reducible refine build_law rfl 26 #[(0, .const (.int .u8 1))] rfl k1 (by simp only [List.map_toArray, List.map_cons, List.map_nil, eval_const]; exact BK1.out) ?_)
          | (with_reducible refine load_law rfl 42 (.tmp 3) rfl (w.heap.size) 0 rfl RA _ Tryd.underlying42 rfl IRA.out FE.out ?_))
        obtain ⟨gl1, hgl1⟩ : ∃ g, g = td.heap.size := ⟨_, rfl⟩
        obtain ⟨wl1, hwl1⟩ : ∃ x, x = td.alloc (.cells #[.int .u8 115] 5 (1, 2)) := ⟨_, rfl⟩
        have hX : Below td.heap.size td wl1 := by rw [hwl1]; exact alloc_below _ _
        have RL := Lib.hid (show Rd wl1 (some ⟨gl1, 0, none⟩) 1 1 [115] by rw [hwl1]; exact lit_bytesF td _ _ 1 _ _ (by rfl) rfl (by omega) hgl1)
        rw [← hgl1, ← hwl1]
        have Wl := Lib.hid (Vtd.out.trans (hX.mono Vtd.out.size))
        replace PX := Lib.hid (HB.out.below PX.out hX)
        replace PY := Lib.hid (HB.out.below PY.out hX)
        replace KA := Lib.hid (KA.out.below hX KA.out.lt)
        replace KB := Lib.hid (KB.out.below hX KB.out.lt)
        have hM1 := MX.out
        refine (CS1.out wl1 gx Mx _ (HG.out.below Wl.out hsz) (fun b hb => by have := hM1 b hb; omega) PX.out RL.out).mono ?_
        rintro e te ⟨rfl, hF⟩
        have Vte := Lib.hid (hF.below Wl.out (fun b hb => by have := hM1 b hb; omega) Wl.out.size)
        replace PY := Lib.hid (HB.out.apart PY.out hF MD.out)
        have hn1 := MX.out
        replace KB := Lib.hid (hF.blk KB.out (fun h => by have := hn1 _ h; omega))
        clear hX hF RL FE Wl Vtd PX KA CS1 BK1 hwl1 hgl1
        go_upto_region 9 with (fail)
        obtain ⟨w5, hw5⟩ : ∃ x, x = te.alloc (.cells #[.int .i64 0, .int .i64 5, .string ⟨lt.toArray⟩] 50) := ⟨_, rfl⟩
        have EB : Hid (Blk w5 te.heap.size 50 [.int .i64 0, .int .i64 5, .string ⟨lt.toArray⟩]) := by unfold Hid; rw [hw5]; exact Blk.new _ _ _
        have X5 : Below te.heap.size te w5 := by rw [hw5]; exact alloc_below _ _
        have Vw5 := Lib.hid (Vte.out.trans (X5.mono Vte.out.size))
        have MB : Hid (∀ b, My b → b < te.heap.size) := fun b hb => HB.out.lt PY.out hb
        replace PY := Lib.hid (HB.out.below PY.out X5)
        replace KB := Lib.hid (KB.out.below X5 KB.out.lt)
        obtain ⟨ge, hge⟩ : ∃ g, g = te.heap.size := ⟨_, rfl⟩
        rw [← hge] at EB
        rw [← hge] at MB
        rw [← hw5]
        rw [← hge]
        clear X5 hw5 hge Vte
        have FE : Hid (∀ j v, RB[j]? = some v → (w5.alloc (.cells #[.int .u8 115] 5 (1, 2))).cell? ⟨w.heap.size + 1, 0 + j, none⟩ = some v) := (KB.out.alloc _).cells
        go_wp2_with (first
          | (with_reducible refine build_law rfl 26 #[(0, .const (.int .u8 2))] rfl k2 (by simp only [List.map_toArray, List.map_cons, List.map_nil, eval_const]; exact BK2.out) ?_)
          | (with_reducible refine load_law rfl 42 (.tmp 4) rfl (w.heap.size + 1) 0 rfl RB _ Tryd.underlying42 rfl IRB.out FE.out ?_))
        obtain ⟨gl2, hgl2⟩ : ∃ g, g = w5.heap.size := ⟨_, rfl⟩
        obtain ⟨wl2, hwl2⟩ : ∃ x, x = w5.alloc (.cells #[.int .u8 115] 5 (1, 2)) := ⟨_, rfl⟩
        have hX : Below w5.heap.size w5 wl2 := by rw [hwl2]; exact alloc_below _ _
        have RL := Lib.hid (show Rd wl2 (some ⟨gl2, 0, none⟩) 1 1 [115] by rw [hwl2]; exact lit_bytesF w5 _ _ 1 _ _ (by rfl) rfl (by omega) hgl2)
        rw [← hgl2, ← hwl2]
        have Wl := Lib.hid (Vw5.out.trans (hX.mono Vw5.out.size))
        replace PY := Lib.hid (HB.out.below PY.out hX)
        replace KB := Lib.hid (KB.out.below hX KB.out.lt)
        replace EB := Lib.hid (EB.out.below hX EB.out.lt)
        have hM2 := MY.out
        refine (CS2.out wl2 gy My _ (HG.out.below Wl.out hsz) (fun b hb => by have := hM2 b hb; omega) PY.out RL.out).mono ?_
        rintro e tf ⟨rfl, hF⟩
        have Vtf := Lib.hid (hF.below Wl.out (fun b hb => by have := hM2 b hb; omega) Wl.out.size)
        have hn2 := MB.out
        replace EB := Lib.hid (hF.blk EB.out (fun h => by have := hn2 _ h; omega))
        clear hX hF RL FE Wl Vw5 PY KB CS2 BK2 hwl2 hgl2
        go_upto_region 10 with (fail)
        obtain ⟨w6, hw6⟩ : ∃ x, x = tf.alloc (.cells #[.int .i64 0, .int .i64 5, .string ⟨lt.toArray⟩] 50) := ⟨_, rfl⟩
        have EC : Hid (Blk w6 tf.heap.size 50 [.int .i64 0, .int .i64 5, .string ⟨lt.toArray⟩]) := by unfold Hid; rw [hw6]; exact Blk.new _ _ _
        have X6 : Below tf.heap.size tf w6 := by rw [hw6]; exact alloc_below _ _
        have Vw6 := Lib.hid (Vtf.out.trans (X6.mono Vtf.out.size))
        replace EB := Lib.hid (EB.out.below X6 EB.out.lt)
        rw [← hw6]
        clear X6 hw6 Vtf
        have IE : Hid ((Tryd.prog.info? 50).map (·.size) = some ([.int .i64 0, .int .i64 5, .string ⟨lt.toArray⟩] : List Value).length) := by unfold Hid; kernel_rfl
        go_wp2_with (first
          | ((with_reducible refine loadW_law ?gd 50 (.tmp 10) rfl ge 0 ?hx [.int .i64 0, .int .i64 5, .string ⟨lt.toArray⟩] _ Tryd.underlying50 rfl IE.out EB.out.cells ?_); (case gd => rfl); (case hx => rfl))
          | ((with_reducible refine loadW_law ?gd 50 (.tmp 12) rfl tf.heap.size 0 ?hx [.int .i64 0, .int .i64 5, .string ⟨lt.toArray⟩] _ Tryd.underlying50 rfl IE.out EC.out.cells ?_); (case gd => rfl); (case hx => rfl)))
        go_ret
        exact ⟨rfl, Vw6.out⟩
end Go.Proofs.YtijncclcdkgaoaaDoor.recShape
