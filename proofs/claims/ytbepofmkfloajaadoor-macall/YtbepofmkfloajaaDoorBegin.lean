/- The contract of begin. -/
import Derived.Test.YtbepofmkfloajaaDoorKsum
namespace Go.Proofs.YtbepofmkfloajaaDoor
set_option linter.unusedVariables false
set_option linter.unusedSimpArgs false
open Go.RowKit

/-- 'copy' of bytes into a part of a block. -/
theorem copy_into {w : World} {g off dLen dCap n c : Nat} {t : TypeId} {cs : List Value} {A : Option Addr} {l : List UInt8} (hb : Blk w g t cs) (hr : Rd w A n c l) (hfit : off + dLen ≤ cs.length) :
    ∃ W', (Builtin.copy_ #[23, 23] 3 #[.slice (some ⟨g, off, none⟩) dLen dCap, .slice A n c]).run Tryd.prog w = .ok (.int .i64 ((min n dLen : Nat) : Int)) W' ∧ Blk W' g t (cs.take off ++ (l.take (min n dLen)).map cellOf ++ cs.drop (off + min n dLen)) ∧ w.grownBy W' (some g) := by
  have hln := hr.len
  have hxl : (l.take (min n dLen)).length = min n dLen := by rw [List.length_take]; omega
  rcases Nat.eq_zero_or_pos n with h0 | h0
  · subst h0
    refine ⟨w, ?_, ?_, only_refl _ _⟩
    · rw [run_copy_none (P := Tryd.prog) _ 23 23 3 5 _ _ _ _ _ _ Tryd.underlying23 size5 (by simp)]
      simp [goInt]
    · rw [Nat.zero_min, List.take_zero, List.map_nil, List.append_nil, Nat.add_zero, List.take_append_drop]
      exact hb
  · obtain ⟨b, o, rfl, hblt, hc⟩ := hr.at_ h0
    have hcopy := run_copy_row (P := Tryd.prog) w 23 23 3 5 g off dLen dCap ⟨b, o, none⟩ n c cs.toArray t ((l.take (min n dLen)).map cellOf) Tryd.underlying23 size5 hb (by rw [List.length_map, hxl])
      (fun j v hv => by
        rw [add_plain]
        refine hr.cells j v ?_
        rw [List.map_take, List.getElem?_take] at hv
        split at hv
        · exact hv
        · cases hv) (by rw [List.length_map, hxl, List.size_toArray]; omega) (cells_u8 _)
    refine ⟨_, ?_, (hb.row (cs' := cs.take off ++ (l.take (min n dLen)).map cellOf ++ cs.drop (off + min n dLen))), only_setRow (only_refl w _) (.inl rfl) _⟩
    rw [hcopy, List.length_map, hxl]
    rfl

def zero51 : List Value := List.replicate 64 (.int .u8 0)
theorem key_cells (k : List UInt8) (x : List UInt8) (hx : x = Sha.key0 k) : zero51.take 0 ++ (x.take (min x.length 64)).map cellOf ++ zero51.drop (0 + min x.length 64) = (Sha.keyBlock k).map cellOf := by
  have hl : x.length ≤ 64 := by rw [hx]; exact Sha.key0_length k
  rw [Nat.min_eq_left hl, List.take_of_length_le (Nat.le_refl _), Nat.zero_add, List.take_zero, List.nil_append]
  unfold Sha.keyBlock zero51
  rw [← hx, List.map_append, List.drop_replicate, List.map_replicate]
  rfl
theorem lit_parts1 (w : World) {A : Option Addr} {n c : Nat} {l : List UInt8} (h : Rd w A n c l) : RdP (w.alloc (.cells #[.slice A n c] 23)) (some ⟨w.heap.size, 0, none⟩) 1 [l] :=
  ⟨rfl, fun j hj => by
    obtain rfl : j = 0 := by omega
    exact ⟨w.heap.size, 0, A, n, c, rfl, by simp, (Blk.new w 23 [.slice A n c]).cell 0, h.below ((Below.refl _ _).alloc (Nat.le_refl _) _)⟩⟩

set_option maxRecDepth 100000 in
set_option maxHeartbeats 2000000 in
theorem begin_any {w : World} {A : Option Addr} {n c : Nat} {key : List UInt8} (hg : Gl w) (hr : Rd w A n c key) (hn : n ≤ 1000000000) :
    Calls Tryd.prog 34 #[.slice A n c] w fun e w' => ∃ gi go, e = .returned (.agg #[.pointer (some ⟨gi, 0, none⟩), .pointer (some ⟨go, 0, none⟩)]) ∧ Holds w' gi (Sha.mask 0x36 (Sha.keyBlock key)) ∧ Holds w' go (Sha.mask 0x5c (Sha.keyBlock key)) ∧ Below w.heap.size w w' := by
  have HG := Lib.hid hg
  have hsz := hg.size
  have HR := Lib.hid hr
  have HKL := Lib.hid hr.len
  clear hg hr
  obtain ⟨w2, hw2⟩ : ∃ w2, w2 = (w.alloc (Obj.cells #[.pointer none, .pointer none] 61)).alloc (Obj.cells zero51.toArray 51) := ⟨_, rfl⟩
  have hs : w.heap.size + 2 ≤ w2.heap.size := by rw [hw2]; simp
  have HW : Hid (Below w.heap.size w w2) := by unfold Hid; rw [hw2]; exact ((Below.refl _ _).alloc (Nat.le_refl _) _).alloc (by simp) _
  have HZ : Hid (Blk w2 w.heap.size 61 [.pointer none, .pointer none]) := by unfold Hid; rw [hw2]; exact Blk.alloc (Blk.new w 61 [.pointer none, .pointer none]) _
  have HB1 : Hid (Blk w2 (w.heap.size + 1) 51 zero51) := by unfold Hid; rw [hw2]; exact Blk.at_new _ _ 51 _ _ rfl (by simp)
  have HR2 : Hid (Rd w2 A n c key) := HR.out.below HW.out
  have HG2 := Lib.hid (HG.out.below HW.out HG.out.size)
  by_cases hk : n ≤ 64
  · have hkb2 : decide (64 < n) = false := by simpa using hk
    have HX0 : Hid (key = Sha.key0 key) := by unfold Hid Sha.key0; rw [if_neg (by rw [HKL.out]; omega)]
    obtain ⟨w3, hcopy, hB3, hO3⟩ := copy_into (off := 0) (dLen := 64) (dCap := 64) HB1.out HR2.out (by simp [zero51])
    rw [show min n 64 = min key.length 64 by rw [HKL.out]] at hB3
    rw [key_cells key key HX0.out] at hB3
    have hw3 := hO3.size
    replace HZ : Hid (Blk w3 w.heap.size 61 [.pointer none, .pointer none]) := (hO3.block _ HZ.out.lt (by simp)).trans HZ.out
    replace HW : Hid (Below w.heap.size w w3) := below_of_only HW.out hO3 (by omega) (by omega)
    replace HG2 := Lib.hid (HG.out.below HW.out HG.out.size)
    obtain ⟨kb, hkb⟩ : ∃ kb, kb = (Sha.keyBlock key).map cellOf := ⟨_, rfl⟩
    have HKC := Lib.hid hkb
    have HKB := Lib.hid (Sha.keyBlock_length key)
    have HI51 : Hid ((Tryd.prog.info? 51).map (·.size) = some kb.length) := by unfold Hid; rw [hkb, List.length_map, Sha.keyBlock_length]; kernel_rfl
    have HI61 : Hid ((Tryd.prog.info? 61).map (·.size) = some 2) := by unfold Hid; kernel_rfl
    rw [← hkb] at hB3
    have HBk := Lib.hid hB3
    replace hs : w.heap.size + 2 ≤ w3.heap.size := by omega
    have HWW := Lib.hid hw2
    clear hB3 hO3 hkb hw2 HB1 HR2 HX0 hw3
    have hcopy2 : (Builtin.copy_ #[23, 23] 3 #[.slice (some ⟨w.heap.size + 1, 0, none⟩) 64 64, .slice A n c]).run Tryd.prog ((w.alloc (Obj.cells #[.pointer none, .pointer none] 61)).alloc (Obj.cells zero51.toArray 51)) = .ok (.int .i64 ((min n 64 : Nat) : Int)) w3 := by rw [← HWW.out]; exact hcopy
    simp only [zero51, List.replicate] at hcopy2
    clear hcopy HWW
    go_enter Tryd.func34, Tryd.ntmps34
    go_wp2_with fail
    clear hcopy2
    refine wp_region_any (by kernel_rfl) ?_
    change wpAny _ _ _ _ _ _ _ (World.drew _)
    replace HBk := Lib.hid HBk.out.drew
    replace HW := Lib.hid HW.out.drew
    replace HZ := Lib.hid HZ.out.drew
    replace HG2 := Lib.hid (HG.out.below HW.out HG.out.size)
    replace hs : w.heap.size + 2 ≤ w3.drew.heap.size := hs
    generalize w3.drew = v0 at *
    have HRg : Hid (v0.rangeAt (w.heap.size + 1) 0 kb) := HBk.out.cells
    refine wpAny_ready (rs := [0, 2]) (by kernel_rfl) (by simp) ?_
    refine AllReady.cons (o := ?o1) ?ho1 (fun K hK => ?_) ?more1
    case ho1 => simp only [List.getElem?_toArray, List.getElem?_cons_succ, List.getElem?_cons_zero]; rfl
    · refine step_load rfl 51 (.tmp 3) rfl (w.heap.size + 1) 0 rfl kb _ HRg.out Tryd.underlying51 rfl HI51.out (hK _ _ ?_)
      clear hK K
      try simp only [Act.put, List.setIfInBounds_toArray, List.set_cons_zero, List.set_cons_succ]
      refine wpAny_ready (rs := [1, 2]) (by kernel_rfl) (by simp) ?_
      refine AllReady.cons (o := ?o3) ?ho3 (fun K hK => ?_) ?more3
      case ho3 => simp only [List.getElem?_toArray, List.getElem?_cons_succ, List.getElem?_cons_zero]; rfl
      · go_simp
        refine (masked_any HG2.out HKB.out 0x36 kb HKC.out).mono ?_
        rintro e v1 ⟨g1, rfl, hg1, hH, hX⟩
        have HC1 : Hid (Holds v1 g1 (Sha.mask 0x36 (Sha.keyBlock key))) := hH
        have hlt1 : g1 < v1.heap.size := hH.lt
        replace HBk : Hid (Blk v1 (w.heap.size + 1) 51 kb) := HBk.out.below hX (by omega)
        have HRg : Hid (v1.rangeAt (w.heap.size + 1) 0 kb) := HBk.out.cells
        replace HW : Hid (Below w.heap.size w v1) := HW.out.trans (hX.mono (by omega))
        replace HZ : Hid (Blk v1 w.heap.size 61 [.pointer none, .pointer none]) := HZ.out.below hX (by omega)
        have HG2 := Lib.hid (HG2.out.below hX HG2.out.size)
        have hs : w.heap.size + 2 ≤ v1.heap.size := Nat.le_trans hs hX.size
        clear hH hX
        refine hK _ _ ?_
        clear hK K
        try simp only [Act.put, List.setIfInBounds_toArray, List.set_cons_zero, List.set_cons_succ]
        refine wpAny_ready (rs := [2]) (by kernel_rfl) (by simp) ?_
        refine AllReady.cons (o := ?o4) ?ho4 (fun K hK => ?_) AllReady.nil
        case ho4 => simp only [List.getElem?_toArray, List.getElem?_cons_succ, List.getElem?_cons_zero]; rfl
        refine step_load rfl 51 (.tmp 3) rfl (w.heap.size + 1) 0 rfl kb _ HRg.out Tryd.underlying51 rfl HI51.out (hK _ _ ?_)
        clear hK K
        try simp only [Act.put, List.setIfInBounds_toArray, List.set_cons_zero, List.set_cons_succ]
        refine wpAny_ready (rs := [3]) (by kernel_rfl) (by simp) ?_
        refine AllReady.cons (o := ?o6) ?ho6 (fun K hK => ?_) AllReady.nil
        case ho6 => simp only [List.getElem?_toArray, List.getElem?_cons_succ, List.getElem?_cons_zero]; rfl
        go_simp
        refine (masked_any HG2.out HKB.out 0x5c kb HKC.out).mono ?_
        rintro e v2 ⟨g2, rfl, hg2, hH, hX⟩
        have HC2 : Hid (Holds v2 g2 (Sha.mask 0x5c (Sha.keyBlock key))) := hH
        have hlt2 : g2 < v2.heap.size := hH.lt
        replace HC1 : Hid (Holds v2 g1 (Sha.mask 0x36 (Sha.keyBlock key))) := HC1.out.keep (hX.block g1 hlt1)
        replace HBk : Hid (Blk v2 (w.heap.size + 1) 51 kb) := HBk.out.below hX (by omega)
        have HRg : Hid (v2.rangeAt (w.heap.size + 1) 0 kb) := HBk.out.cells
        replace HW : Hid (Below w.heap.size w v2) := HW.out.trans (hX.mono (by omega))
        replace HZ : Hid (Blk v2 w.heap.size 61 [.pointer none, .pointer none]) := HZ.out.below hX (by omega)
        have HG2 := Lib.hid (HG2.out.below hX HG2.out.size)
        have hs : w.heap.size + 2 ≤ v2.heap.size := Nat.le_trans hs hX.size
        clear hH hX
        refine hK _ _ ?_
        clear hK K
        try simp only [Act.put, List.setIfInBounds_toArray, List.set_cons_zero, List.set_cons_succ]
        refine wpAny_take (i := 4) (oi := ?oi7) (v := .agg #[.pointer (some ⟨g1, 0, none⟩), .pointer (some ⟨g2, 0, none⟩)]) ?hi7 (by kernel_rfl) (by kernel_rfl) (by kernel_rfl) ?hQ7 ?hy7 ?rest7
        case hi7 => simp only [List.getElem?_toArray, List.getElem?_cons_succ, List.getElem?_cons_zero]; rfl
        case hQ7 => exact fun _ _ _ h => h
        case hy7 => exact Or.inl ⟨by rfl, by intro w; go_simp⟩
        try simp only [Act.put, List.setIfInBounds_toArray, List.set_cons_zero, List.set_cons_succ]
        refine wpAny_ready (rs := [5]) (by kernel_rfl) (by simp) ?_
        refine AllReady.cons (o := ?o8) ?ho8 (fun K hK => ?_) AllReady.nil
        case ho8 => simp only [List.getElem?_toArray, List.getElem?_cons_succ, List.getElem?_cons_zero]; rfl
        refine step_store rfl 61 (.tmp 2) (.tmp 21) rfl w.heap.size 0 rfl [.pointer (some ⟨g1, 0, none⟩), .pointer (some ⟨g2, 0, none⟩)] rfl 61 [.pointer none, .pointer none] HZ.out HI61.out (by simp) (by simp; exact ⟨rfl, rfl⟩) (hK _ _ ?_)
        clear hK K
        have HZ9 : Hid (Blk (v2.setRow w.heap.size #[.pointer (some ⟨g1, 0, none⟩), .pointer (some ⟨g2, 0, none⟩)]) w.heap.size 61 [.pointer (some ⟨g1, 0, none⟩), .pointer (some ⟨g2, 0, none⟩)]) := HZ.out.row
        have W9 : Hid (Below w.heap.size w (v2.setRow w.heap.size #[.pointer (some ⟨g1, 0, none⟩), .pointer (some ⟨g2, 0, none⟩)])) := below_setRow HW.out (Nat.le_refl _) _
        have H19 : Hid (Holds (v2.setRow w.heap.size #[.pointer (some ⟨g1, 0, none⟩), .pointer (some ⟨g2, 0, none⟩)]) g1 (Sha.mask 0x36 (Sha.keyBlock key))) := HC1.out.keep (setRow_other _ _ _ _ (by omega))
        have H29 : Hid (Holds (v2.setRow w.heap.size #[.pointer (some ⟨g1, 0, none⟩), .pointer (some ⟨g2, 0, none⟩)]) g2 (Sha.mask 0x5c (Sha.keyBlock key))) := HC2.out.keep (setRow_other _ _ _ _ (by omega))
        simp only [List.take_zero, List.nil_append, List.length_cons, List.length_nil, Nat.zero_add, List.drop_succ_cons, List.drop_zero, List.drop_nil, List.append_nil]
        generalize v2.setRow w.heap.size #[.pointer (some ⟨g1, 0, none⟩), .pointer (some ⟨g2, 0, none⟩)] = w9 at *
        try simp only [Act.put]
        refine wpAny_done (by kernel_rfl) ?_ _
        clear HC1 HC2 HZ HW HBk HRg
        go_wp2_with fail
        exact bodyPost_ret (results_cell_row rfl _ _ w.heap.size 61 #[.pointer (some ⟨g1, 0, none⟩), .pointer (some ⟨g2, 0, none⟩)] (0, 0) _ rfl HZ9.out Tryd.underlying61 rfl (by rw [HI61.out]; rfl)) rfl ⟨g1, g2, rfl, H19.out, H29.out, W9.out⟩
      case more3 =>
        refine AllReady.cons (o := ?o9) ?ho9 (fun K hK => ?_) AllReady.nil
        case ho9 => simp only [List.getElem?_toArray, List.getElem?_cons_succ, List.getElem?_cons_zero]; rfl
        refine step_load rfl 51 (.tmp 3) rfl (w.heap.size + 1) 0 rfl kb _ HRg.out Tryd.underlying51 rfl HI51.out (hK _ _ ?_)
        clear hK K
        try simp only [Act.put, List.setIfInBounds_toArray, List.set_cons_zero, List.set_cons_succ]
        refine wpAny_ready (rs := [1]) (by kernel_rfl) (by simp) ?_
        refine AllReady.cons (o := ?o11) ?ho11 (fun K hK => ?_) AllReady.nil
        case ho11 => simp only [List.getElem?_toArray, List.getElem?_cons_succ, List.getElem?_cons_zero]; rfl
        go_simp
        refine (masked_any HG2.out HKB.out 0x36 kb HKC.out).mono ?_
        rintro e v1 ⟨g1, rfl, hg1, hH, hX⟩
        have HC1 : Hid (Holds v1 g1 (Sha.mask 0x36 (Sha.keyBlock key))) := hH
        have hlt1 : g1 < v1.heap.size := hH.lt
        replace HBk : Hid (Blk v1 (w.heap.size + 1) 51 kb) := HBk.out.below hX (by omega)
        have HRg : Hid (v1.rangeAt (w.heap.size + 1) 0 kb) := HBk.out.cells
        replace HW : Hid (Below w.heap.size w v1) := HW.out.trans (hX.mono (by omega))
        replace HZ : Hid (Blk v1 w.heap.size 61 [.pointer none, .pointer none]) := HZ.out.below hX (by omega)
        have HG2 := Lib.hid (HG2.out.below hX HG2.out.size)
        have hs : w.heap.size + 2 ≤ v1.heap.size := Nat.le_trans hs hX.size
        clear hH hX
        refine hK _ _ ?_
        clear hK K
        try simp only [Act.put, List.setIfInBounds_toArray, List.set_cons_zero, List.set_cons_succ]
        refine wpAny_ready (rs := [3]) (by kernel_rfl) (by simp) ?_
        refine AllReady.cons (o := ?o12) ?ho12 (fun K hK => ?_) AllReady.nil
        case ho12 => simp only [List.getElem?_toArray, List.getElem?_cons_succ, List.getElem?_cons_zero]; rfl
        go_simp
        refine (masked_any HG2.out HKB.out 0x5c kb HKC.out).mono ?_
        rintro e v2 ⟨g2, rfl, hg2, hH, hX⟩
        have HC2 : Hid (Holds v2 g2 (Sha.mask 0x5c (Sha.keyBlock key))) := hH
        have hlt2 : g2 < v2.heap.size := hH.lt
        replace HC1 : Hid (Holds v2 g1 (Sha.mask 0x36 (Sha.keyBlock key))) := HC1.out.keep (hX.block g1 hlt1)
        replace HBk : Hid (Blk v2 (w.heap.size + 1) 51 kb) := HBk.out.below hX (by omega)
        have HRg : Hid (v2.rangeAt (w.heap.size + 1) 0 kb) := HBk.out.cells
        replace HW : Hid (Below w.heap.size w v2) := HW.out.trans (hX.mono (by omega))
        replace HZ : Hid (Blk v2 w.heap.size 61 [.pointer none, .pointer none]) := HZ.out.below hX (by omega)
        have HG2 := Lib.hid (HG2.out.below hX HG2.out.size)
        have hs : w.heap.size + 2 ≤ v2.heap.size := Nat.le_trans hs hX.size
        clear hH hX
        refine hK _ _ ?_
        clear hK K
        try simp only [Act.put, List.setIfInBounds_toArray, List.set_cons_zero, List.set_cons_succ]
        refine wpAny_take (i := 4) (oi := ?oi13) (v := .agg #[.pointer (some ⟨g1, 0, none⟩), .pointer (some ⟨g2, 0, none⟩)]) ?hi13 (by kernel_rfl) (by kernel_rfl) (by kernel_rfl) ?hQ13 ?hy13 ?rest13
        case hi13 => simp only [List.getElem?_toArray, List.getElem?_cons_succ, List.getElem?_cons_zero]; rfl
        case hQ13 => exact fun _ _ _ h => h
        case hy13 => exact Or.inl ⟨by rfl, by intro w; go_simp⟩
        try simp only [Act.put, List.setIfInBounds_toArray, List.set_cons_zero, List.set_cons_succ]
        refine wpAny_ready (rs := [5]) (by kernel_rfl) (by simp) ?_
        refine AllReady.cons (o := ?o14) ?ho14 (fun K hK => ?_) AllReady.nil
        case ho14 => simp only [List.getElem?_toArray, List.getElem?_cons_succ, List.getElem?_cons_zero]; rfl
        refine step_store rfl 61 (.tmp 2) (.tmp 21) rfl w.heap.size 0 rfl [.pointer (some ⟨g1, 0, none⟩), .pointer (some ⟨g2, 0, none⟩)] rfl 61 [.pointer none, .pointer none] HZ.out HI61.out (by simp) (by simp; exact ⟨rfl, rfl⟩) (hK _ _ ?_)
        clear hK K
        have HZ9 : Hid (Blk (v2.setRow w.heap.size #[.pointer (some ⟨g1, 0, none⟩), .pointer (some ⟨g2, 0, none⟩)]) w.heap.size 61 [.pointer (some ⟨g1, 0, none⟩), .pointer (some ⟨g2, 0, none⟩)]) := HZ.out.row
        have W9 : Hid (Below w.heap.size w (v2.setRow w.heap.size #[.pointer (some ⟨g1, 0, none⟩), .pointer (some ⟨g2, 0, none⟩)])) := below_setRow HW.out (Nat.le_refl _) _
        have H19 : Hid (Holds (v2.setRow w.heap.size #[.pointer (some ⟨g1, 0, none⟩), .pointer (some ⟨g2, 0, none⟩)]) g1 (Sha.mask 0x36 (Sha.keyBlock key))) := HC1.out.keep (setRow_other _ _ _ _ (by omega))
        have H29 : Hid (Holds (v2.setRow w.heap.size #[.pointer (some ⟨g1, 0, none⟩), .pointer (some ⟨g2, 0, none⟩)]) g2 (Sha.mask 0x5c (Sha.keyBlock key))) := HC2.out.keep (setRow_other _ _ _ _ (by omega))
        simp only [List.take_zero, List.nil_append, List.length_cons, List.length_nil, Nat.zero_add, List.drop_succ_cons, List.drop_zero, List.drop_nil, List.append_nil]
        generalize v2.setRow w.heap.size #[.pointer (some ⟨g1, 0, none⟩), .pointer (some ⟨g2, 0, none⟩)] = w9 at *
        try simp only [Act.put]
        refine wpAny_done (by kernel_rfl) ?_ _
        clear HC1 HC2 HZ HW HBk HRg
        go_wp2_with fail
        exact bodyPost_ret (results_cell_row rfl _ _ w.heap.size 61 #[.pointer (some ⟨g1, 0, none⟩), .pointer (some ⟨g2, 0, none⟩)] (0, 0) _ rfl HZ9.out Tryd.underlying61 rfl (by rw [HI61.out]; rfl)) rfl ⟨g1, g2, rfl, H19.out, H29.out, W9.out⟩
    case more1 =>
      refine AllReady.cons (o := ?o15) ?ho15 (fun K hK => ?_) AllReady.nil
      case ho15 => simp only [List.getElem?_toArray, List.getElem?_cons_succ, List.getElem?_cons_zero]; rfl
      refine step_load rfl 51 (.tmp 3) rfl (w.heap.size + 1) 0 rfl kb _ HRg.out Tryd.underlying51 rfl HI51.out (hK _ _ ?_)
      clear hK K
      try simp only [Act.put, List.setIfInBounds_toArray, List.set_cons_zero, List.set_cons_succ]
      refine wpAny_ready (rs := [0]) (by kernel_rfl) (by simp) ?_
      refine AllReady.cons (o := ?o17) ?ho17 (fun K hK => ?_) AllReady.nil
      case ho17 => simp only [List.getElem?_toArray, List.getElem?_cons_succ, List.getElem?_cons_zero]; rfl
      refine step_load rfl 51 (.tmp 3) rfl (w.heap.size + 1) 0 rfl kb _ HRg.out Tryd.underlying51 rfl HI51.out (hK _ _ ?_)
      clear hK K
      try simp only [Act.put, List.setIfInBounds_toArray, List.set_cons_zero, List.set_cons_succ]
      refine wpAny_ready (rs := [1]) (by kernel_rfl) (by simp) ?_
      refine AllReady.cons (o := ?o19) ?ho19 (fun K hK => ?_) AllReady.nil
      case ho19 => simp only [List.getElem?_toArray, List.getElem?_cons_succ, List.getElem?_cons_zero]; rfl
      go_simp
      refine (masked_any HG2.out HKB.out 0x36 kb HKC.out).mono ?_
      rintro e v1 ⟨g1, rfl, hg1, hH, hX⟩
      have HC1 : Hid (Holds v1 g1 (Sha.mask 0x36 (Sha.keyBlock key))) := hH
      have hlt1 : g1 < v1.heap.size := hH.lt
      replace HBk : Hid (Blk v1 (w.heap.size + 1) 51 kb) := HBk.out.below hX (by omega)
      have HRg : Hid (v1.rangeAt (w.heap.size + 1) 0 kb) := HBk.out.cells
      replace HW : Hid (Below w.heap.size w v1) := HW.out.trans (hX.mono (by omega))
      replace HZ : Hid (Blk v1 w.heap.size 61 [.pointer none, .pointer none]) := HZ.out.below hX (by omega)
      have HG2 := Lib.hid (HG2.out.below hX HG2.out.size)
      have hs : w.heap.size + 2 ≤ v1.heap.size := Nat.le_trans hs hX.size
      clear hH hX
      refine hK _ _ ?_
      clear hK K
      try simp only [Act.put, List.setIfInBounds_toArray, List.set_cons_zero, List.set_cons_succ]
      refine wpAny_ready (rs := [3]) (by kernel_rfl) (by simp) ?_
      refine AllReady.cons (o := ?o20) ?ho20 (fun K hK => ?_) AllReady.nil
      case ho20 => simp only [List.getElem?_toArray, List.getElem?_cons_succ, List.getElem?_cons_zero]; rfl
      go_simp
      refine (masked_any HG2.out HKB.out 0x5c kb HKC.out).mono ?_
      rintro e v2 ⟨g2, rfl, hg2, hH, hX⟩
      have HC2 : Hid (Holds v2 g2 (Sha.mask 0x5c (Sha.keyBlock key))) := hH
      have hlt2 : g2 < v2.heap.size := hH.lt
      replace HC1 : Hid (Holds v2 g1 (Sha.mask 0x36 (Sha.keyBlock key))) := HC1.out.keep (hX.block g1 hlt1)
      replace HBk : Hid (Blk v2 (w.heap.size + 1) 51 kb) := HBk.out.below hX (by omega)
      have HRg : Hid (v2.rangeAt (w.heap.size + 1) 0 kb) := HBk.out.cells
      replace HW : Hid (Below w.heap.size w v2) := HW.out.trans (hX.mono (by omega))
      replace HZ : Hid (Blk v2 w.heap.size 61 [.pointer none, .pointer none]) := HZ.out.below hX (by omega)
      have HG2 := Lib.hid (HG2.out.below hX HG2.out.size)
      have hs : w.heap.size + 2 ≤ v2.heap.size := Nat.le_trans hs hX.size
      clear hH hX
      refine hK _ _ ?_
      clear hK K
      try simp only [Act.put, List.setIfInBounds_toArray, List.set_cons_zero, List.set_cons_succ]
      refine wpAny_take (i := 4) (oi := ?oi21) (v := .agg #[.pointer (some ⟨g1, 0, none⟩), .pointer (some ⟨g2, 0, none⟩)]) ?hi21 (by kernel_rfl) (by kernel_rfl) (by kernel_rfl) ?hQ21 ?hy21 ?rest21
      case hi21 => simp only [List.getElem?_toArray, List.getElem?_cons_succ, List.getElem?_cons_zero]; rfl
      case hQ21 => exact fun _ _ _ h => h
      case hy21 => exact Or.inl ⟨by rfl, by intro w; go_simp⟩
      try simp only [Act.put, List.setIfInBounds_toArray, List.set_cons_zero, List.set_cons_succ]
      refine wpAny_ready (rs := [5]) (by kernel_rfl) (by simp) ?_
      refine AllReady.cons (o := ?o22) ?ho22 (fun K hK => ?_) AllReady.nil
      case ho22 => simp only [List.getElem?_toArray, List.getElem?_cons_succ, List.getElem?_cons_zero]; rfl
      refine step_store rfl 61 (.tmp 2) (.tmp 21) rfl w.heap.size 0 rfl [.pointer (some ⟨g1, 0, none⟩), .pointer (some ⟨g2, 0, none⟩)] rfl 61 [.pointer none, .pointer none] HZ.out HI61.out (by simp) (by simp; exact ⟨rfl, rfl⟩) (hK _ _ ?_)
      clear hK K
      have HZ9 : Hid (Blk (v2.setRow w.heap.size #[.pointer (some ⟨g1, 0, none⟩), .pointer (some ⟨g2, 0, none⟩)]) w.heap.size 61 [.pointer (some ⟨g1, 0, none⟩), .pointer (some ⟨g2, 0, none⟩)]) := HZ.out.row
      have W9 : Hid (Below w.heap.size w (v2.setRow w.heap.size #[.pointer (some ⟨g1, 0, none⟩), .pointer (some ⟨g2, 0, none⟩)])) := below_setRow HW.out (Nat.le_refl _) _
      have H19 : Hid (Holds (v2.setRow w.heap.size #[.pointer (some ⟨g1, 0, none⟩), .pointer (some ⟨g2, 0, none⟩)]) g1 (Sha.mask 0x36 (Sha.keyBlock key))) := HC1.out.keep (setRow_other _ _ _ _ (by omega))
      have H29 : Hid (Holds (v2.setRow w.heap.size #[.pointer (some ⟨g1, 0, none⟩), .pointer (some ⟨g2, 0, none⟩)]) g2 (Sha.mask 0x5c (Sha.keyBlock key))) := HC2.out.keep (setRow_other _ _ _ _ (by omega))
      simp only [List.take_zero, List.nil_append, List.length_cons, List.length_nil, Nat.zero_add, List.drop_succ_cons, List.drop_zero, List.drop_nil, List.append_nil]
      generalize v2.setRow w.heap.size #[.pointer (some ⟨g1, 0, none⟩), .pointer (some ⟨g2, 0, none⟩)] = w9 at *
      try simp only [Act.put]
      refine wpAny_done (by kernel_rfl) ?_ _
      clear HC1 HC2 HZ HW HBk HRg
      go_wp2_with fail
      exact bodyPost_ret (results_cell_row rfl _ _ w.heap.size 61 #[.pointer (some ⟨g1, 0, none⟩), .pointer (some ⟨g2, 0, none⟩)] (0, 0) _ rfl HZ9.out Tryd.underlying61 rfl (by rw [HI61.out]; rfl)) rfl ⟨g1, g2, rfl, H19.out, H29.out, W9.out⟩
  · have hkb2 : 64 < n := by omega
    have HX0 : Hid (Sha.sum key = Sha.key0 key) := by unfold Hid Sha.key0; rw [if_pos (by rw [HKL.out]; omega)]
    have HP := Lib.hid (lit_parts1 w2 HR2.out)
    have HW2 := Lib.hid ((Below.refl w2.heap.size w2).alloc (Nat.le_refl _) (.cells #[.slice A n c] 23))
    have HG3 := Lib.hid (HG2.out.below HW2.out HG2.out.size)
    have hcall := Lib.hid (shaSum_any (c := 1) HG3.out HP.out (by omega) (by simp [HKL.out]; omega))
    simp only [List.flatten_cons, List.flatten_nil, List.append_nil] at hcall
    have HWW := Lib.hid hw2
    clear hw2 HP
    go_enter Tryd.func34, Tryd.ntmps34
    go_upto_region 3 with (fail)
    change Code.wp _ _ _ _ ((w.alloc (Obj.cells #[.pointer none, .pointer none] 61)).alloc (Obj.cells zero51.toArray 51))
    rw [← HWW.out]
    clear HWW
    go_wp2_with fail
    refine hcall.out.mono ?_
    rintro e w3 ⟨D, rfl, hS, hX⟩
    have hsx := hX.size
    simp at hsx
    replace HZ : Hid (Blk w3 w.heap.size 61 [.pointer none, .pointer none]) := (HZ.out.alloc _).below hX (by simp; omega)
    replace HB1 : Hid (Blk w3 (w.heap.size + 1) 51 zero51) := (HB1.out.alloc _).below hX (by simp; omega)
    replace HW : Hid (Below w.heap.size w w3) := (HW.out.trans (HW2.out.mono (by omega))).trans (hX.mono (by simp; omega))
    have HS := Lib.hid hS
    have HI := Lib.hid hS.info
    have HL : Hid ((List.replicate 32 (Value.int .u8 0)).length = D.length) := by unfold Hid; rw [hS.len]; rfl
    have H1 := Lib.hid hS.one
    replace hs : w.heap.size + 2 ≤ w3.heap.size := by omega
    clear hS hX hcall HW2 HG3 HR2
    go_wp2_with (first
      | ((with_reducible refine storeGen_law rfl 30 (.tmp 4) (.tmp 10) rfl w3.heap.size rfl D rfl 30 (List.replicate 32 (.int .u8 0)) HI.out HL.out H1.out w3.heap.size w3 ?_ ?_ (Nat.le_refl _) ?_)
         · exact Blk.at_new _ _ 30 _ _ (by rfl) rfl
         · exact (Below.refl _ _).alloc (Nat.le_refl _) _
         intro w4 B4 W4))
    try simp only [Act.put]
    have hw4 := W4.out.size
    replace HZ : Hid (Blk w4.drew w.heap.size 61 [.pointer none, .pointer none]) := Blk.drew (HZ.out.below W4.out (show w.heap.size < w3.heap.size by omega))
    replace HB1 : Hid (Blk w4.drew (w.heap.size + 1) 51 zero51) := Blk.drew (HB1.out.below W4.out (show w.heap.size + 1 < w3.heap.size by omega))
    replace HW : Hid (Below w.heap.size w w4.drew) := (HW.out.trans (W4.out.mono (show w.heap.size ≤ w3.heap.size by omega))).drew
    replace B4 : Hid (Blk w4.drew w3.heap.size 30 D) := B4.out.drew
    replace hs : w.heap.size + 2 ≤ w4.drew.heap.size := by show _ ≤ w4.heap.size; omega
    clear W4 hw4
    refine wp_region_any (by kernel_rfl) ?_
    change wpAny _ _ _ _ _ _ _ (World.drew _)
    generalize w4.drew = w5 at *
    have HR5 : Hid (Rd w5 (some ⟨w3.heap.size, 0, none⟩) 32 32 (Sha.sum key)) :=
      Rd.of_block B4.out (Sha.sum_length _) (Nat.le_refl _) (by unfold maxLen; omega) (fun j hj => by
        have hj' : j < (Sha.sum key).length := by rw [Sha.sum_length]; exact hj
        rw [HS.out]
        simp [List.getD_eq_getElem?_getD, List.getElem?_eq_getElem hj'])
    obtain ⟨w6, hcopy, hB6, hO6⟩ := copy_into (off := 0) (dLen := 64) (dCap := 64) HB1.out HR5.out (by simp [zero51])
    rw [show min 32 64 = min (Sha.sum key).length 64 by rw [Sha.sum_length]] at hB6
    rw [key_cells key _ HX0.out] at hB6
    have hw6 := hO6.size
    replace HZ : Hid (Blk w6 w.heap.size 61 [.pointer none, .pointer none]) := (hO6.block _ HZ.out.lt (by simp)).trans HZ.out
    replace HW : Hid (Below w.heap.size w w6) := below_of_only HW.out hO6 (by omega) (by omega)
    replace HG2 := Lib.hid (HG.out.below HW.out HG.out.size)
    obtain ⟨kb, hkb⟩ : ∃ kb, kb = (Sha.keyBlock key).map cellOf := ⟨_, rfl⟩
    have HKC := Lib.hid hkb
    have HKB := Lib.hid (Sha.keyBlock_length key)
    have HI51 : Hid ((Tryd.prog.info? 51).map (·.size) = some kb.length) := by unfold Hid; rw [hkb, List.length_map, Sha.keyBlock_length]; kernel_rfl
    have HI61 : Hid ((Tryd.prog.info? 61).map (·.size) = some 2) := by unfold Hid; kernel_rfl
    rw [← hkb] at hB6
    have HBk := Lib.hid hB6
    replace hs : w.heap.size + 2 ≤ w6.heap.size := by omega
    clear hB6 hO6 hkb HB1 HX0 hw6 HR5 B4
    refine wpAny_take (i := 0) (oi := ?oi23) (v := .slice (some ⟨w.heap.size + 1, 0, none⟩) 64 64) ?hi23 (by kernel_rfl) (by kernel_rfl) (by kernel_rfl) ?hQ23 ?hy23 ?rest23
    case hi23 => simp only [List.getElem?_toArray, List.getElem?_cons_succ, List.getElem?_cons_zero]; rfl
    case hQ23 => exact fun _ _ _ h => h
    case hy23 => exact Or.inl ⟨by rfl, by intro w; go_simp⟩
    try simp only [Act.put, List.setIfInBounds_toArray, List.set_cons_zero, List.set_cons_succ]
    refine wpAny_take (i := 1) (oi := ?oi24) (v := .slice (some ⟨w3.heap.size, 0, none⟩) 32 32) ?hi24 (by kernel_rfl) (by kernel_rfl) (by kernel_rfl) ?hQ24 ?hy24 ?rest24
    case hi24 => simp only [List.getElem?_toArray, List.getElem?_cons_succ, List.getElem?_cons_zero]; rfl
    case hQ24 => exact fun _ _ _ h => h
    case hy24 => exact Or.inl ⟨by rfl, by intro w; go_simp⟩
    try simp only [Act.put, List.setIfInBounds_toArray, List.set_cons_zero, List.set_cons_succ]
    refine wpAny_ready (rs := [2]) (by kernel_rfl) (by simp) ?_
    refine AllReady.cons (o := ?o25) ?ho25 (fun K hK => ?_) AllReady.nil
    case ho25 => simp only [List.getElem?_toArray, List.getElem?_cons_succ, List.getElem?_cons_zero]; rfl
    go_simp
    refine hK _ _ ?_
    clear hK K hcopy
    try simp only [Act.put]
    refine wpAny_done (by kernel_rfl) ?_ _
    go_wp2_with fail
    refine wp_region_any (by kernel_rfl) ?_
    change wpAny _ _ _ _ _ _ _ (World.drew _)
    replace HBk := Lib.hid HBk.out.drew
    replace HW := Lib.hid HW.out.drew
    replace HZ := Lib.hid HZ.out.drew
    replace HG2 := Lib.hid (HG.out.below HW.out HG.out.size)
    replace hs : w.heap.size + 2 ≤ w6.drew.heap.size := hs
    generalize w6.drew = v0 at *
    have HRg : Hid (v0.rangeAt (w.heap.size + 1) 0 kb) := HBk.out.cells
    refine wpAny_ready (rs := [0, 2]) (by kernel_rfl) (by simp) ?_
    refine AllReady.cons (o := ?o26) ?ho26 (fun K hK => ?_) ?more26
    case ho26 => simp only [List.getElem?_toArray, List.getElem?_cons_succ, List.getElem?_cons_zero]; rfl
    · refine step_load rfl 51 (.tmp 3) rfl (w.heap.size + 1) 0 rfl kb _ HRg.out Tryd.underlying51 rfl HI51.out (hK _ _ ?_)
      clear hK K
      try simp only [Act.put, List.setIfInBounds_toArray, List.set_cons_zero, List.set_cons_succ]
      refine wpAny_ready (rs := [1, 2]) (by kernel_rfl) (by simp) ?_
      refine AllReady.cons (o := ?o28) ?ho28 (fun K hK => ?_) ?more28
      case ho28 => simp only [List.getElem?_toArray, List.getElem?_cons_succ, List.getElem?_cons_zero]; rfl
      · go_simp
        refine (masked_any HG2.out HKB.out 0x36 kb HKC.out).mono ?_
        rintro e v1 ⟨g1, rfl, hg1, hH, hX⟩
        have HC1 : Hid (Holds v1 g1 (Sha.mask 0x36 (Sha.keyBlock key))) := hH
        have hlt1 : g1 < v1.heap.size := hH.lt
        replace HBk : Hid (Blk v1 (w.heap.size + 1) 51 kb) := HBk.out.below hX (by omega)
        have HRg : Hid (v1.rangeAt (w.heap.size + 1) 0 kb) := HBk.out.cells
        replace HW : Hid (Below w.heap.size w v1) := HW.out.trans (hX.mono (by omega))
        replace HZ : Hid (Blk v1 w.heap.size 61 [.pointer none, .pointer none]) := HZ.out.below hX (by omega)
        have HG2 := Lib.hid (HG2.out.below hX HG2.out.size)
        have hs : w.heap.size + 2 ≤ v1.heap.size := Nat.le_trans hs hX.size
        clear hH hX
        refine hK _ _ ?_
        clear hK K
        try simp only [Act.put, List.setIfInBounds_toArray, List.set_cons_zero, List.set_cons_succ]
        refine wpAny_ready (rs := [2]) (by kernel_rfl) (by simp) ?_
        refine AllReady.cons (o := ?o29) ?ho29 (fun K hK => ?_) AllReady.nil
        case ho29 => simp only [List.getElem?_toArray, List.getElem?_cons_succ, List.getElem?_cons_zero]; rfl
        refine step_load rfl 51 (.tmp 3) rfl (w.heap.size + 1) 0 rfl kb _ HRg.out Tryd.underlying51 rfl HI51.out (hK _ _ ?_)
        clear hK K
        try simp only [Act.put, List.setIfInBounds_toArray, List.set_cons_zero, List.set_cons_succ]
        refine wpAny_ready (rs := [3]) (by kernel_rfl) (by simp) ?_
        refine AllReady.cons (o := ?o31) ?ho31 (fun K hK => ?_) AllReady.nil
        case ho31 => simp only [List.getElem?_toArray, List.getElem?_cons_succ, List.getElem?_cons_zero]; rfl
        go_simp
        refine (masked_any HG2.out HKB.out 0x5c kb HKC.out).mono ?_
        rintro e v2 ⟨g2, rfl, hg2, hH, hX⟩
        have HC2 : Hid (Holds v2 g2 (Sha.mask 0x5c (Sha.keyBlock key))) := hH
        have hlt2 : g2 < v2.heap.size := hH.lt
        replace HC1 : Hid (Holds v2 g1 (Sha.mask 0x36 (Sha.keyBlock key))) := HC1.out.keep (hX.block g1 hlt1)
        replace HBk : Hid (Blk v2 (w.heap.size + 1) 51 kb) := HBk.out.below hX (by omega)
        have HRg : Hid (v2.rangeAt (w.heap.size + 1) 0 kb) := HBk.out.cells
        replace HW : Hid (Below w.heap.size w v2) := HW.out.trans (hX.mono (by omega))
        replace HZ : Hid (Blk v2 w.heap.size 61 [.pointer none, .pointer none]) := HZ.out.below hX (by omega)
        have HG2 := Lib.hid (HG2.out.below hX HG2.out.size)
        have hs : w.heap.size + 2 ≤ v2.heap.size := Nat.le_trans hs hX.size
        clear hH hX
        refine hK _ _ ?_
        clear hK K
        try simp only [Act.put, List.setIfInBounds_toArray, List.set_cons_zero, List.set_cons_succ]
        refine wpAny_take (i := 4) (oi := ?oi32) (v := .agg #[.pointer (some ⟨g1, 0, none⟩), .pointer (some ⟨g2, 0, none⟩)]) ?hi32 (by kernel_rfl) (by kernel_rfl) (by kernel_rfl) ?hQ32 ?hy32 ?rest32
        case hi32 => simp only [List.getElem?_toArray, List.getElem?_cons_succ, List.getElem?_cons_zero]; rfl
        case hQ32 => exact fun _ _ _ h => h
        case hy32 => exact Or.inl ⟨by rfl, by intro w; go_simp⟩
        try simp only [Act.put, List.setIfInBounds_toArray, List.set_cons_zero, List.set_cons_succ]
        refine wpAny_ready (rs := [5]) (by kernel_rfl) (by simp) ?_
        refine AllReady.cons (o := ?o33) ?ho33 (fun K hK => ?_) AllReady.nil
        case ho33 => simp only [List.getElem?_toArray, List.getElem?_cons_succ, List.getElem?_cons_zero]; rfl
        refine step_store rfl 61 (.tmp 2) (.tmp 21) rfl w.heap.size 0 rfl [.pointer (some ⟨g1, 0, none⟩), .pointer (some ⟨g2, 0, none⟩)] rfl 61 [.pointer none, .pointer none] HZ.out HI61.out (by simp) (by simp; exact ⟨rfl, rfl⟩) (hK _ _ ?_)
        clear hK K
        have HZ9 : Hid (Blk (v2.setRow w.heap.size #[.pointer (some ⟨g1, 0, none⟩), .pointer (some ⟨g2, 0, none⟩)]) w.heap.size 61 [.pointer (some ⟨g1, 0, none⟩), .pointer (some ⟨g2, 0, none⟩)]) := HZ.out.row
        have W9 : Hid (Below w.heap.size w (v2.setRow w.heap.size #[.pointer (some ⟨g1, 0, none⟩), .pointer (some ⟨g2, 0, none⟩)])) := below_setRow HW.out (Nat.le_refl _) _
        have H19 : Hid (Holds (v2.setRow w.heap.size #[.pointer (some ⟨g1, 0, none⟩), .pointer (some ⟨g2, 0, none⟩)]) g1 (Sha.mask 0x36 (Sha.keyBlock key))) := HC1.out.keep (setRow_other _ _ _ _ (by omega))
        have H29 : Hid (Holds (v2.setRow w.heap.size #[.pointer (some ⟨g1, 0, none⟩), .pointer (some ⟨g2, 0, none⟩)]) g2 (Sha.mask 0x5c (Sha.keyBlock key))) := HC2.out.keep (setRow_other _ _ _ _ (by omega))
        simp only [List.take_zero, List.nil_append, List.length_cons, List.length_nil, Nat.zero_add, List.drop_succ_cons, List.drop_zero, List.drop_nil, List.append_nil]
        generalize v2.setRow w.heap.size #[.pointer (some ⟨g1, 0, none⟩), .pointer (some ⟨g2, 0, none⟩)] = w9 at *
        try simp only [Act.put]
        refine wpAny_done (by kernel_rfl) ?_ _
        clear HC1 HC2 HZ HW HBk HRg
        go_wp2_with fail
        exact bodyPost_ret (results_cell_row rfl _ _ w.heap.size 61 #[.pointer (some ⟨g1, 0, none⟩), .pointer (some ⟨g2, 0, none⟩)] (0, 0) _ rfl HZ9.out Tryd.underlying61 rfl (by rw [HI61.out]; rfl)) rfl ⟨g1, g2, rfl, H19.out, H29.out, W9.out⟩
      case more28 =>
        refine AllReady.cons (o := ?o34) ?ho34 (fun K hK => ?_) AllReady.nil
        case ho34 => simp only [List.getElem?_toArray, List.getElem?_cons_succ, List.getElem?_cons_zero]; rfl
        refine step_load rfl 51 (.tmp 3) rfl (w.heap.size + 1) 0 rfl kb _ HRg.out Tryd.underlying51 rfl HI51.out (hK _ _ ?_)
        clear hK K
        try simp only [Act.put, List.setIfInBounds_toArray, List.set_cons_zero, List.set_cons_succ]
        refine wpAny_ready (rs := [1]) (by kernel_rfl) (by simp) ?_
        refine AllReady.cons (o := ?o36) ?ho36 (fun K hK => ?_) AllReady.nil
        case ho36 => simp only [List.getElem?_toArray, List.getElem?_cons_succ, List.getElem?_cons_zero]; rfl
        go_simp
        refine (masked_any HG2.out HKB.out 0x36 kb HKC.out).mono ?_
        rintro e v1 ⟨g1, rfl, hg1, hH, hX⟩
        have HC1 : Hid (Holds v1 g1 (Sha.mask 0x36 (Sha.keyBlock key))) := hH
        have hlt1 : g1 < v1.heap.size := hH.lt
        replace HBk : Hid (Blk v1 (w.heap.size + 1) 51 kb) := HBk.out.below hX (by omega)
        have HRg : Hid (v1.rangeAt (w.heap.size + 1) 0 kb) := HBk.out.cells
        replace HW : Hid (Below w.heap.size w v1) := HW.out.trans (hX.mono (by omega))
        replace HZ : Hid (Blk v1 w.heap.size 61 [.pointer none, .pointer none]) := HZ.out.below hX (by omega)
        have HG2 := Lib.hid (HG2.out.below hX HG2.out.size)
        have hs : w.heap.size + 2 ≤ v1.heap.size := Nat.le_trans hs hX.size
        clear hH hX
        refine hK _ _ ?_
        clear hK K
        try simp only [Act.put, List.setIfInBounds_toArray, List.set_cons_zero, List.set_cons_succ]
        refine wpAny_ready (rs := [3]) (by kernel_rfl) (by simp) ?_
        refine AllReady.cons (o := ?o37) ?ho37 (fun K hK => ?_) AllReady.nil
        case ho37 => simp only [List.getElem?_toArray, List.getElem?_cons_succ, List.getElem?_cons_zero]; rfl
        go_simp
        refine (masked_any HG2.out HKB.out 0x5c kb HKC.out).mono ?_
        rintro e v2 ⟨g2, rfl, hg2, hH, hX⟩
        have HC2 : Hid (Holds v2 g2 (Sha.mask 0x5c (Sha.keyBlock key))) := hH
        have hlt2 : g2 < v2.heap.size := hH.lt
        replace HC1 : Hid (Holds v2 g1 (Sha.mask 0x36 (Sha.keyBlock key))) := HC1.out.keep (hX.block g1 hlt1)
        replace HBk : Hid (Blk v2 (w.heap.size + 1) 51 kb) := HBk.out.below hX (by omega)
        have HRg : Hid (v2.rangeAt (w.heap.size + 1) 0 kb) := HBk.out.cells
        replace HW : Hid (Below w.heap.size w v2) := HW.out.trans (hX.mono (by omega))
        replace HZ : Hid (Blk v2 w.heap.size 61 [.pointer none, .pointer none]) := HZ.out.below hX (by omega)
        have HG2 := Lib.hid (HG2.out.below hX HG2.out.size)
        have hs : w.heap.size + 2 ≤ v2.heap.size := Nat.le_trans hs hX.size
        clear hH hX
        refine hK _ _ ?_
        clear hK K
        try simp only [Act.put, List.setIfInBounds_toArray, List.set_cons_zero, List.set_cons_succ]
        refine wpAny_take (i := 4) (oi := ?oi38) (v := .agg #[.pointer (some ⟨g1, 0, none⟩), .pointer (some ⟨g2, 0, none⟩)]) ?hi38 (by kernel_rfl) (by kernel_rfl) (by kernel_rfl) ?hQ38 ?hy38 ?rest38
        case hi38 => simp only [List.getElem?_toArray, List.getElem?_cons_succ, List.getElem?_cons_zero]; rfl
        case hQ38 => exact fun _ _ _ h => h
        case hy38 => exact Or.inl ⟨by rfl, by intro w; go_simp⟩
        try simp only [Act.put, List.setIfInBounds_toArray, List.set_cons_zero, List.set_cons_succ]
        refine wpAny_ready (rs := [5]) (by kernel_rfl) (by simp) ?_
        refine AllReady.cons (o := ?o39) ?ho39 (fun K hK => ?_) AllReady.nil
        case ho39 => simp only [List.getElem?_toArray, List.getElem?_cons_succ, List.getElem?_cons_zero]; rfl
        refine step_store rfl 61 (.tmp 2) (.tmp 21) rfl w.heap.size 0 rfl [.pointer (some ⟨g1, 0, none⟩), .pointer (some ⟨g2, 0, none⟩)] rfl 61 [.pointer none, .pointer none] HZ.out HI61.out (by simp) (by simp; exact ⟨rfl, rfl⟩) (hK _ _ ?_)
        clear hK K
        have HZ9 : Hid (Blk (v2.setRow w.heap.size #[.pointer (some ⟨g1, 0, none⟩), .pointer (some ⟨g2, 0, none⟩)]) w.heap.size 61 [.pointer (some ⟨g1, 0, none⟩), .pointer (some ⟨g2, 0, none⟩)]) := HZ.out.row
        have W9 : Hid (Below w.heap.size w (v2.setRow w.heap.size #[.pointer (some ⟨g1, 0, none⟩), .pointer (some ⟨g2, 0, none⟩)])) := below_setRow HW.out (Nat.le_refl _) _
        have H19 : Hid (Holds (v2.setRow w.heap.size #[.pointer (some ⟨g1, 0, none⟩), .pointer (some ⟨g2, 0, none⟩)]) g1 (Sha.mask 0x36 (Sha.keyBlock key))) := HC1.out.keep (setRow_other _ _ _ _ (by omega))
        have H29 : Hid (Holds (v2.setRow w.heap.size #[.pointer (some ⟨g1, 0, none⟩), .pointer (some ⟨g2, 0, none⟩)]) g2 (Sha.mask 0x5c (Sha.keyBlock key))) := HC2.out.keep (setRow_other _ _ _ _ (by omega))
        simp only [List.take_zero, List.nil_append, List.length_cons, List.length_nil, Nat.zero_add, List.drop_succ_cons, List.drop_zero, List.drop_nil, List.append_nil]
        generalize v2.setRow w.heap.size #[.pointer (some ⟨g1, 0, none⟩), .pointer (some ⟨g2, 0, none⟩)] = w9 at *
        try simp only [Act.put]
        refine wpAny_done (by kernel_rfl) ?_ _
        clear HC1 HC2 HZ HW HBk HRg
        go_wp2_with fail
        exact bodyPost_ret (results_cell_row rfl _ _ w.heap.size 61 #[.pointer (some ⟨g1, 0, none⟩), .pointer (some ⟨g2, 0, none⟩)] (0, 0) _ rfl HZ9.out Tryd.underlying61 rfl (by rw [HI61.out]; rfl)) rfl ⟨g1, g2, rfl, H19.out, H29.out, W9.out⟩
    case more26 =>
      refine AllReady.cons (o := ?o40) ?ho40 (fun K hK => ?_) AllReady.nil
      case ho40 => simp only [List.getElem?_toArray, List.getElem?_cons_succ, List.getElem?_cons_zero]; rfl
      refine step_load rfl 51 (.tmp 3) rfl (w.heap.size + 1) 0 rfl kb _ HRg.out Tryd.underlying51 rfl HI51.out (hK _ _ ?_)
      clear hK K
      try simp only [Act.put, List.setIfInBounds_toArray, List.set_cons_zero, List.set_cons_succ]
      refine wpAny_ready (rs := [0]) (by kernel_rfl) (by simp) ?_
      refine AllReady.cons (o := ?o42) ?ho42 (fun K hK => ?_) AllReady.nil
      case ho42 => simp only [List.getElem?_toArray, List.getElem?_cons_succ, List.getElem?_cons_zero]; rfl
      refine step_load rfl 51 (.tmp 3) rfl (w.heap.size + 1) 0 rfl kb _ HRg.out Tryd.underlying51 rfl HI51.out (hK _ _ ?_)
      clear hK K
      try simp only [Act.put, List.setIfInBounds_toArray, List.set_cons_zero, List.set_cons_succ]
      refine wpAny_ready (rs := [1]) (by kernel_rfl) (by simp) ?_
      refine AllReady.cons (o := ?o44) ?ho44 (fun K hK => ?_) AllReady.nil
      case ho44 => simp only [List.getElem?_toArray, List.getElem?_cons_succ, List.getElem?_cons_zero]; rfl
      go_simp
      refine (masked_any HG2.out HKB.out 0x36 kb HKC.out).mono ?_
      rintro e v1 ⟨g1, rfl, hg1, hH, hX⟩
      have HC1 : Hid (Holds v1 g1 (Sha.mask 0x36 (Sha.keyBlock key))) := hH
      have hlt1 : g1 < v1.heap.size := hH.lt
      replace HBk : Hid (Blk v1 (w.heap.size + 1) 51 kb) := HBk.out.below hX (by omega)
      have HRg : Hid (v1.rangeAt (w.heap.size + 1) 0 kb) := HBk.out.cells
      replace HW : Hid (Below w.heap.size w v1) := HW.out.trans (hX.mono (by omega))
      replace HZ : Hid (Blk v1 w.heap.size 61 [.pointer none, .pointer none]) := HZ.out.below hX (by omega)
      have HG2 := Lib.hid (HG2.out.below hX HG2.out.size)
      have hs : w.heap.size + 2 ≤ v1.heap.size := Nat.le_trans hs hX.size
      clear hH hX
      refine hK _ _ ?_
      clear hK K
      try simp only [Act.put, List.setIfInBounds_toArray, List.set_cons_zero, List.set_cons_succ]
      refine wpAny_ready (rs := [3]) (by kernel_rfl) (by simp) ?_
      refine AllReady.cons (o := ?o45) ?ho45 (fun K hK => ?_) AllReady.nil
      case ho45 => simp only [List.getElem?_toArray, List.getElem?_cons_succ, List.getElem?_cons_zero]; rfl
      go_simp
      refine (masked_any HG2.out HKB.out 0x5c kb HKC.out).mono ?_
      rintro e v2 ⟨g2, rfl, hg2, hH, hX⟩
      have HC2 : Hid (Holds v2 g2 (Sha.mask 0x5c (Sha.keyBlock key))) := hH
      have hlt2 : g2 < v2.heap.size := hH.lt
      replace HC1 : Hid (Holds v2 g1 (Sha.mask 0x36 (Sha.keyBlock key))) := HC1.out.keep (hX.block g1 hlt1)
      replace HBk : Hid (Blk v2 (w.heap.size + 1) 51 kb) := HBk.out.below hX (by omega)
      have HRg : Hid (v2.rangeAt (w.heap.size + 1) 0 kb) := HBk.out.cells
      replace HW : Hid (Below w.heap.size w v2) := HW.out.trans (hX.mono (by omega))
      replace HZ : Hid (Blk v2 w.heap.size 61 [.pointer none, .pointer none]) := HZ.out.below hX (by omega)
      have HG2 := Lib.hid (HG2.out.below hX HG2.out.size)
      have hs : w.heap.size + 2 ≤ v2.heap.size := Nat.le_trans hs hX.size
      clear hH hX
      refine hK _ _ ?_
      clear hK K
      try simp only [Act.put, List.setIfInBounds_toArray, List.set_cons_zero, List.set_cons_succ]
      refine wpAny_take (i := 4) (oi := ?oi46) (v := .agg #[.pointer (some ⟨g1, 0, none⟩), .pointer (some ⟨g2, 0, none⟩)]) ?hi46 (by kernel_rfl) (by kernel_rfl) (by kernel_rfl) ?hQ46 ?hy46 ?rest46
      case hi46 => simp only [List.getElem?_toArray, List.getElem?_cons_succ, List.getElem?_cons_zero]; rfl
      case hQ46 => exact fun _ _ _ h => h
      case hy46 => exact Or.inl ⟨by rfl, by intro w; go_simp⟩
      try simp only [Act.put, List.setIfInBounds_toArray, List.set_cons_zero, List.set_cons_succ]
      refine wpAny_ready (rs := [5]) (by kernel_rfl) (by simp) ?_
      refine AllReady.cons (o := ?o47) ?ho47 (fun K hK => ?_) AllReady.nil
      case ho47 => simp only [List.getElem?_toArray, List.getElem?_cons_succ, List.getElem?_cons_zero]; rfl
      refine step_store rfl 61 (.tmp 2) (.tmp 21) rfl w.heap.size 0 rfl [.pointer (some ⟨g1, 0, none⟩), .pointer (some ⟨g2, 0, none⟩)] rfl 61 [.pointer none, .pointer none] HZ.out HI61.out (by simp) (by simp; exact ⟨rfl, rfl⟩) (hK _ _ ?_)
      clear hK K
      have HZ9 : Hid (Blk (v2.setRow w.heap.size #[.pointer (some ⟨g1, 0, none⟩), .pointer (some ⟨g2, 0, none⟩)]) w.heap.size 61 [.pointer (some ⟨g1, 0, none⟩), .pointer (some ⟨g2, 0, none⟩)]) := HZ.out.row
      have W9 : Hid (Below w.heap.size w (v2.setRow w.heap.size #[.pointer (some ⟨g1, 0, none⟩), .pointer (some ⟨g2, 0, none⟩)])) := below_setRow HW.out (Nat.le_refl _) _
      have H19 : Hid (Holds (v2.setRow w.heap.size #[.pointer (some ⟨g1, 0, none⟩), .pointer (some ⟨g2, 0, none⟩)]) g1 (Sha.mask 0x36 (Sha.keyBlock key))) := HC1.out.keep (setRow_other _ _ _ _ (by omega))
      have H29 : Hid (Holds (v2.setRow w.heap.size #[.pointer (some ⟨g1, 0, none⟩), .pointer (some ⟨g2, 0, none⟩)]) g2 (Sha.mask 0x5c (Sha.keyBlock key))) := HC2.out.keep (setRow_other _ _ _ _ (by omega))
      simp only [List.take_zero, List.nil_append, List.length_cons, List.length_nil, Nat.zero_add, List.drop_succ_cons, List.drop_zero, List.drop_nil, List.append_nil]
      generalize v2.setRow w.heap.size #[.pointer (some ⟨g1, 0, none⟩), .pointer (some ⟨g2, 0, none⟩)] = w9 at *
      try simp only [Act.put]
      refine wpAny_done (by kernel_rfl) ?_ _
      clear HC1 HC2 HZ HW HBk HRg
      go_wp2_with fail
      exact bodyPost_ret (results_cell_row rfl _ _ w.heap.size 61 #[.pointer (some ⟨g1, 0, none⟩), .pointer (some ⟨g2, 0, none⟩)] (0, 0) _ rfl HZ9.out Tryd.underlying61 rfl (by rw [HI61.out]; rfl)) rfl ⟨g1, g2, rfl, H19.out, H29.out, W9.out⟩
end Go.Proofs.YtbepofmkfloajaaDoor
