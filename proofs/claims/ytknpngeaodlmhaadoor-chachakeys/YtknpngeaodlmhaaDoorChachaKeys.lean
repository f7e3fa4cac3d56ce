/- The walk of ChachaKeys. -/
import Derived.Test.YtknpngeaodlmhaaDoorBegun4
import Derived.Test.YtknpngeaodlmhaaDoorGchr
import Derived.Test.YtknpngeaodlmhaaDoorGrow
import Derived.Deep.RegionHeld
import Derived.Deep.DeepCutAuto
namespace Go.Proofs.YtknpngeaodlmhaaDoor.chachaKeys
set_option linter.unusedVariables false
set_option linter.unusedSimpArgs false
open Go.RowKit

theorem load_yields {P : Program} {a : Act} {o : Oper} {ty : TypeId} {x : Operand} {v u : Value} {w : World} (ho : o.op = .load ty x) (hx : a.eval x = v) (h : (Instr.loadAt ty v).run P w = .ok u w) : (execOp a.eval o).run P w = .ok (.value u) w := by
  simp [execOp, ho, hx, h]
theorem equal64 {l : List UInt8} {D : List Value} (hD : D = l.map cellOf) (hl : l.length = 64) (w : World) : (Op.equalIn 10000 32 (.agg D.toArray) (.agg D.toArray)).run Tryd.prog w = .ok true w := by
  subst hD
  obtain ⟨i0, hi, hz0, hz1, hz2⟩ := info_parts info5
  rw [run_equalIn_array w 9999 _ _ Tryd.underlying32 hi, c5, eqItems_bytes w 9998 l l (List.range 64) (fun i hi => by have := List.mem_range.1 hi; omega)]
  simp

set_option maxRecDepth 100000 in
set_option maxHeartbeats 4000000 in
theorem walk (hA : AeOk) {A4 A5 : Option Addr} {n4 c4 n5 c5 : Nat} {x4 x5 : List UInt8} (a bit : Int) (w : World) (hg : Gl w) (hr4 : Rd w A4 n4 c4 x4) (hr5 : Rd w A5 n5 c5 x5) :
    Calls Tryd.prog 9 #[.slice A4 n4 c4, .slice A5 n5 c5, .int .u32 a, .int .i64 bit] w fun e w' => e = .returned (.bool true) ∧ Below w.heap.size w w' := by
  have HG := Lib.hid hg
  have hsz := hg.size
  have R4 := Lib.hid hr4
  have R5 := Lib.hid hr5
  clear hg hr4 hr5
  go_enter Tryd.func9, Tryd.ntmps9
  go_wp2_with (first | (go_at_call 14; refine (begun4_any hA HG.out).mono ?_; rintro e w1 ⟨rfl, HB⟩; have W1 := Lib.hid HB; clear HB))
  have W2 := W1
  have K2 := Lib.hid (R4.out.below W2.out)
  have N2 := Lib.hid (R5.out.below W2.out)
  clear W1 R4 R5
  refine (key_any K2.out).mono ?_
  rintro e w3 ⟨rfl, hX⟩
  have W3 := Lib.hid (W2.out.trans (hX.mono W2.out.size))
  have N3 := Lib.hid (N2.out.below hX)
  obtain ⟨key, hkey⟩ : ∃ k, k = padTo 32 x4 := ⟨_, rfl⟩
  rw [← hkey]
  have LK : Hid (key.length = 32) := by unfold Hid; rw [hkey, padTo_length]
  clear hX hkey K2 N2 W2
  go_wp2_with fail
  refine (nonce_any N3.out).mono ?_
  rintro e w4 ⟨rfl, hX⟩
  have W4 := Lib.hid (W3.out.trans (hX.mono W3.out.size))
  obtain ⟨nonce, hnon⟩ : ∃ k, k = padTo 12 x5 := ⟨_, rfl⟩
  rw [← hnon]
  have LN : Hid (nonce.length = 12) := by unfold Hid; rw [hnon, padTo_length]
  obtain ⟨kc, hkc⟩ : ∃ c, c = key.map cellOf := ⟨_, rfl⟩
  obtain ⟨nc, hnc⟩ : ∃ c, c = nonce.map cellOf := ⟨_, rfl⟩
  rw [← hkc, ← hnc]
  have HKC := Lib.hid hkc
  have HNC := Lib.hid hnc
  have hkl : kc.length = 32 := by rw [hkc, List.length_map, LK.out]
  have hnl : nc.length = 12 := by rw [hnc, List.length_map, LN.out]
  have IK : Hid ((Tryd.prog.info? 28).map (·.size) = some kc.length) := by unfold Hid; rw [hkl]; kernel_rfl
  have IN : Hid ((Tryd.prog.info? 30).map (·.size) = some nc.length) := by unfold Hid; rw [hnl]; kernel_rfl
  have ZK : Hid ((List.replicate 32 (Value.int .u8 0)).length = kc.length) := by unfold Hid; rw [hkl]; rfl
  have ZN : Hid ((List.replicate 12 (Value.int .u8 0)).length = nc.length) := by unfold Hid; rw [hnl]; rfl
  have OK' : Hid (∀ v ∈ kc, v.oneCell' = true) := by unfold Hid; rw [hkc]; exact cells_u8 _
  have ON' : Hid (∀ v ∈ nc, v.oneCell' = true) := by unfold Hid; rw [hnc]; exact cells_u8 _
  clear hX hnon hkc hnc hkl hnl N3 W3
  go_upto_region 5 with (first
    | ((with_reducible refine storeAll_law rfl 28 (.tmp 10) (.tmp 18) rfl w4.heap.size rfl kc rfl 28 (List.replicate 32 (.int .u8 0)) ?_ IK.out ZK.out OK'.out ?_); exact (Blk.at_new _ _ 28 _ _ (by rfl) rfl).alloc _)
    | ((with_reducible refine storeAll_law rfl 30 (.tmp 11) (.tmp 20) rfl (w4.heap.size + 1) rfl nc rfl 30 (List.replicate 12 (.int .u8 0)) ?_ IN.out ZN.out ON'.out ?_); exact (Blk.at_new _ _ 30 _ _ (by rfl) (by simp)).rowFar (by simp) _))
  obtain ⟨u4, hu4⟩ : ∃ u, u = (w4.alloc (.cells (List.replicate 32 (.int .u8 0)).toArray 28)).alloc (.cells (List.replicate 12 (.int .u8 0)).toArray 30) := ⟨_, rfl⟩
  have U0 : Blk u4 w4.heap.size 28 (List.replicate 32 (.int .u8 0)) := by rw [hu4]; exact (Blk.new w4 28 _).alloc _
  have U1 : Blk u4 (w4.heap.size + 1) 30 (List.replicate 12 (.int .u8 0)) := by rw [hu4]; exact Blk.at_new _ _ 30 _ _ rfl (by simp)
  have UX : Below w4.heap.size w4 u4 := by rw [hu4]; exact ((Below.refl _ _).alloc (Nat.le_refl _) _).alloc (by simp) _
  have K5 : Hid (Blk ((u4.setRow w4.heap.size kc.toArray).setRow (w4.heap.size + 1) nc.toArray) w4.heap.size 28 kc) := (Blk.row U0).rowFar (by simp) _
  have N5 : Hid (Blk ((u4.setRow w4.heap.size kc.toArray).setRow (w4.heap.size + 1) nc.toArray) (w4.heap.size + 1) 30 nc) := Blk.row (U1.rowFar (by simp) _)
  have X5 : Hid (Below w4.heap.size w4 ((u4.setRow w4.heap.size kc.toArray).setRow (w4.heap.size + 1) nc.toArray)) := below_setRow (below_setRow UX (Nat.le_refl _) _) (by omega) _
  clear U0 U1 UX
  change Code.wp _ _ _ _ ((((w4.alloc (.cells (List.replicate 32 (.int .u8 0)).toArray 28)).alloc (.cells (List.replicate 12 (.int .u8 0)).toArray 30)).setRow w4.heap.size kc.toArray).setRow (w4.heap.size + 1) nc.toArray)
  rw [← hu4]
  clear hu4
  obtain ⟨gn, hgn⟩ : ∃ g, g = w4.heap.size + 1 := ⟨_, rfl⟩
  obtain ⟨gk, hgk⟩ : ∃ g, g = w4.heap.size := ⟨_, rfl⟩
  rw [← hgn] at K5 N5 X5
  rw [← hgn]
  generalize (u4.setRow w4.heap.size kc.toArray).setRow gn nc.toArray = w5 at *
  rw [← hgk] at K5
  rw [← hgk]
  clear hgn hgk
  have W5 := Lib.hid (W4.out.trans (X5.out.mono W4.out.size))
  clear X5 W4
  by_cases hb : bit < 0
  · have hd : decide (bit < 0) = true := by simpa using hb
    go_wp2_with fail
    go_ret
    exact ⟨rfl, W5.out⟩
  have hd : decide (bit < 0) = false := by simpa using hb
  go_upto_region 7 with (fail)
  go_cut [12, 13] (fun p q wx => ∃ gl gm : Nat, p = .pointer (some ⟨gl, 0, none⟩) ∧ q = .pointer (some ⟨gm, 0, none⟩) ∧ gl ≠ gm ∧ w5.heap.size ≤ gl ∧ w5.heap.size ≤ gm ∧ Hid (Blk wx gl 28 kc) ∧ Hid (Blk wx gm 30 nc) ∧ Hid (Below w5.heap.size w5 wx))
  case first =>
    have HS : Hid (∀ W, Blk W gk 28 kc → Blk W gn 30 nc → (Instr.loadAt 28 (.pointer (some ⟨gk, 0, none⟩))).run Tryd.prog W = .ok (.agg kc.toArray) W ∧ (Instr.loadAt 30 (.pointer (some ⟨gn, 0, none⟩))).run Tryd.prog W = .ok (.agg nc.toArray) W) := fun W h1 h2 =>
      ⟨run_loadAt_list W 28 gk 0 kc _ Tryd.underlying28 rfl IK.out h1.cells, run_loadAt_list W 30 gn 0 nc _ Tryd.underlying30 rfl IN.out h2.cells⟩
    have HY : Hid (∀ W, Below w5.heap.size w5 W → (Instr.loadAt 28 (.pointer (some ⟨gk, 0, none⟩))).run Tryd.prog W = .ok (.agg kc.toArray) W ∧ (Instr.loadAt 30 (.pointer (some ⟨gn, 0, none⟩))).run Tryd.prog W = .ok (.agg nc.toArray) W) := fun W hW => HS.out W (K5.out.below hW K5.out.lt) (N5.out.below hW N5.out.lt)
    have Y6 : Hid (Below w5.heap.size w5 w5.drew) := (Below.refl _ _).drew
    have hz6 : w5.heap.size ≤ w5.drew.heap.size := Nat.le_refl _
    refine wp_region_held_drew (S := fun W : World => (Instr.loadAt 28 (.pointer (some ⟨gk, 0, none⟩))).run Tryd.prog W = .ok (.agg kc.toArray) W ∧ (Instr.loadAt 30 (.pointer (some ⟨gn, 0, none⟩))).run Tryd.prog W = .ok (.agg nc.toArray) W) (by kernel_rfl) (HY.out _ Y6.out) (fun hHeld => ?_)
    generalize w5.drew = w6 at *
    refine wpAnyH_take (i := 0) (oi := ?oi1) (v := .agg kc.toArray) ?hi1 (by kernel_rfl) (by kernel_rfl) (by kernel_rfl) ?hQ1 ?hy1 hHeld ?rest1
    case hi1 => simp only [List.getElem?_toArray, List.getElem?_cons_succ, List.getElem?_cons_zero]; rfl
    case hQ1 => exact fun _ _ _ h => h
    case hy1 => exact Or.inl ⟨by rfl, fun w hSw => load_yields rfl rfl hSw.1⟩
    try simp only [Act.put, List.setIfInBounds_toArray, List.set_cons_zero, List.set_cons_succ]
    refine wpAnyH_take (i := 1) (oi := ?oi2) (v := .agg nc.toArray) ?hi2 (by kernel_rfl) (by kernel_rfl) (by kernel_rfl) ?hQ2 ?hy2 hHeld ?rest2
    case hi2 => simp only [List.getElem?_toArray, List.getElem?_cons_succ, List.getElem?_cons_zero]; rfl
    case hQ2 => exact fun _ _ _ h => h
    case hy2 => exact Or.inl ⟨by rfl, fun w hSw => load_yields rfl rfl hSw.2⟩
    try simp only [Act.put, List.setIfInBounds_toArray, List.set_cons_zero, List.set_cons_succ]
    refine wpAnyH_ready (rs := [2, 3]) (by kernel_rfl) (by simp) ?_
    refine AllReadyH.cons (o := ?o3) ?ho3 (fun K hK => ?_) ?more3
    case ho3 => simp only [List.getElem?_toArray, List.getElem?_cons_succ, List.getElem?_cons_zero]; rfl
    · go_simp
      have hX := (Below.refl w6.heap.size w6).alloc (Nat.le_refl _) (.cells (List.replicate 32 (.int .u8 0)).toArray 28)
      have hB := Blk.new w6 28 (List.replicate 32 (.int .u8 0))
      have Y7 := Lib.hid (Y6.out.trans (hX.mono hz6))
      have hz7 := Y7.out.size
      obtain ⟨gl, hgl⟩ : ∃ g, g = w6.heap.size := ⟨_, rfl⟩
      rw [← hgl] at hB
      have GL7 := Lib.hid hB
      have glge : w5.heap.size ≤ gl := by omega
      refine hK.out _ _ (HY.out _ Y7.out) (fun hHeld => ?_)
      clear hK K
      change wpAnyH _ _ _ _ _ _ _ _ (w6.alloc (.cells (List.replicate 32 (.int .u8 0)).toArray 28))
      generalize w6.alloc (.cells (List.replicate 32 (.int .u8 0)).toArray 28) = w7 at *
      rw [← hgl]
      clear hX hB hgl Y6
      try simp only [Act.put, List.setIfInBounds_toArray, List.set_cons_zero, List.set_cons_succ]
      refine wpAnyH_ready (rs := [3]) (by kernel_rfl) (by simp) ?_
      refine AllReadyH.cons (o := ?o4) ?ho4 (fun K hK => ?_) AllReadyH.nil
      case ho4 => simp only [List.getElem?_toArray, List.getElem?_cons_succ, List.getElem?_cons_zero]; rfl
      go_simp
      have hX := (Below.refl w7.heap.size w7).alloc (Nat.le_refl _) (.cells (List.replicate 12 (.int .u8 0)).toArray 30)
      have hB := Blk.new w7 30 (List.replicate 12 (.int .u8 0))
      have Y8 := Lib.hid (Y7.out.trans (hX.mono hz7))
      have hz8 := Y8.out.size
      obtain ⟨gm, hgm⟩ : ∃ g, g = w7.heap.size := ⟨_, rfl⟩
      rw [← hgm] at hB
      have GM8 := Lib.hid hB
      have gmge : w5.heap.size ≤ gm := by omega
      have GL8 := Lib.hid (GL7.out.below hX GL7.out.lt)
      have lm : gl ≠ gm := by have := GL7.out.lt; omega
      refine hK.out _ _ (HY.out _ Y8.out) (fun hHeld => ?_)
      clear hK K
      change wpAnyH _ _ _ _ _ _ _ _ (w7.alloc (.cells (List.replicate 12 (.int .u8 0)).toArray 30))
      generalize w7.alloc (.cells (List.replicate 12 (.int .u8 0)).toArray 30) = w8 at *
      rw [← hgm]
      clear hX hB hgm Y7 GL7
      try simp only [Act.put, List.setIfInBounds_toArray, List.set_cons_zero, List.set_cons_succ]
      refine wpAnyH_ready (rs := [4]) (by kernel_rfl) (by simp) ?_
      refine AllReadyH.cons (o := ?o5) ?ho5 (fun K hK => ?_) AllReadyH.nil
      case ho5 => simp only [List.getElem?_toArray, List.getElem?_cons_succ, List.getElem?_cons_zero]; rfl
      refine step_store rfl 28 (.tmp 12) (.tmp 23) rfl gl 0 rfl kc rfl 28 (List.replicate 32 (.int .u8 0)) GL8.out IK.out (by rw [ZK.out]; omega) OK'.out ?_
      have e0 : (List.replicate 32 (Value.int .u8 0)).take 0 ++ kc ++ (List.replicate 32 (Value.int .u8 0)).drop (0 + kc.length) = kc := splice_all ZK.out
      rw [e0]
      clear e0
      have GL9 : Hid (Blk (w8.setRow gl kc.toArray) gl 28 kc) := Blk.row GL8.out
      have GM9 := Lib.hid (GM8.out.rowFar (k := gl) (by omega) kc.toArray)
      have Y9 := Lib.hid (below_setRow Y8.out glge kc.toArray)
      refine hK.out _ _ (HY.out _ Y9.out) (fun hHeld => ?_)
      clear hK K
      generalize w8.setRow gl kc.toArray = w9 at *
      clear GL8 GM8 Y8
      try simp only [Act.put, List.setIfInBounds_toArray, List.set_cons_zero, List.set_cons_succ]
      refine wpAnyH_ready (rs := [5]) (by kernel_rfl) (by simp) ?_
      refine AllReadyH.cons (o := ?o6) ?ho6 (fun K hK => ?_) AllReadyH.nil
      case ho6 => simp only [List.getElem?_toArray, List.getElem?_cons_succ, List.getElem?_cons_zero]; rfl
      refine step_store rfl 30 (.tmp 13) (.tmp 24) rfl gm 0 rfl nc rfl 30 (List.replicate 12 (.int .u8 0)) GM9.out IN.out (by rw [ZN.out]; omega) ON'.out ?_
      have e0 : (List.replicate 12 (Value.int .u8 0)).take 0 ++ nc ++ (List.replicate 12 (Value.int .u8 0)).drop (0 + nc.length) = nc := splice_all ZN.out
      rw [e0]
      clear e0
      have GM10 : Hid (Blk (w9.setRow gm nc.toArray) gm 30 nc) := Blk.row GM9.out
      have GL10 := Lib.hid (GL9.out.rowFar (k := gm) (by omega) nc.toArray)
      have Y10 := Lib.hid (below_setRow Y9.out gmge nc.toArray)
      refine hK.out _ _ (HY.out _ Y10.out) (fun hHeld => ?_)
      clear hK K
      generalize w9.setRow gm nc.toArray = w10 at *
      clear GM9 GL9 Y9
      try simp only [Act.put, List.setIfInBounds_toArray, List.set_cons_zero, List.set_cons_succ]
      refine wpAnyH_done (by kernel_rfl) ?_ _
      clear hHeld
      go_wp2_with fail
      go_meet
      case rel => exact ⟨gl, gm, rfl, rfl, lm, glge, gmge, GL10, GM10, Y10⟩
    refine AllReadyH.cons (o := ?o7) ?ho7 (fun K hK => ?_) AllReadyH.nil
    case ho7 => simp only [List.getElem?_toArray, List.getElem?_cons_succ, List.getElem?_cons_zero]; rfl
    go_simp
    have hX := (Below.refl w6.heap.size w6).alloc (Nat.le_refl _) (.cells (List.replicate 12 (.int .u8 0)).toArray 30)
    have hB := Blk.new w6 30 (List.replicate 12 (.int .u8 0))
    have Y7 := Lib.hid (Y6.out.trans (hX.mono hz6))
    have hz7 := Y7.out.size
    obtain ⟨gm, hgm⟩ : ∃ g, g = w6.heap.size := ⟨_, rfl⟩
    rw [← hgm] at hB
    have GM7 := Lib.hid hB
    have gmge : w5.heap.size ≤ gm := by omega
    refine hK.out _ _ (HY.out _ Y7.out) (fun hHeld => ?_)
    clear hK K
    change wpAnyH _ _ _ _ _ _ _ _ (w6.alloc (.cells (List.replicate 12 (.int .u8 0)).toArray 30))
    generalize w6.alloc (.cells (List.replicate 12 (.int .u8 0)).toArray 30) = w7 at *
    rw [← hgm]
    clear hX hB hgm Y6
    try simp only [Act.put, List.setIfInBounds_toArray, List.set_cons_zero, List.set_cons_succ]
    refine wpAnyH_ready (rs := [2]) (by kernel_rfl) (by simp) ?_
    refine AllReadyH.cons (o := ?o8) ?ho8 (fun K hK => ?_) AllReadyH.nil
    case ho8 => simp only [List.getElem?_toArray, List.getElem?_cons_succ, List.getElem?_cons_zero]; rfl
    go_simp
    have hX := (Below.refl w7.heap.size w7).alloc (Nat.le_refl _) (.cells (List.replicate 32 (.int .u8 0)).toArray 28)
    have hB := Blk.new w7 28 (List.replicate 32 (.int .u8 0))
    have Y8 := Lib.hid (Y7.out.trans (hX.mono hz7))
    have hz8 := Y8.out.size
    obtain ⟨gl, hgl⟩ : ∃ g, g = w7.heap.size := ⟨_, rfl⟩
    rw [← hgl] at hB
    have GL8 := Lib.hid hB
    have glge : w5.heap.size ≤ gl := by omega
    have GM8 := Lib.hid (GM7.out.below hX GM7.out.lt)
    have lm : gl ≠ gm := by have := GM7.out.lt; omega
    refine hK.out _ _ (HY.out _ Y8.out) (fun hHeld => ?_)
    clear hK K
    change wpAnyH _ _ _ _ _ _ _ _ (w7.alloc (.cells (List.replicate 32 (.int .u8 0)).toArray 28))
    generalize w7.alloc (.cells (List.replicate 32 (.int .u8 0)).toArray 28) = w8 at *
    rw [← hgl]
    clear hX hB hgl Y7 GM7
    try simp only [Act.put, List.setIfInBounds_toArray, List.set_cons_zero, List.set_cons_succ]
    refine wpAnyH_ready (rs := [4]) (by kernel_rfl) (by simp) ?_
    refine AllReadyH.cons (o := ?o9) ?ho9 (fun K hK => ?_) AllReadyH.nil
    case ho9 => simp only [List.getElem?_toArray, List.getElem?_cons_succ, List.getElem?_cons_zero]; rfl
    refine step_store rfl 28 (.tmp 12) (.tmp 23) rfl gl 0 rfl kc rfl 28 (List.replicate 32 (.int .u8 0)) GL8.out IK.out (by rw [ZK.out]; omega) OK'.out ?_
    have e0 : (List.replicate 32 (Value.int .u8 0)).take 0 ++ kc ++ (List.replicate 32 (Value.int .u8 0)).drop (0 + kc.length) = kc := splice_all ZK.out
    rw [e0]
    clear e0
    have GL9 : Hid (Blk (w8.setRow gl kc.toArray) gl 28 kc) := Blk.row GL8.out
    have GM9 := Lib.hid (GM8.out.rowFar (k := gl) (by omega) kc.toArray)
    have Y9 := Lib.hid (below_setRow Y8.out glge kc.toArray)
    refine hK.out _ _ (HY.out _ Y9.out) (fun hHeld => ?_)
    clear hK K
    generalize w8.setRow gl kc.toArray = w9 at *
    clear GL8 GM8 Y8
    try simp only [Act.put, List.setIfInBounds_toArray, List.set_cons_zero, List.set_cons_succ]
    refine wpAnyH_ready (rs := [5]) (by kernel_rfl) (by simp) ?_
    refine AllReadyH.cons (o := ?o10) ?ho10 (fun K hK => ?_) AllReadyH.nil
    case ho10 => simp only [List.getElem?_toArray, List.getElem?_cons_succ, List.getElem?_cons_zero]; rfl
    refine step_store rfl 30 (.tmp 13) (.tmp 24) rfl gm 0 rfl nc rfl 30 (List.replicate 12 (.int .u8 0)) GM9.out IN.out (by rw [ZN.out]; omega) ON'.out ?_
    have e0 : (List.replicate 12 (Value.int .u8 0)).take 0 ++ nc ++ (List.replicate 12 (Value.int .u8 0)).drop (0 + nc.length) = nc := splice_all ZN.out
    rw [e0]
    clear e0
    have GM10 : Hid (Blk (w9.setRow gm nc.toArray) gm 30 nc) := Blk.row GM9.out
    have GL10 := Lib.hid (GL9.out.rowFar (k := gm) (by omega) nc.toArray)
    have Y10 := Lib.hid (below_setRow Y9.out gmge nc.toArray)
    refine hK.out _ _ (HY.out _ Y10.out) (fun hHeld => ?_)
    clear hK K
    generalize w9.setRow gm nc.toArray = w10 at *
    clear GM9 GL9 Y9
    try simp only [Act.put, List.setIfInBounds_toArray, List.set_cons_zero, List.set_cons_succ]
    refine wpAnyH_done (by kernel_rfl) ?_ _
    clear hHeld
    go_wp2_with fail
    go_meet
    case rel => exact ⟨gl, gm, rfl, rfl, lm, glge, gmge, GL10, GM10, Y10⟩
  case rest =>
    obtain ⟨gl, gm, h1, h2, lm, hgl, hgm, L6, M6, Y6⟩ := hcut
    subst h1
    subst h2
    obtain ⟨t, rfl⟩ := Int.eq_ofNat_of_zero_le (show 0 ≤ bit by omega)
    obtain ⟨j, hj⟩ : ∃ j, j = t % 256 / 8 := ⟨_, rfl⟩
    obtain ⟨i, hi⟩ : ∃ i, i = t % 96 / 8 := ⟨_, rfl⟩
    obtain ⟨r, hr⟩ : ∃ r, r = t % 8 := ⟨_, rfl⟩
    have hj1 : (t : Int) % 256 / 8 = (j : Int) := by omega
    have hi1 : (t : Int) % 96 / 8 = (i : Int) := by omega
    have hr1 : (t : Int) % 8 = (r : Int) := by omega
    have hjl : j < 32 := by omega
    have hil : i < 12 := by omega
    have hr8 : r < 8 := by omega
    have bj : (j : Int) < 32 := by omega
    have bi : (i : Int) < 12 := by omega
    clear hj hi hr
    have K6 := Lib.hid (K5.out.below Y6.out K5.out.lt)
    have N6 := Lib.hid (N5.out.below Y6.out N5.out.lt)
    have W6 := Lib.hid (W5.out.trans (Y6.out.mono W5.out.size))
    have ltk := K5.out.lt
    have ltn := N5.out.lt
    obtain ⟨w6, rfl⟩ : ∃ w6, w6 = wc := ⟨_, rfl⟩
    obtain ⟨y, hy⟩ : ∃ y : UInt8, (2 : Int) ^ r % 256 = (y.toNat : Int) := ⟨UInt8.ofNat (2 ^ r), by simp⟩
    have HYY := Lib.hid hy
    clear hy
    obtain ⟨z, hz⟩ : ∃ z, z = key.getD j 0 := ⟨_, rfl⟩
    have e0 : w6.cell? ⟨gl, j, none⟩ = some (.int .u8 (z.toNat : Int)) := by rw [L6.out.cell, HKC.out, hz]; exact bytes_at key j (by rw [LK.out]; exact hjl)
    have f0 : w6.frozen? ⟨gl, j, none⟩ = false := L6.out.frozen _
    clear hz
    go_upto_region 9 with (fail)
    have hcv : (Value.int IntKind.u8 ((z ^^^ y).toNat : Int)) = cellOf (z ^^^ y) := rfl
    rw [HYY.out, xor_cell, hcv]
    obtain ⟨key2, hk2⟩ : ∃ l, l = key.set j (z ^^^ y) := ⟨_, rfl⟩
    have LK2 : Hid (key2.length = 32) := by unfold Hid; rw [hk2, List.length_set, LK.out]
    have L7 : Hid (Blk (w6.setCell ⟨gl, j, none⟩ (cellOf (z ^^^ y))) gl 28 (key2.map cellOf)) := by
      have := L6.out.set_ j (cellOf (z ^^^ y))
      rw [HKC.out, ← List.map_set, ← hk2] at this
      exact this
    have M7 := Lib.hid (M6.out.far (p := ⟨gl, j, none⟩) (by simp; omega) (cellOf (z ^^^ y)))
    have K7 := Lib.hid (K6.out.far (p := ⟨gl, j, none⟩) (by simp; omega) (cellOf (z ^^^ y)))
    have N7 := Lib.hid (N6.out.far (p := ⟨gl, j, none⟩) (by simp; omega) (cellOf (z ^^^ y)))
    have W7 := Lib.hid (W6.out.setCell (p := ⟨gl, j, none⟩) (by have := W5.out.size; simp; omega) (cellOf (z ^^^ y)))
    generalize w6.setCell ⟨gl, j, none⟩ (cellOf (z ^^^ y)) = w7 at *
    clear e0 f0 hcv hk2 L6 M6 K6 N6 W6 Y6 hj1 bj
    obtain ⟨z2, hz2⟩ : ∃ z, z = nonce.getD i 0 := ⟨_, rfl⟩
    have e0 : w7.cell? ⟨gm, i, none⟩ = some (.int .u8 (z2.toNat : Int)) := by rw [M7.out.cell, HNC.out, hz2]; exact bytes_at nonce i (by rw [LN.out]; exact hil)
    have f0 : w7.frozen? ⟨gm, i, none⟩ = false := M7.out.frozen _
    clear hz2
    go_upto_region 10 with (fail)
    have hcv : (Value.int IntKind.u8 ((z2 ^^^ y).toNat : Int)) = cellOf (z2 ^^^ y) := rfl
    rw [HYY.out, xor_cell, hcv]
    obtain ⟨non2, hn2⟩ : ∃ l, l = nonce.set i (z2 ^^^ y) := ⟨_, rfl⟩
    have LN2 : Hid (non2.length = 12) := by unfold Hid; rw [hn2, List.length_set, LN.out]
    have M8' : Hid (Blk (w7.setCell ⟨gm, i, none⟩ (cellOf (z2 ^^^ y))) gm 30 (non2.map cellOf)) := by
      have := M7.out.set_ i (cellOf (z2 ^^^ y))
      rw [HNC.out, ← List.map_set, ← hn2] at this
      exact this
    have L8' := Lib.hid (L7.out.far (p := ⟨gm, i, none⟩) (by simp; omega) (cellOf (z2 ^^^ y)))
    have K8' := Lib.hid (K7.out.far (p := ⟨gm, i, none⟩) (by simp; omega) (cellOf (z2 ^^^ y)))
    have N8' := Lib.hid (N7.out.far (p := ⟨gm, i, none⟩) (by simp; omega) (cellOf (z2 ^^^ y)))
    have W8' := Lib.hid (W7.out.setCell (p := ⟨gm, i, none⟩) (by have := W5.out.size; simp; omega) (cellOf (z2 ^^^ y)))
    generalize w7.setCell ⟨gm, i, none⟩ (cellOf (z2 ^^^ y)) = w8 at *
    clear e0 f0 hcv hn2 L7 M7 K7 N7 W7 hi1 bi hr1 HYY
    obtain ⟨lc, hlc⟩ : ∃ c, c = key2.map cellOf := ⟨_, rfl⟩
    obtain ⟨mc, hmc⟩ : ∃ c, c = non2.map cellOf := ⟨_, rfl⟩
    rw [← hlc] at L8'
    rw [← hmc] at M8'
    obtain ⟨a1, ha1⟩ : ∃ a1, a1 = IntKind.u32.wrap (a + 1) := ⟨_, rfl⟩
    have ha2 : (a + 1) % 4294967296 = a1 := by rw [ha1, IntKind.wrap_u32']
    have ha3 : IntKind.u32.wrap (a + 1) = a1 := ha1.symm
    have C1 := Lib.hid (fun W => cblock_any key2 nonce a W LK2.out LN.out)
    have D1 := Lib.hid (fun W => rblock_any key2 nonce a W LK2.out LN.out)
    have C2 := Lib.hid (fun W => cblock_any key non2 a W LK.out LN2.out)
    have D2 := Lib.hid (fun W => rblock_any key non2 a W LK.out LN2.out)
    have C3 := Lib.hid (fun W => cblock_any key nonce a1 W LK.out LN.out)
    have D3 := Lib.hid (fun W => rblock_any key nonce a1 W LK.out LN.out)
    rw [← hlc, ← HNC.out] at C1 D1
    rw [← HKC.out, ← hmc] at C2 D2
    rw [← HKC.out, ← HNC.out] at C3 D3
    obtain ⟨P1, hP1⟩ : ∃ P, P = (Cha.block key2 a nonce).map cellOf := ⟨_, rfl⟩
    obtain ⟨P2, hP2⟩ : ∃ P, P = (Cha.block key a non2).map cellOf := ⟨_, rfl⟩
    obtain ⟨P3, hP3⟩ : ∃ P, P = (Cha.block key a1 nonce).map cellOf := ⟨_, rfl⟩
    rw [← hP1] at C1 D1
    rw [← hP2] at C2 D2
    rw [← hP3] at C3 D3
    have Q1 : Hid (∀ W, (Op.equalIn 10000 32 (.agg P1.toArray) (.agg P1.toArray)).run Tryd.prog W = .ok true W) := fun W => equal64 hP1 (Cha.block_length key2 a nonce) W
    have Q2 : Hid (∀ W, (Op.equalIn 10000 32 (.agg P2.toArray) (.agg P2.toArray)).run Tryd.prog W = .ok true W) := fun W => equal64 hP2 (Cha.block_length key a non2) W
    have Q3 : Hid (∀ W, (Op.equalIn 10000 32 (.agg P3.toArray) (.agg P3.toArray)).run Tryd.prog W = .ok true W) := fun W => equal64 hP3 (Cha.block_length key a1 nonce) W
    have IL : Hid ((Tryd.prog.info? 28).map (·.size) = some lc.length) := by unfold Hid; rw [hlc, List.length_map, LK2.out]; kernel_rfl
    have IM : Hid ((Tryd.prog.info? 30).map (·.size) = some mc.length) := by unfold Hid; rw [hmc, List.length_map, LN2.out]; kernel_rfl
    clear hlc hmc hP1 hP2 hP3 ha1
    have HT : Hid (∀ W, Blk W gk 28 kc → Blk W gn 30 nc → Blk W gl 28 lc → Blk W gm 30 mc → (Instr.loadAt 28 (.pointer (some ⟨gk, 0, none⟩))).run Tryd.prog W = .ok (.agg kc.toArray) W ∧ (Instr.loadAt 30 (.pointer (some ⟨gn, 0, none⟩))).run Tryd.prog W = .ok (.agg nc.toArray) W ∧ (Instr.loadAt 28 (.pointer (some ⟨gl, 0, none⟩))).run Tryd.prog W = .ok (.agg lc.toArray) W ∧ (Instr.loadAt 30 (.pointer (some ⟨gm, 0, none⟩))).run Tryd.prog W = .ok (.agg mc.toArray) W) := fun W h1 h2 h3 h4 =>
      ⟨run_loadAt_list W 28 gk 0 kc _ Tryd.underlying28 rfl IK.out h1.cells, run_loadAt_list W 30 gn 0 nc _ Tryd.underlying30 rfl IN.out h2.cells, run_loadAt_list W 28 gl 0 lc _ Tryd.underlying28 rfl IL.out h3.cells, run_loadAt_list W 30 gm 0 mc _ Tryd.underlying30 rfl IM.out h4.cells⟩
    have K9 : Hid (Blk w8.drew gk 28 kc) := K8'.out.drew
    have N9 : Hid (Blk w8.drew gn 30 nc) := N8'.out.drew
    have L9 : Hid (Blk w8.drew gl 28 lc) := L8'.out.drew
    have M9 : Hid (Blk w8.drew gm 30 mc) := M8'.out.drew
    have W9 : Hid (Below w.heap.size w w8.drew) := W8'.out.drew
    refine wp_region_held_drew (S := fun W : World => (Instr.loadAt 28 (.pointer (some ⟨gk, 0, none⟩))).run Tryd.prog W = .ok (.agg kc.toArray) W ∧ (Instr.loadAt 30 (.pointer (some ⟨gn, 0, none⟩))).run Tryd.prog W = .ok (.agg nc.toArray) W ∧ (Instr.loadAt 28 (.pointer (some ⟨gl, 0, none⟩))).run Tryd.prog W = .ok (.agg lc.toArray) W ∧ (Instr.loadAt 30 (.pointer (some ⟨gm, 0, none⟩))).run Tryd.prog W = .ok (.agg mc.toArray) W) (by kernel_rfl) (HT.out _ K9.out N9.out L9.out M9.out) (fun hHeld => ?_)
    clear K8' N8' L8' M8' W8' K5 N5 W5
    generalize w8.drew = w9 at *
    refine wpAnyH_take (i := 0) (oi := ?oi11) (v := .agg lc.toArray) ?hi11 (by kernel_rfl) (by kernel_rfl) (by kernel_rfl) ?hQ11 ?hy11 hHeld ?rest11
    case hi11 => simp only [List.getElem?_toArray, List.getElem?_cons_succ, List.getElem?_cons_zero]; rfl
    case hQ11 => exact fun _ _ _ h => h
    case hy11 => exact Or.inl ⟨by rfl, fun w hSw => load_yields rfl rfl hSw.2.2.1⟩
    try simp only [Act.put, List.setIfInBounds_toArray, List.set_cons_zero, List.set_cons_succ]
    refine wpAnyH_take (i := 1) (oi := ?oi12) (v := .int .u32 a) ?hi12 (by kernel_rfl) (by kernel_rfl) (by kernel_rfl) ?hQ12 ?hy12 hHeld ?rest12
    case hi12 => simp only [List.getElem?_toArray, List.getElem?_cons_succ, List.getElem?_cons_zero]; rfl
    case hQ12 => exact fun _ _ _ h => h
    case hy12 => exact Or.inl ⟨by rfl, by intro w hSw; clear hSw; go_simp⟩
    try simp only [Act.put, List.setIfInBounds_toArray, List.set_cons_zero, List.set_cons_succ]
    refine wpAnyH_take (i := 2) (oi := ?oi13) (v := .agg nc.toArray) ?hi13 (by kernel_rfl) (by kernel_rfl) (by kernel_rfl) ?hQ13 ?hy13 hHeld ?rest13
    case hi13 => simp only [List.getElem?_toArray, List.getElem?_cons_succ, List.getElem?_cons_zero]; rfl
    case hQ13 => exact fun _ _ _ h => h
    case hy13 => exact Or.inl ⟨by rfl, fun w hSw => load_yields rfl rfl hSw.2.1⟩
    try simp only [Act.put, List.setIfInBounds_toArray, List.set_cons_zero, List.set_cons_succ]
    refine wpAnyH_take (i := 4) (oi := ?oi14) (v := .agg lc.toArray) ?hi14 (by kernel_rfl) (by kernel_rfl) (by kernel_rfl) ?hQ14 ?hy14 hHeld ?rest14
    case hi14 => simp only [List.getElem?_toArray, List.getElem?_cons_succ, List.getElem?_cons_zero]; rfl
    case hQ14 => exact fun _ _ _ h => h
    case hy14 => exact Or.inl ⟨by rfl, fun w hSw => load_yields rfl rfl hSw.2.2.1⟩
    try simp only [Act.put, List.setIfInBounds_toArray, List.set_cons_zero, List.set_cons_succ]
    refine wpAnyH_take (i := 5) (oi := ?oi15) (v := .int .u32 a) ?hi15 (by kernel_rfl) (by kernel_rfl) (by kernel_rfl) ?hQ15 ?hy15 hHeld ?rest15
    case hi15 => simp only [List.getElem?_toArray, List.getElem?_cons_succ, List.getElem?_cons_zero]; rfl
    case hQ15 => exact fun _ _ _ h => h
    case hy15 => exact Or.inl ⟨by rfl, by intro w hSw; clear hSw; go_simp⟩
    try simp only [Act.put, List.setIfInBounds_toArray, List.set_cons_zero, List.set_cons_succ]
    refine wpAnyH_take (i := 6) (oi := ?oi16) (v := .agg nc.toArray) ?hi16 (by kernel_rfl) (by kernel_rfl) (by kernel_rfl) ?hQ16 ?hy16 hHeld ?rest16
    case hi16 => simp only [List.getElem?_toArray, List.getElem?_cons_succ, List.getElem?_cons_zero]; rfl
    case hQ16 => exact fun _ _ _ h => h
    case hy16 => exact Or.inl ⟨by rfl, fun w hSw => load_yields rfl rfl hSw.2.1⟩
    try simp only [Act.put, List.setIfInBounds_toArray, List.set_cons_zero, List.set_cons_succ]
    refine wpAnyH_ready (rs := [3]) (by kernel_rfl) (by simp) ?_
    refine AllReadyH.cons (o := ?o17) ?ho17 (fun K hK => ?_) AllReadyH.nil
    case ho17 => simp only [List.getElem?_toArray, List.getElem?_cons_succ, List.getElem?_cons_zero]; rfl
    go_simp
    refine (C1.out w9).mono ?_
    rintro r_ w10 ⟨rfl, hX⟩
    have K10 := Lib.hid (K9.out.below hX K9.out.lt)
    have N10 := Lib.hid (N9.out.below hX N9.out.lt)
    have L10 := Lib.hid (L9.out.below hX L9.out.lt)
    have M10 := Lib.hid (M9.out.below hX M9.out.lt)
    have W10 := Lib.hid (W9.out.trans (hX.mono W9.out.size))
    clear hX K9 N9 L9 M9 W9
    refine hK.out _ _ (HT.out _ K10.out N10.out L10.out M10.out) (fun hHeld => ?_)
    clear hK K
    try simp only [Act.put, List.setIfInBounds_toArray, List.set_cons_zero, List.set_cons_succ]
    refine wpAnyH_ready (rs := [7]) (by kernel_rfl) (by simp) ?_
    refine AllReadyH.cons (o := ?o18) ?ho18 (fun K hK => ?_) AllReadyH.nil
    case ho18 => simp only [List.getElem?_toArray, List.getElem?_cons_succ, List.getElem?_cons_zero]; rfl
    go_simp
    refine (D1.out w10).mono ?_
    rintro r_ w11 ⟨rfl, hX⟩
    have K11 := Lib.hid (K10.out.below hX K10.out.lt)
    have N11 := Lib.hid (N10.out.below hX N10.out.lt)
    have L11 := Lib.hid (L10.out.below hX L10.out.lt)
    have M11 := Lib.hid (M10.out.below hX M10.out.lt)
    have W11 := Lib.hid (W10.out.trans (hX.mono W10.out.size))
    clear hX K10 N10 L10 M10 W10
    refine hK.out _ _ (HT.out _ K11.out N11.out L11.out M11.out) (fun hHeld => ?_)
    clear hK K
    try simp only [Act.put, List.setIfInBounds_toArray, List.set_cons_zero, List.set_cons_succ]
    have hq := Q1.out
    refine wpAnyH_take (i := 8) (oi := ?oi19) (v := .bool true) ?hi19 (by kernel_rfl) (by kernel_rfl) (by kernel_rfl) ?hQ19 ?hy19 hHeld ?rest19
    case hi19 => simp only [List.getElem?_toArray, List.getElem?_cons_succ, List.getElem?_cons_zero]; rfl
    case hQ19 => exact fun _ _ _ h => h
    case hy19 => exact Or.inl ⟨by rfl, by intro w hSw; clear hSw; go_simp⟩
    try simp only [Act.put, List.setIfInBounds_toArray, List.set_cons_zero, List.set_cons_succ]
    refine wpAnyH_take (i := 9) (oi := ?oi20) (v := .bool true) ?hi20 (by kernel_rfl) (by kernel_rfl) (by kernel_rfl) ?hQ20 ?hy20 hHeld ?rest20
    case hi20 => simp only [List.getElem?_toArray, List.getElem?_cons_succ, List.getElem?_cons_zero]; rfl
    case hQ20 => exact fun _ _ _ h => h
    case hy20 => exact Or.inl ⟨by rfl, by intro w hSw; clear hSw; go_simp⟩
    try simp only [Act.put, List.setIfInBounds_toArray, List.set_cons_zero, List.set_cons_succ]
    clear hq
    refine wpAnyH_take (i := 10) (oi := ?oi21) (v := .agg kc.toArray) ?hi21 (by kernel_rfl) (by kernel_rfl) (by kernel_rfl) ?hQ21 ?hy21 hHeld ?rest21
    case hi21 => simp only [List.getElem?_toArray, List.getElem?_cons_succ, List.getElem?_cons_zero]; rfl
    case hQ21 => exact fun _ _ _ h => h
    case hy21 => exact Or.inl ⟨by rfl, fun w hSw => load_yields rfl rfl hSw.1⟩
    try simp only [Act.put, List.setIfInBounds_toArray, List.set_cons_zero, List.set_cons_succ]
    refine wpAnyH_take (i := 11) (oi := ?oi22) (v := .int .u32 a) ?hi22 (by kernel_rfl) (by kernel_rfl) (by kernel_rfl) ?hQ22 ?hy22 hHeld ?rest22
    case hi22 => simp only [List.getElem?_toArray, List.getElem?_cons_succ, List.getElem?_cons_zero]; rfl
    case hQ22 => exact fun _ _ _ h => h
    case hy22 => exact Or.inl ⟨by rfl, by intro w hSw; clear hSw; go_simp⟩
    try simp only [Act.put, List.setIfInBounds_toArray, List.set_cons_zero, List.set_cons_succ]
    refine wpAnyH_take (i := 12) (oi := ?oi23) (v := .agg mc.toArray) ?hi23 (by kernel_rfl) (by kernel_rfl) (by kernel_rfl) ?hQ23 ?hy23 hHeld ?rest23
    case hi23 => simp only [List.getElem?_toArray, List.getElem?_cons_succ, List.getElem?_cons_zero]; rfl
    case hQ23 => exact fun _ _ _ h => h
    case hy23 => exact Or.inl ⟨by rfl, fun w hSw => load_yields rfl rfl hSw.2.2.2⟩
    try simp only [Act.put, List.setIfInBounds_toArray, List.set_cons_zero, List.set_cons_succ]
    refine wpAnyH_take (i := 14) (oi := ?oi24) (v := .agg kc.toArray) ?hi24 (by kernel_rfl) (by kernel_rfl) (by kernel_rfl) ?hQ24 ?hy24 hHeld ?rest24
    case hi24 => simp only [List.getElem?_toArray, List.getElem?_cons_succ, List.getElem?_cons_zero]; rfl
    case hQ24 => exact fun _ _ _ h => h
    case hy24 => exact Or.inl ⟨by rfl, fun w hSw => load_yields rfl rfl hSw.1⟩
    try simp only [Act.put, List.setIfInBounds_toArray, List.set_cons_zero, List.set_cons_succ]
    refine wpAnyH_take (i := 15) (oi := ?oi25) (v := .int .u32 a) ?hi25 (by kernel_rfl) (by kernel_rfl) (by kernel_rfl) ?hQ25 ?hy25 hHeld ?rest25
    case hi25 => simp only [List.getElem?_toArray, List.getElem?_cons_succ, List.getElem?_cons_zero]; rfl
    case hQ25 => exact fun _ _ _ h => h
    case hy25 => exact Or.inl ⟨by rfl, by intro w hSw; clear hSw; go_simp⟩
    try simp only [Act.put, List.setIfInBounds_toArray, List.set_cons_zero, List.set_cons_succ]
    refine wpAnyH_take (i := 16) (oi := ?oi26) (v := .agg mc.toArray) ?hi26 (by kernel_rfl) (by kernel_rfl) (by kernel_rfl) ?hQ26 ?hy26 hHeld ?rest26
    case hi26 => simp only [List.getElem?_toArray, List.getElem?_cons_succ, List.getElem?_cons_zero]; rfl
    case hQ26 => exact fun _ _ _ h => h
    case hy26 => exact Or.inl ⟨by rfl, fun w hSw => load_yields rfl rfl hSw.2.2.2⟩
    try simp only [Act.put, List.setIfInBounds_toArray, List.set_cons_zero, List.set_cons_succ]
    refine wpAnyH_ready (rs := [13]) (by kernel_rfl) (by simp) ?_
    refine AllReadyH.cons (o := ?o27) ?ho27 (fun K hK => ?_) AllReadyH.nil
    case ho27 => simp only [List.getElem?_toArray, List.getElem?_cons_succ, List.getElem?_cons_zero]; rfl
    go_simp
    refine (C2.out w11).mono ?_
    rintro r_ w12 ⟨rfl, hX⟩
    have K12 := Lib.hid (K11.out.below hX K11.out.lt)
    have N12 := Lib.hid (N11.out.below hX N11.out.lt)
    have L12 := Lib.hid (L11.out.below hX L11.out.lt)
    have M12 := Lib.hid (M11.out.below hX M11.out.lt)
    have W12 := Lib.hid (W11.out.trans (hX.mono W11.out.size))
    clear hX K11 N11 L11 M11 W11
    refine hK.out _ _ (HT.out _ K12.out N12.out L12.out M12.out) (fun hHeld => ?_)
    clear hK K
    try simp only [Act.put, List.setIfInBounds_toArray, List.set_cons_zero, List.set_cons_succ]
    refine wpAnyH_ready (rs := [17]) (by kernel_rfl) (by simp) ?_
    refine AllReadyH.cons (o := ?o28) ?ho28 (fun K hK => ?_) AllReadyH.nil
    case ho28 => simp only [List.getElem?_toArray, List.getElem?_cons_succ, List.getElem?_cons_zero]; rfl
    go_simp
    refine (D2.out w12).mono ?_
    rintro r_ w13 ⟨rfl, hX⟩
    have K13 := Lib.hid (K12.out.below hX K12.out.lt)
    have N13 := Lib.hid (N12.out.below hX N12.out.lt)
    have L13 := Lib.hid (L12.out.below hX L12.out.lt)
    have M13 := Lib.hid (M12.out.below hX M12.out.lt)
    have W13 := Lib.hid (W12.out.trans (hX.mono W12.out.size))
    clear hX K12 N12 L12 M12 W12
    refine hK.out _ _ (HT.out _ K13.out N13.out L13.out M13.out) (fun hHeld => ?_)
    clear hK K
    try simp only [Act.put, List.setIfInBounds_toArray, List.set_cons_zero, List.set_cons_succ]
    have hq := Q2.out
    refine wpAnyH_take (i := 18) (oi := ?oi29) (v := .bool true) ?hi29 (by kernel_rfl) (by kernel_rfl) (by kernel_rfl) ?hQ29 ?hy29 hHeld ?rest29
    case hi29 => simp only [List.getElem?_toArray, List.getElem?_cons_succ, List.getElem?_cons_zero]; rfl
    case hQ29 => exact fun _ _ _ h => h
    case hy29 => exact Or.inl ⟨by rfl, by intro w hSw; clear hSw; go_simp⟩
    try simp only [Act.put, List.setIfInBounds_toArray, List.set_cons_zero, List.set_cons_succ]
    clear hq
    refine wpAnyH_take (i := 19) (oi := ?oi30) (v := .bool true) ?hi30 (by kernel_rfl) (by kernel_rfl) (by kernel_rfl) ?hQ30 ?hy30 hHeld ?rest30
    case hi30 => simp only [List.getElem?_toArray, List.getElem?_cons_succ, List.getElem?_cons_zero]; rfl
    case hQ30 => exact fun _ _ _ h => h
    case hy30 => exact Or.inl ⟨by rfl, by intro w hSw; clear hSw; go_simp⟩
    try simp only [Act.put, List.setIfInBounds_toArray, List.set_cons_zero, List.set_cons_succ]
    refine wpAnyH_take (i := 20) (oi := ?oi31) (v := .bool true) ?hi31 (by kernel_rfl) (by kernel_rfl) (by kernel_rfl) ?hQ31 ?hy31 hHeld ?rest31
    case hi31 => simp only [List.getElem?_toArray, List.getElem?_cons_succ, List.getElem?_cons_zero]; rfl
    case hQ31 => exact fun _ _ _ h => h
    case hy31 => exact Or.inl ⟨by rfl, by intro w hSw; clear hSw; go_simp⟩
    try simp only [Act.put, List.setIfInBounds_toArray, List.set_cons_zero, List.set_cons_succ]
    refine wpAnyH_take (i := 21) (oi := ?oi32) (v := .agg kc.toArray) ?hi32 (by kernel_rfl) (by kernel_rfl) (by kernel_rfl) ?hQ32 ?hy32 hHeld ?rest32
    case hi32 => simp only [List.getElem?_toArray, List.getElem?_cons_succ, List.getElem?_cons_zero]; rfl
    case hQ32 => exact fun _ _ _ h => h
    case hy32 => exact Or.inl ⟨by rfl, fun w hSw => load_yields rfl rfl hSw.1⟩
    try simp only [Act.put, List.setIfInBounds_toArray, List.set_cons_zero, List.set_cons_succ]
    refine wpAnyH_take (i := 22) (oi := ?oi33) (v := .int .u32 a) ?hi33 (by kernel_rfl) (by kernel_rfl) (by kernel_rfl) ?hQ33 ?hy33 hHeld ?rest33
    case hi33 => simp only [List.getElem?_toArray, List.getElem?_cons_succ, List.getElem?_cons_zero]; rfl
    case hQ33 => exact fun _ _ _ h => h
    case hy33 => exact Or.inl ⟨by rfl, by intro w hSw; clear hSw; go_simp⟩
    try simp only [Act.put, List.setIfInBounds_toArray, List.set_cons_zero, List.set_cons_succ]
    refine wpAnyH_take (i := 23) (oi := ?oi34) (v := .int .u32 a1) ?hi34 (by kernel_rfl) (by kernel_rfl) (by kernel_rfl) ?hQ34 ?hy34 hHeld ?rest34
    case hi34 => simp only [List.getElem?_toArray, List.getElem?_cons_succ, List.getElem?_cons_zero]; rfl
    case hQ34 => exact fun _ _ _ h => h
    case hy34 => exact Or.inl ⟨by rfl, by intro w hSw; clear hSw; go_simp⟩
    try simp only [Act.put, List.setIfInBounds_toArray, List.set_cons_zero, List.set_cons_succ]
    refine wpAnyH_take (i := 24) (oi := ?oi35) (v := .agg nc.toArray) ?hi35 (by kernel_rfl) (by kernel_rfl) (by kernel_rfl) ?hQ35 ?hy35 hHeld ?rest35
    case hi35 => simp only [List.getElem?_toArray, List.getElem?_cons_succ, List.getElem?_cons_zero]; rfl
    case hQ35 => exact fun _ _ _ h => h
    case hy35 => exact Or.inl ⟨by rfl, fun w hSw => load_yields rfl rfl hSw.2.1⟩
    try simp only [Act.put, List.setIfInBounds_toArray, List.set_cons_zero, List.set_cons_succ]
    refine wpAnyH_take (i := 26) (oi := ?oi36) (v := .agg kc.toArray) ?hi36 (by kernel_rfl) (by kernel_rfl) (by kernel_rfl) ?hQ36 ?hy36 hHeld ?rest36
    case hi36 => simp only [List.getElem?_toArray, List.getElem?_cons_succ, List.getElem?_cons_zero]; rfl
    case hQ36 => exact fun _ _ _ h => h
    case hy36 => exact Or.inl ⟨by rfl, fun w hSw => load_yields rfl rfl hSw.1⟩
    try simp only [Act.put, List.setIfInBounds_toArray, List.set_cons_zero, List.set_cons_succ]
    refine wpAnyH_take (i := 27) (oi := ?oi37) (v := .int .u32 a) ?hi37 (by kernel_rfl) (by kernel_rfl) (by kernel_rfl) ?hQ37 ?hy37 hHeld ?rest37
    case hi37 => simp only [List.getElem?_toArray, List.getElem?_cons_succ, List.getElem?_cons_zero]; rfl
    case hQ37 => exact fun _ _ _ h => h
    case hy37 => exact Or.inl ⟨by rfl, by intro w hSw; clear hSw; go_simp⟩
    try simp only [Act.put, List.setIfInBounds_toArray, List.set_cons_zero, List.set_cons_succ]
    refine wpAnyH_take (i := 28) (oi := ?oi38) (v := .int .u32 a1) ?hi38 (by kernel_rfl) (by kernel_rfl) (by kernel_rfl) ?hQ38 ?hy38 hHeld ?rest38
    case hi38 => simp only [List.getElem?_toArray, List.getElem?_cons_succ, List.getElem?_cons_zero]; rfl
    case hQ38 => exact fun _ _ _ h => h
    case hy38 => exact Or.inl ⟨by rfl, by intro w hSw; clear hSw; go_simp⟩
    try simp only [Act.put, List.setIfInBounds_toArray, List.set_cons_zero, List.set_cons_succ]
    refine wpAnyH_take (i := 29) (oi := ?oi39) (v := .agg nc.toArray) ?hi39 (by kernel_rfl) (by kernel_rfl) (by kernel_rfl) ?hQ39 ?hy39 hHeld ?rest39
    case hi39 => simp only [List.getElem?_toArray, List.getElem?_cons_succ, List.getElem?_cons_zero]; rfl
    case hQ39 => exact fun _ _ _ h => h
    case hy39 => exact Or.inl ⟨by rfl, fun w hSw => load_yields rfl rfl hSw.2.1⟩
    try simp only [Act.put, List.setIfInBounds_toArray, List.set_cons_zero, List.set_cons_succ]
    refine wpAnyH_ready (rs := [25]) (by kernel_rfl) (by simp) ?_
    refine AllReadyH.cons (o := ?o40) ?ho40 (fun K hK => ?_) AllReadyH.nil
    case ho40 => simp only [List.getElem?_toArray, List.getElem?_cons_succ, List.getElem?_cons_zero]; rfl
    go_simp
    refine (C3.out w13).mono ?_
    rintro r_ w14 ⟨rfl, hX⟩
    have K14 := Lib.hid (K13.out.below hX K13.out.lt)
    have N14 := Lib.hid (N13.out.below hX N13.out.lt)
    have L14 := Lib.hid (L13.out.below hX L13.out.lt)
    have M14 := Lib.hid (M13.out.below hX M13.out.lt)
    have W14 := Lib.hid (W13.out.trans (hX.mono W13.out.size))
    clear hX K13 N13 L13 M13 W13
    refine hK.out _ _ (HT.out _ K14.out N14.out L14.out M14.out) (fun hHeld => ?_)
    clear hK K
    try simp only [Act.put, List.setIfInBounds_toArray, List.set_cons_zero, List.set_cons_succ]
    refine wpAnyH_ready (rs := [30]) (by kernel_rfl) (by simp) ?_
    refine AllReadyH.cons (o := ?o41) ?ho41 (fun K hK => ?_) AllReadyH.nil
    case ho41 => simp only [List.getElem?_toArray, List.getElem?_cons_succ, List.getElem?_cons_zero]; rfl
    go_simp
    refine (D3.out w14).mono ?_
    rintro r_ w15 ⟨rfl, hX⟩
    have K15 := Lib.hid (K14.out.below hX K14.out.lt)
    have N15 := Lib.hid (N14.out.below hX N14.out.lt)
    have L15 := Lib.hid (L14.out.below hX L14.out.lt)
    have M15 := Lib.hid (M14.out.below hX M14.out.lt)
    have W15 := Lib.hid (W14.out.trans (hX.mono W14.out.size))
    clear hX K14 N14 L14 M14 W14
    refine hK.out _ _ (HT.out _ K15.out N15.out L15.out M15.out) (fun hHeld => ?_)
    clear hK K
    try simp only [Act.put, List.setIfInBounds_toArray, List.set_cons_zero, List.set_cons_succ]
    have hq := Q3.out
    refine wpAnyH_take (i := 31) (oi := ?oi42) (v := .bool true) ?hi42 (by kernel_rfl) (by kernel_rfl) (by kernel_rfl) ?hQ42 ?hy42 hHeld ?rest42
    case hi42 => simp only [List.getElem?_toArray, List.getElem?_cons_succ, List.getElem?_cons_zero]; rfl
    case hQ42 => exact fun _ _ _ h => h
    case hy42 => exact Or.inl ⟨by rfl, by intro w hSw; clear hSw; go_simp⟩
    try simp only [Act.put, List.setIfInBounds_toArray, List.set_cons_zero, List.set_cons_succ]
    clear hq
    refine wpAnyH_take (i := 32) (oi := ?oi43) (v := .bool true) ?hi43 (by kernel_rfl) (by kernel_rfl) (by kernel_rfl) ?hQ43 ?hy43 hHeld ?rest43
    case hi43 => simp only [List.getElem?_toArray, List.getElem?_cons_succ, List.getElem?_cons_zero]; rfl
    case hQ43 => exact fun _ _ _ h => h
    case hy43 => exact Or.inl ⟨by rfl, by intro w hSw; clear hSw; go_simp⟩
    try simp only [Act.put, List.setIfInBounds_toArray, List.set_cons_zero, List.set_cons_succ]
    refine wpAnyH_take (i := 33) (oi := ?oi44) (v := .bool true) ?hi44 (by kernel_rfl) (by kernel_rfl) (by kernel_rfl) ?hQ44 ?hy44 hHeld ?rest44
    case hi44 => simp only [List.getElem?_toArray, List.getElem?_cons_succ, List.getElem?_cons_zero]; rfl
    case hQ44 => exact fun _ _ _ h => h
    case hy44 => exact Or.inl ⟨by rfl, by intro w hSw; clear hSw; go_simp⟩
    try simp only [Act.put, List.setIfInBounds_toArray, List.set_cons_zero, List.set_cons_succ]
    refine wpAnyH_done (by kernel_rfl) ?_ _
    clear hHeld ha2 ha3
    go_wp2_with fail
    go_ret
    exact ⟨rfl, W15.out⟩
end Go.Proofs.YtknpngeaodlmhaaDoor.chachaKeys
