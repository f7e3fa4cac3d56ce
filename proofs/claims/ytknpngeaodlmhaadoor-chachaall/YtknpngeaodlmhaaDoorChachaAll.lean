/- The walk of ChachaAll. -/
import Derived.Test.YtknpngeaodlmhaaDoorBegun4
import Derived.Test.YtknpngeaodlmhaaDoorGchr
import Derived.Test.YtknpngeaodlmhaaDoorGrow
import Derived.Deep.RegionHeld
namespace Go.Proofs.YtknpngeaodlmhaaDoor.chachaAll
set_option linter.unusedVariables false
set_option linter.unusedSimpArgs false
open Go.RowKit

theorem equal64 {l : List UInt8} {D : List Value} (hD : D = l.map cellOf) (hl : l.length = 64) (w : World) : (Op.equalIn 10000 32 (.agg D.toArray) (.agg D.toArray)).run Tryd.prog w = .ok true w := by
  subst hD
  obtain ⟨i0, hi, hz0, hz1, hz2⟩ := info_parts info5
  rw [run_equalIn_array w 9999 _ _ Tryd.underlying32 hi, c5, eqItems_bytes w 9998 l l (List.range 64) (fun i hi => by have := List.mem_range.1 hi; omega)]
  simp

theorem load_yields {P : Program} {a : Act} {o : Oper} {ty : TypeId} {x : Operand} {v u : Value} {w : World} (ho : o.op = .load ty x) (hx : a.eval x = v) (h : (Instr.loadAt ty v).run P w = .ok u w) : (execOp a.eval o).run P w = .ok (.value u) w := by
  simp [execOp, ho, hx, h]

set_option maxRecDepth 100000 in
set_option maxHeartbeats 4000000 in
theorem walk (hA : AeOk) {A4 A5 A6 : Option Addr} {n4 c4 n5 c5 n6 c6 : Nat} {x4 x5 x6 : List UInt8} (a b c d : Int) (w : World) (hg : Gl w) (ha0 : 0 ≤ a) (ha1 : a < 4294967296) (hr4 : Rd w A4 n4 c4 x4) (hr5 : Rd w A5 n5 c5 x5) (hr6 : Rd w A6 n6 c6 x6) :
    Calls Tryd.prog 3 #[.int .u32 a, .int .u32 b, .int .u32 c, .int .u32 d, .slice A4 n4 c4, .slice A5 n5 c5, .slice A6 n6 c6] w fun e w' => e = .returned (.bool true) ∧ Below w.heap.size w w' := by
  have HG := Lib.hid hg
  have hsz := hg.size
  have R4 := Lib.hid hr4
  have R5 := Lib.hid hr5
  have R6 := Lib.hid hr6
  clear hg hr4 hr5 hr6
  go_enter Tryd.func3, Tryd.ntmps3
  go_wp2_with (first | (go_at_call 14; refine (begun4_any hA HG.out).mono ?_; rintro e w1 ⟨rfl, HB⟩; have W1 := Lib.hid HB; clear HB))
  refine (short_any 200 (R6.out.below W1.out) (by omega)).mono ?_
  rintro e w' ⟨A2, n2, c2, rfl, hr2, rfl⟩
  have R2 := Lib.hid hr2
  have hl2 : n2 ≤ 200 := by rw [← hr2.len, List.length_take]; omega
  clear hr2 R6
  obtain ⟨l2, hl2e⟩ : ∃ l, l = x6.take 200 := ⟨_, rfl⟩
  rw [← hl2e] at R2
  clear hl2e
  have hs1 := W1.out.size
  go_wp2_with fail
  refine (quarter_any a b c d w1).mono ?_
  rintro e w' ⟨rfl, rfl⟩
  obtain ⟨w1, rfl⟩ : ∃ w1, w1 = w' := ⟨_, rfl⟩
  obtain ⟨⟨qa, qb, qc, qd⟩, hq⟩ : ∃ q, q = Cha.qr a b c d := ⟨_, rfl⟩
  rw [← hq]
  have HQ := Lib.hid hq
  clear hq
  unfold four
  dsimp only
  go_wp2_with fail
  refine (rquarter_any a b c d w1).mono ?_
  rintro e w2 ⟨rfl, hX⟩
  rw [← HQ.out]
  unfold four
  dsimp only
  have W2 := Lib.hid (W1.out.trans (hX.mono hs1))
  have R22 := Lib.hid (R2.out.below hX)
  have K2 := Lib.hid (R4.out.below W2.out)
  have N2 := Lib.hid (R5.out.below W2.out)
  clear hX R2 R4 R5 W1 HQ
  have na : (qa != qa) = false := by simp
  have nb : (qb != qb) = false := by simp
  have ncc : (qc != qc) = false := by simp
  have nd : (qd != qd) = false := by simp
  go_wp2_with fail
  clear na nb ncc nd
  refine (key_any K2.out).mono ?_
  rintro e w3 ⟨rfl, hX⟩
  have W3 := Lib.hid (W2.out.trans (hX.mono W2.out.size))
  have R3 := Lib.hid (R22.out.below hX)
  have N3 := Lib.hid (N2.out.below hX)
  obtain ⟨key, hkey⟩ : ∃ k, k = padTo 32 x4 := ⟨_, rfl⟩
  rw [← hkey]
  have LK : Hid (key.length = 32) := by unfold Hid; rw [hkey, padTo_length]
  clear hX hkey K2 N2 R22 W2
  go_wp2_with fail
  refine (nonce_any N3.out).mono ?_
  rintro e w4 ⟨rfl, hX⟩
  have W4 := Lib.hid (W3.out.trans (hX.mono W3.out.size))
  have R4' := Lib.hid (R3.out.below hX)
  obtain ⟨nonce, hnon⟩ : ∃ k, k = padTo 12 x5 := ⟨_, rfl⟩
  rw [← hnon]
  have LN : Hid (nonce.length = 12) := by unfold Hid; rw [hnon, padTo_length]
  obtain ⟨kc, hkc⟩ : ∃ c, c = key.map cellOf := ⟨_, rfl⟩
  obtain ⟨nc, hnc⟩ : ∃ c, c = nonce.map cellOf := ⟨_, rfl⟩
  rw [← hkc, ← hnc]
  have CB := Lib.hid (fun W => cblock_any key nonce a W LK.out LN.out)
  have RB := Lib.hid (fun W => rblock_any key nonce a W LK.out LN.out)
  have CX := Lib.hid (fun W (h : Rd W A2 n2 c2 l2) => cxor_any key nonce a h (by omega) LK.out LN.out ha0 ha1)
  have RX := Lib.hid (fun W (h : Rd W A2 n2 c2 l2) => rxor_any key nonce a h (by omega) LK.out LN.out ha0 ha1)
  rw [← hkc, ← hnc] at CB RB CX RX
  obtain ⟨BK, hBK⟩ : ∃ BK, BK = (Cha.block key a nonce).map cellOf := ⟨_, rfl⟩
  rw [← hBK] at CB RB
  have HEQ : Hid (∀ W, (Op.equalIn 10000 32 (.agg BK.toArray) (.agg BK.toArray)).run Tryd.prog W = .ok true W) := fun W => equal64 hBK (Cha.block_length key a nonce) W
  obtain ⟨XL, hXL⟩ : ∃ XL, XL = Cha.xor key a nonce l2 := ⟨_, rfl⟩
  rw [← hXL] at CX RX
  clear hBK hXL
  have hkl : kc.length = 32 := by rw [hkc, List.length_map, LK.out]
  have hnl : nc.length = 12 := by rw [hnc, List.length_map, LN.out]
  have IK : Hid ((Tryd.prog.info? 28).map (·.size) = some kc.length) := by unfold Hid; rw [hkl]; kernel_rfl
  have IN : Hid ((Tryd.prog.info? 30).map (·.size) = some nc.length) := by unfold Hid; rw [hnl]; kernel_rfl
  have ZK : Hid ((List.replicate 32 (Value.int .u8 0)).length = kc.length) := by unfold Hid; rw [hkl]; rfl
  have ZN : Hid ((List.replicate 12 (Value.int .u8 0)).length = nc.length) := by unfold Hid; rw [hnl]; rfl
  have OK' : Hid (∀ v ∈ kc, v.oneCell' = true) := by unfold Hid; rw [hkc]; exact cells_u8 _
  have ON' : Hid (∀ v ∈ nc, v.oneCell' = true) := by unfold Hid; rw [hnc]; exact cells_u8 _
  clear hX hnon hkc hnc hkl hnl N3 R3 W3
  go_upto_region 10 with (first
    | ((with_reducible refine storeAll_law rfl 28 (.tmp 24) (.tmp 71) rfl w4.heap.size rfl kc rfl 28 (List.replicate 32 (.int .u8 0)) ?_ IK.out ZK.out OK'.out ?_); exact (Blk.at_new _ _ 28 _ _ (by rfl) rfl).alloc _)
    | ((with_reducible refine storeAll_law rfl 30 (.tmp 25) (.tmp 73) rfl (w4.heap.size + 1) rfl nc rfl 30 (List.replicate 12 (.int .u8 0)) ?_ IN.out ZN.out ON'.out ?_); exact (Blk.at_new _ _ 30 _ _ (by rfl) (by simp)).rowFar (by simp) _))
  obtain ⟨u4, hu4⟩ : ∃ u, u = (w4.alloc (.cells (List.replicate 32 (.int .u8 0)).toArray 28)).alloc (.cells (List.replicate 12 (.int .u8 0)).toArray 30) := ⟨_, rfl⟩
  have U0 : Blk u4 w4.heap.size 28 (List.replicate 32 (.int .u8 0)) := by rw [hu4]; exact (Blk.new w4 28 _).alloc _
  have U1 : Blk u4 (w4.heap.size + 1) 30 (List.replicate 12 (.int .u8 0)) := by rw [hu4]; exact Blk.at_new _ _ 30 _ _ rfl (by simp)
  have UX : Below w4.heap.size w4 u4 := by rw [hu4]; exact ((Below.refl _ _).alloc (Nat.le_refl _) _).alloc (by simp) _
  have K5 : Hid (Blk ((u4.setRow w4.heap.size kc.toArray).setRow (w4.heap.size + 1) nc.toArray) w4.heap.size 28 kc) := (Blk.row U0).rowFar (by simp) _
  have N5 : Hid (Blk ((u4.setRow w4.heap.size kc.toArray).setRow (w4.heap.size + 1) nc.toArray) (w4.heap.size + 1) 30 nc) := Blk.row (U1.rowFar (by simp) _)
  have X5 : Hid (Below w4.heap.size w4 ((u4.setRow w4.heap.size kc.toArray).setRow (w4.heap.size + 1) nc.toArray)) := below_setRow (below_setRow UX (Nat.le_refl _) _) (by omega) _
  clear U0 U1 UX
  change Code.wp _ _ _ _ ((((w4.alloc (.cells (List.replicate 32 (.int .u8 0)).toArray 28)).alloc (.cells (List.replicate 12 (.int .u8 0)).toArray 30)).setRow w4.heap.size kc.toArray).setRow (w4.heap.size + 1) nc.toArray)
  rw [← hu4]
  clear hu4
  obtain ⟨gn, hgn⟩ : ∃ g, g = w4.heap.size + 1 := ⟨_, rfl⟩
  obtain ⟨gk, hgk⟩ : ∃ g, g = w4.heap.size := ⟨_, rfl⟩
  rw [← hgn] at K5 N5 X5
  rw [← hgn]
  generalize (u4.setRow w4.heap.size kc.toArray).setRow gn nc.toArray = w5 at *
  rw [← hgk] at K5
  rw [← hgk]
  clear hgn hgk
  have W5 := Lib.hid (W4.out.trans (X5.out.mono W4.out.size))
  have R5 := Lib.hid (R4'.out.below X5.out)
  clear X5 W4 R4' ZK OK' ZN ON' LK LN
  have HS : Hid (∀ W, Blk W gk 28 kc → Blk W gn 30 nc → (Instr.loadAt 28 (.pointer (some ⟨gk, 0, none⟩))).run Tryd.prog W = .ok (.agg kc.toArray) W ∧ (Instr.loadAt 30 (.pointer (some ⟨gn, 0, none⟩))).run Tryd.prog W = .ok (.agg nc.toArray) W) := fun W h1 h2 =>
    ⟨run_loadAt_list W 28 gk 0 kc _ Tryd.underlying28 rfl IK.out h1.cells, run_loadAt_list W 30 gn 0 nc _ Tryd.underlying30 rfl IN.out h2.cells⟩
  have K6 : Hid (Blk w5.drew gk 28 kc) := K5.out.drew
  have N6 : Hid (Blk w5.drew gn 30 nc) := N5.out.drew
  have W6 : Hid (Below w.heap.size w w5.drew) := W5.out.drew
  have R6 : Hid (Rd w5.drew A2 n2 c2 l2) := R5.out.drew
  refine wp_region_held_drew (S := fun W : World => (Instr.loadAt 28 (.pointer (some ⟨gk, 0, none⟩))).run Tryd.prog W = .ok (.agg kc.toArray) W ∧ (Instr.loadAt 30 (.pointer (some ⟨gn, 0, none⟩))).run Tryd.prog W = .ok (.agg nc.toArray) W) (by kernel_rfl) (HS.out _ K6.out N6.out) (fun hHeld => ?_)
  clear K5 N5 W5 R5
  generalize w5.drew = w6 at *
  refine wpAnyH_take (i := 0) (oi := ?oi1) (v := .agg kc.toArray) ?hi1 (by kernel_rfl) (by kernel_rfl) (by kernel_rfl) ?hQ1 ?hy1 hHeld ?rest1
  case hi1 => simp only [List.getElem?_toArray, List.getElem?_cons_succ, List.getElem?_cons_zero]; rfl
  case hQ1 => exact fun _ _ _ h => h
  case hy1 => exact Or.inl ⟨by rfl, fun w hSw => load_yields rfl rfl hSw.1⟩
  try simp only [Act.put, List.setIfInBounds_toArray, List.set_cons_zero, List.set_cons_succ]
  refine wpAnyH_take (i := 1) (oi := ?oi2) (v := .int .u32 a) ?hi2 (by kernel_rfl) (by kernel_rfl) (by kernel_rfl) ?hQ2 ?hy2 hHeld ?rest2
  case hi2 => simp only [List.getElem?_toArray, List.getElem?_cons_succ, List.getElem?_cons_zero]; rfl
  case hQ2 => exact fun _ _ _ h => h
  case hy2 => exact Or.inl ⟨by rfl, by intro w hSw; have e1 := hSw.1; have e2 := hSw.2; clear hSw; go_simp⟩
  try simp only [Act.put, List.setIfInBounds_toArray, List.set_cons_zero, List.set_cons_succ]
  refine wpAnyH_take (i := 2) (oi := ?oi3) (v := .agg nc.toArray) ?hi3 (by kernel_rfl) (by kernel_rfl) (by kernel_rfl) ?hQ3 ?hy3 hHeld ?rest3
  case hi3 => simp only [List.getElem?_toArray, List.getElem?_cons_succ, List.getElem?_cons_zero]; rfl
  case hQ3 => exact fun _ _ _ h => h
  case hy3 => exact Or.inl ⟨by rfl, fun w hSw => load_yields rfl rfl hSw.2⟩
  try simp only [Act.put, List.setIfInBounds_toArray, List.set_cons_zero, List.set_cons_succ]
  refine wpAnyH_take (i := 4) (oi := ?oi4) (v := .agg kc.toArray) ?hi4 (by kernel_rfl) (by kernel_rfl) (by kernel_rfl) ?hQ4 ?hy4 hHeld ?rest4
  case hi4 => simp only [List.getElem?_toArray, List.getElem?_cons_succ, List.getElem?_cons_zero]; rfl
  case hQ4 => exact fun _ _ _ h => h
  case hy4 => exact Or.inl ⟨by rfl, fun w hSw => load_yields rfl rfl hSw.1⟩
  try simp only [Act.put, List.setIfInBounds_toArray, List.set_cons_zero, List.set_cons_succ]
  refine wpAnyH_take (i := 5) (oi := ?oi5) (v := .int .u32 a) ?hi5 (by kernel_rfl) (by kernel_rfl) (by kernel_rfl) ?hQ5 ?hy5 hHeld ?rest5
  case hi5 => simp only [List.getElem?_toArray, List.getElem?_cons_succ, List.getElem?_cons_zero]; rfl
  case hQ5 => exact fun _ _ _ h => h
  case hy5 => exact Or.inl ⟨by rfl, by intro w hSw; have e1 := hSw.1; have e2 := hSw.2; clear hSw; go_simp⟩
  try simp only [Act.put, List.setIfInBounds_toArray, List.set_cons_zero, List.set_cons_succ]
  refine wpAnyH_take (i := 6) (oi := ?oi6) (v := .agg nc.toArray) ?hi6 (by kernel_rfl) (by kernel_rfl) (by kernel_rfl) ?hQ6 ?hy6 hHeld ?rest6
  case hi6 => simp only [List.getElem?_toArray, List.getElem?_cons_succ, List.getElem?_cons_zero]; rfl
  case hQ6 => exact fun _ _ _ h => h
  case hy6 => exact Or.inl ⟨by rfl, fun w hSw => load_yields rfl rfl hSw.2⟩
  try simp only [Act.put, List.setIfInBounds_toArray, List.set_cons_zero, List.set_cons_succ]
  refine wpAnyH_ready (rs := [3]) (by kernel_rfl) (by simp) ?_
  refine AllReadyH.cons (o := ?o7) ?ho7 (fun K hK => ?_) AllReadyH.nil
  case ho7 => simp only [List.getElem?_toArray, List.getElem?_cons_succ, List.getElem?_cons_zero]; rfl
  go_simp
  refine (CB.out w6).mono ?_
  rintro r w7 ⟨rfl, hX⟩
  have K7 := Lib.hid (K6.out.below hX K6.out.lt)
  have N7 := Lib.hid (N6.out.below hX N6.out.lt)
  have W7 := Lib.hid (W6.out.trans (hX.mono W6.out.size))
  have R7 := Lib.hid (R6.out.below hX)
  clear hX K6 N6 W6 R6
  refine hK.out _ _ (HS.out _ K7.out N7.out) (fun hHeld => ?_)
  clear hK K
  try simp only [Act.put, List.setIfInBounds_toArray, List.set_cons_zero, List.set_cons_succ]
  refine wpAnyH_ready (rs := [7]) (by kernel_rfl) (by simp) ?_
  refine AllReadyH.cons (o := ?o8) ?ho8 (fun K hK => ?_) AllReadyH.nil
  case ho8 => simp only [List.getElem?_toArray, List.getElem?_cons_succ, List.getElem?_cons_zero]; rfl
  go_simp
  refine (RB.out w7).mono ?_
  rintro r w8 ⟨rfl, hX⟩
  have K8 := Lib.hid (K7.out.below hX K7.out.lt)
  have N8 := Lib.hid (N7.out.below hX N7.out.lt)
  have W8 := Lib.hid (W7.out.trans (hX.mono W7.out.size))
  have R8 := Lib.hid (R7.out.below hX)
  clear hX K7 N7 W7 R7
  refine hK.out _ _ (HS.out _ K8.out N8.out) (fun hHeld => ?_)
  clear hK K
  try simp only [Act.put, List.setIfInBounds_toArray, List.set_cons_zero, List.set_cons_succ]
  have hq := HEQ.out
  refine wpAnyH_take (i := 8) (oi := ?oi9) (v := .bool false) ?hi9 (by kernel_rfl) (by kernel_rfl) (by kernel_rfl) ?hQ9 ?hy9 hHeld ?rest9
  case hi9 => simp only [List.getElem?_toArray, List.getElem?_cons_succ, List.getElem?_cons_zero]; rfl
  case hQ9 => exact fun _ _ _ h => h
  case hy9 => exact Or.inl ⟨by rfl, by intro w hSw; have e1 := hSw.1; have e2 := hSw.2; clear hSw; go_simp⟩
  try simp only [Act.put, List.setIfInBounds_toArray, List.set_cons_zero, List.set_cons_succ]
  refine wpAnyH_done (by kernel_rfl) ?_ _
  clear hq hHeld CB RB
  have cv := conv_bytes R8.out
  go_upto_region 13 with (fail)
  clear cv
  have K9 : Hid (Blk w8.drew gk 28 kc) := K8.out.drew
  have N9 : Hid (Blk w8.drew gn 30 nc) := N8.out.drew
  have W9 : Hid (Below w.heap.size w w8.drew) := W8.out.drew
  have R9 : Hid (Rd w8.drew A2 n2 c2 l2) := R8.out.drew
  have HT : Hid (∀ W, Blk W gk 28 kc → Blk W gn 30 nc → Rd W A2 n2 c2 l2 → (Instr.loadAt 28 (.pointer (some ⟨gk, 0, none⟩))).run Tryd.prog W = .ok (.agg kc.toArray) W ∧ (Instr.loadAt 30 (.pointer (some ⟨gn, 0, none⟩))).run Tryd.prog W = .ok (.agg nc.toArray) W ∧ (convert 23 9 (.slice A2 n2 c2)).run Tryd.prog W = .ok (.string ⟨l2.toArray⟩) W) := fun W h1 h2 h3 => ⟨(HS.out W h1 h2).1, (HS.out W h1 h2).2, conv_bytes h3⟩
  refine wp_region_held_drew (S := fun W : World => (Instr.loadAt 28 (.pointer (some ⟨gk, 0, none⟩))).run Tryd.prog W = .ok (.agg kc.toArray) W ∧ (Instr.loadAt 30 (.pointer (some ⟨gn, 0, none⟩))).run Tryd.prog W = .ok (.agg nc.toArray) W ∧ (convert 23 9 (.slice A2 n2 c2)).run Tryd.prog W = .ok (.string ⟨l2.toArray⟩) W) (by kernel_rfl) (HT.out _ K9.out N9.out R9.out) (fun hHeld => ?_)
  clear K8 N8 W8 R8
  generalize w8.drew = w9 at *
  refine wpAnyH_take (i := 0) (oi := ?oi10) (v := .agg kc.toArray) ?hi10 (by kernel_rfl) (by kernel_rfl) (by kernel_rfl) ?hQ10 ?hy10 hHeld ?rest10
  case hi10 => simp only [List.getElem?_toArray, List.getElem?_cons_succ, List.getElem?_cons_zero]; rfl
  case hQ10 => exact fun _ _ _ h => h
  case hy10 => exact Or.inl ⟨by rfl, fun w hSw => load_yields rfl rfl hSw.1⟩
  try simp only [Act.put, List.setIfInBounds_toArray, List.set_cons_zero, List.set_cons_succ]
  refine wpAnyH_take (i := 1) (oi := ?oi11) (v := .int .u32 a) ?hi11 (by kernel_rfl) (by kernel_rfl) (by kernel_rfl) ?hQ11 ?hy11 hHeld ?rest11
  case hi11 => simp only [List.getElem?_toArray, List.getElem?_cons_succ, List.getElem?_cons_zero]; rfl
  case hQ11 => exact fun _ _ _ h => h
  case hy11 => exact Or.inl ⟨by rfl, by intro w hSw; have e1 := hSw.1; have e2 := hSw.2.1; have e3 := hSw.2.2; clear hSw; go_simp⟩
  try simp only [Act.put, List.setIfInBounds_toArray, List.set_cons_zero, List.set_cons_succ]
  refine wpAnyH_take (i := 2) (oi := ?oi12) (v := .agg nc.toArray) ?hi12 (by kernel_rfl) (by kernel_rfl) (by kernel_rfl) ?hQ12 ?hy12 hHeld ?rest12
  case hi12 => simp only [List.getElem?_toArray, List.getElem?_cons_succ, List.getElem?_cons_zero]; rfl
  case hQ12 => exact fun _ _ _ h => h
  case hy12 => exact Or.inl ⟨by rfl, fun w hSw => load_yields rfl rfl hSw.2.1⟩
  try simp only [Act.put, List.setIfInBounds_toArray, List.set_cons_zero, List.set_cons_succ]
  refine wpAnyH_take (i := 3) (oi := ?oi13) (v := .slice A2 n2 c2) ?hi13 (by kernel_rfl) (by kernel_rfl) (by kernel_rfl) ?hQ13 ?hy13 hHeld ?rest13
  case hi13 => simp only [List.getElem?_toArray, List.getElem?_cons_succ, List.getElem?_cons_zero]; rfl
  case hQ13 => exact fun _ _ _ h => h
  case hy13 => exact Or.inl ⟨by rfl, by intro w hSw; have e1 := hSw.1; have e2 := hSw.2.1; have e3 := hSw.2.2; clear hSw; go_simp⟩
  try simp only [Act.put, List.setIfInBounds_toArray, List.set_cons_zero, List.set_cons_succ]
  refine wpAnyH_take (i := 6) (oi := ?oi14) (v := .agg kc.toArray) ?hi14 (by kernel_rfl) (by kernel_rfl) (by kernel_rfl) ?hQ14 ?hy14 hHeld ?rest14
  case hi14 => simp only [List.getElem?_toArray, List.getElem?_cons_succ, List.getElem?_cons_zero]; rfl
  case hQ14 => exact fun _ _ _ h => h
  case hy14 => exact Or.inl ⟨by rfl, fun w hSw => load_yields rfl rfl hSw.1⟩
  try simp only [Act.put, List.setIfInBounds_toArray, List.set_cons_zero, List.set_cons_succ]
  refine wpAnyH_take (i := 7) (oi := ?oi15) (v := .int .u32 a) ?hi15 (by kernel_rfl) (by kernel_rfl) (by kernel_rfl) ?hQ15 ?hy15 hHeld ?rest15
  case hi15 => simp only [List.getElem?_toArray, List.getElem?_cons_succ, List.getElem?_cons_zero]; rfl
  case hQ15 => exact fun _ _ _ h => h
  case hy15 => exact Or.inl ⟨by rfl, by intro w hSw; have e1 := hSw.1; have e2 := hSw.2.1; have e3 := hSw.2.2; clear hSw; go_simp⟩
  try simp only [Act.put, List.setIfInBounds_toArray, List.set_cons_zero, List.set_cons_succ]
  refine wpAnyH_take (i := 8) (oi := ?oi16) (v := .agg nc.toArray) ?hi16 (by kernel_rfl) (by kernel_rfl) (by kernel_rfl) ?hQ16 ?hy16 hHeld ?rest16
  case hi16 => simp only [List.getElem?_toArray, List.getElem?_cons_succ, List.getElem?_cons_zero]; rfl
  case hQ16 => exact fun _ _ _ h => h
  case hy16 => exact Or.inl ⟨by rfl, fun w hSw => load_yields rfl rfl hSw.2.1⟩
  try simp only [Act.put, List.setIfInBounds_toArray, List.set_cons_zero, List.set_cons_succ]
  refine wpAnyH_take (i := 9) (oi := ?oi17) (v := .slice A2 n2 c2) ?hi17 (by kernel_rfl) (by kernel_rfl) (by kernel_rfl) ?hQ17 ?hy17 hHeld ?rest17
  case hi17 => simp only [List.getElem?_toArray, List.getElem?_cons_succ, List.getElem?_cons_zero]; rfl
  case hQ17 => exact fun _ _ _ h => h
  case hy17 => exact Or.inl ⟨by rfl, by intro w hSw; have e1 := hSw.1; have e2 := hSw.2.1; have e3 := hSw.2.2; clear hSw; go_simp⟩
  try simp only [Act.put, List.setIfInBounds_toArray, List.set_cons_zero, List.set_cons_succ]
  refine wpAnyH_ready (rs := [4]) (by kernel_rfl) (by simp) ?_
  refine AllReadyH.cons (o := ?o18) ?ho18 (fun K hK => ?_) AllReadyH.nil
  case ho18 => simp only [List.getElem?_toArray, List.getElem?_cons_succ, List.getElem?_cons_zero]; rfl
  go_simp
  refine (CX.out w9 R9.out).mono ?_
  rintro r w10 ⟨gx, rfl, hE, _, hX⟩
  have K10 := Lib.hid (K9.out.below hX K9.out.lt)
  have N10 := Lib.hid (N9.out.below hX N9.out.lt)
  have W10 := Lib.hid (W9.out.trans (hX.mono W9.out.size))
  have R10 := Lib.hid (R9.out.below hX)
  have E10 := Lib.hid hE
  clear hE
  clear hX K9 N9 W9 R9
  refine hK.out _ _ (HT.out _ K10.out N10.out R10.out) (fun hHeld => ?_)
  clear hK K
  try simp only [Act.put, List.setIfInBounds_toArray, List.set_cons_zero, List.set_cons_succ]
  refine wpAnyH_ready (rs := [5, 10]) (by kernel_rfl) (by simp) ?_
  refine AllReadyH.cons (o := ?o19) ?ho19 (fun K hK => ?_) ?more19
  case ho19 => simp only [List.getElem?_toArray, List.getElem?_cons_succ, List.getElem?_cons_zero]; rfl
  · have hcv := conv_bytes E10.out
    go_simp
    clear hcv
    refine hK.out _ _ (HT.out _ K10.out N10.out R10.out) (fun hHeld => ?_)
    clear hK K
    try simp only [Act.put, List.setIfInBounds_toArray, List.set_cons_zero, List.set_cons_succ]
    refine wpAnyH_ready (rs := [10]) (by kernel_rfl) (by simp) ?_
    refine AllReadyH.cons (o := ?o20) ?ho20 (fun K hK => ?_) AllReadyH.nil
    case ho20 => simp only [List.getElem?_toArray, List.getElem?_cons_succ, List.getElem?_cons_zero]; rfl
    go_simp
    refine (RX.out w10 R10.out).mono ?_
    rintro r w11 ⟨Ay, cy, rfl, hE, hX⟩
    have F11 := Lib.hid hE
    have E11 := Lib.hid (E10.out.below hX)
    have K11 := Lib.hid (K10.out.below hX K10.out.lt)
    have N11 := Lib.hid (N10.out.below hX N10.out.lt)
    have W11 := Lib.hid (W10.out.trans (hX.mono W10.out.size))
    have R11 := Lib.hid (R10.out.below hX)
    clear hX hE
    refine hK.out _ _ (HT.out _ K11.out N11.out R11.out) (fun hHeld => ?_)
    clear hK K
    try simp only [Act.put, List.setIfInBounds_toArray, List.set_cons_zero, List.set_cons_succ]
    refine wpAnyH_ready (rs := [11]) (by kernel_rfl) (by simp) ?_
    refine AllReadyH.cons (o := ?o21) ?ho21 (fun K hK => ?_) AllReadyH.nil
    case ho21 => simp only [List.getElem?_toArray, List.getElem?_cons_succ, List.getElem?_cons_zero]; rfl
    have hcv := conv_bytes F11.out
    go_simp
    clear hcv
    refine hK.out _ _ (HT.out _ K11.out N11.out R11.out) (fun hHeld => ?_)
    clear hK K
    try simp only [Act.put, List.setIfInBounds_toArray, List.set_cons_zero, List.set_cons_succ]
    refine wpAnyH_take (i := 12) (oi := ?oi22) (v := .bool true) ?hi22 (by kernel_rfl) (by kernel_rfl) (by kernel_rfl) ?hQ22 ?hy22 hHeld ?rest22
    case hi22 => simp only [List.getElem?_toArray, List.getElem?_cons_succ, List.getElem?_cons_zero]; rfl
    case hQ22 => exact fun _ _ _ h => h
    case hy22 => exact Or.inl ⟨by rfl, by intro w hSw; have e1 := hSw.1; have e2 := hSw.2.1; have e3 := hSw.2.2; clear hSw; go_simp⟩
    try simp only [Act.put, List.setIfInBounds_toArray, List.set_cons_zero, List.set_cons_succ]
    refine wpAnyH_take (i := 13) (oi := ?oi23) (v := .bool true) ?hi23 (by kernel_rfl) (by kernel_rfl) (by kernel_rfl) ?hQ23 ?hy23 hHeld ?rest23
    case hi23 => simp only [List.getElem?_toArray, List.getElem?_cons_succ, List.getElem?_cons_zero]; rfl
    case hQ23 => exact fun _ _ _ h => h
    case hy23 => exact Or.inl ⟨by rfl, by intro w hSw; have e1 := hSw.1; have e2 := hSw.2.1; have e3 := hSw.2.2; clear hSw; go_simp⟩
    try simp only [Act.put, List.setIfInBounds_toArray, List.set_cons_zero, List.set_cons_succ]
    refine wpAnyH_take (i := 14) (oi := ?oi24) (v := .slice A2 n2 c2) ?hi24 (by kernel_rfl) (by kernel_rfl) (by kernel_rfl) ?hQ24 ?hy24 hHeld ?rest24
    case hi24 => simp only [List.getElem?_toArray, List.getElem?_cons_succ, List.getElem?_cons_zero]; rfl
    case hQ24 => exact fun _ _ _ h => h
    case hy24 => exact Or.inl ⟨by rfl, by intro w hSw; have e1 := hSw.1; have e2 := hSw.2.1; have e3 := hSw.2.2; clear hSw; go_simp⟩
    try simp only [Act.put, List.setIfInBounds_toArray, List.set_cons_zero, List.set_cons_succ]
    refine wpAnyH_take (i := 15) (oi := ?oi25) (v := .string ⟨l2.toArray⟩) ?hi25 (by kernel_rfl) (by kernel_rfl) (by kernel_rfl) ?hQ25 ?hy25 hHeld ?rest25
    case hi25 => simp only [List.getElem?_toArray, List.getElem?_cons_succ, List.getElem?_cons_zero]; rfl
    case hQ25 => exact fun _ _ _ h => h
    case hy25 => exact Or.inl ⟨by rfl, by intro w hSw; have e1 := hSw.1; have e2 := hSw.2.1; have e3 := hSw.2.2; clear hSw; go_simp⟩
    try simp only [Act.put, List.setIfInBounds_toArray, List.set_cons_zero, List.set_cons_succ]
    refine wpAnyH_take (i := 16) (oi := ?oi26) (v := .string ⟨l2.toArray⟩) ?hi26 (by kernel_rfl) (by kernel_rfl) (by kernel_rfl) ?hQ26 ?hy26 hHeld ?rest26
    case hi26 => simp only [List.getElem?_toArray, List.getElem?_cons_succ, List.getElem?_cons_zero]; rfl
    case hQ26 => exact fun _ _ _ h => h
    case hy26 => exact Or.inl ⟨by rfl, by intro w hSw; have e1 := hSw.1; have e2 := hSw.2.1; have e3 := hSw.2.2; clear hSw; go_simp⟩
    try simp only [Act.put, List.setIfInBounds_toArray, List.set_cons_zero, List.set_cons_succ]
    refine wpAnyH_take (i := 17) (oi := ?oi27) (v := .bool true) ?hi27 (by kernel_rfl) (by kernel_rfl) (by kernel_rfl) ?hQ27 ?hy27 hHeld ?rest27
    case hi27 => simp only [List.getElem?_toArray, List.getElem?_cons_succ, List.getElem?_cons_zero]; rfl
    case hQ27 => exact fun _ _ _ h => h
    case hy27 => exact Or.inl ⟨by rfl, by intro w hSw; have e1 := hSw.1; have e2 := hSw.2.1; have e3 := hSw.2.2; clear hSw; go_simp⟩
    try simp only [Act.put, List.setIfInBounds_toArray, List.set_cons_zero, List.set_cons_succ]
    refine wpAnyH_take (i := 18) (oi := ?oi28) (v := .bool true) ?hi28 (by kernel_rfl) (by kernel_rfl) (by kernel_rfl) ?hQ28 ?hy28 hHeld ?rest28
    case hi28 => simp only [List.getElem?_toArray, List.getElem?_cons_succ, List.getElem?_cons_zero]; rfl
    case hQ28 => exact fun _ _ _ h => h
    case hy28 => exact Or.inl ⟨by rfl, by intro w hSw; have e1 := hSw.1; have e2 := hSw.2.1; have e3 := hSw.2.2; clear hSw; go_simp⟩
    try simp only [Act.put, List.setIfInBounds_toArray, List.set_cons_zero, List.set_cons_succ]
    refine wpAnyH_take (i := 19) (oi := ?oi29) (v := .bool true) ?hi29 (by kernel_rfl) (by kernel_rfl) (by kernel_rfl) ?hQ29 ?hy29 hHeld ?rest29
    case hi29 => simp only [List.getElem?_toArray, List.getElem?_cons_succ, List.getElem?_cons_zero]; rfl
    case hQ29 => exact fun _ _ _ h => h
    case hy29 => exact Or.inl ⟨by rfl, by intro w hSw; have e1 := hSw.1; have e2 := hSw.2.1; have e3 := hSw.2.2; clear hSw; go_simp⟩
    try simp only [Act.put, List.setIfInBounds_toArray, List.set_cons_zero, List.set_cons_succ]
    refine wpAnyH_done (by kernel_rfl) ?_ _
    clear hHeld
    go_wp2_with fail
    go_ret
    exact ⟨rfl, W11.out⟩
  refine AllReadyH.cons (o := ?o30) ?ho30 (fun K hK => ?_) AllReadyH.nil
  case ho30 => simp only [List.getElem?_toArray, List.getElem?_cons_succ, List.getElem?_cons_zero]; rfl
  go_simp
  refine (RX.out w10 R10.out).mono ?_
  rintro r w11 ⟨Ay, cy, rfl, hE, hX⟩
  have F11 := Lib.hid hE
  have E11 := Lib.hid (E10.out.below hX)
  have K11 := Lib.hid (K10.out.below hX K10.out.lt)
  have N11 := Lib.hid (N10.out.below hX N10.out.lt)
  have W11 := Lib.hid (W10.out.trans (hX.mono W10.out.size))
  have R11 := Lib.hid (R10.out.below hX)
  clear hX hE
  refine hK.out _ _ (HT.out _ K11.out N11.out R11.out) (fun hHeld => ?_)
  clear hK K
  try simp only [Act.put, List.setIfInBounds_toArray, List.set_cons_zero, List.set_cons_succ]
  refine wpAnyH_ready (rs := [5, 11]) (by kernel_rfl) (by simp) ?_
  refine AllReadyH.cons (o := ?o31) ?ho31 (fun K hK => ?_) ?more31
  case ho31 => simp only [List.getElem?_toArray, List.getElem?_cons_succ, List.getElem?_cons_zero]; rfl
  · have hcv := conv_bytes E11.out
    go_simp
    clear hcv
    refine hK.out _ _ (HT.out _ K11.out N11.out R11.out) (fun hHeld => ?_)
    clear hK K
    try simp only [Act.put, List.setIfInBounds_toArray, List.set_cons_zero, List.set_cons_succ]
    refine wpAnyH_ready (rs := [11]) (by kernel_rfl) (by simp) ?_
    refine AllReadyH.cons (o := ?o32) ?ho32 (fun K hK => ?_) AllReadyH.nil
    case ho32 => simp only [List.getElem?_toArray, List.getElem?_cons_succ, List.getElem?_cons_zero]; rfl
    have hcv := conv_bytes F11.out
    go_simp
    clear hcv
    refine hK.out _ _ (HT.out _ K11.out N11.out R11.out) (fun hHeld => ?_)
    clear hK K
    try simp only [Act.put, List.setIfInBounds_toArray, List.set_cons_zero, List.set_cons_succ]
    refine wpAnyH_take (i := 12) (oi := ?oi33) (v := .bool true) ?hi33 (by kernel_rfl) (by kernel_rfl) (by kernel_rfl) ?hQ33 ?hy33 hHeld ?rest33
    case hi33 => simp only [List.getElem?_toArray, List.getElem?_cons_succ, List.getElem?_cons_zero]; rfl
    case hQ33 => exact fun _ _ _ h => h
    case hy33 => exact Or.inl ⟨by rfl, by intro w hSw; have e1 := hSw.1; have e2 := hSw.2.1; have e3 := hSw.2.2; clear hSw; go_simp⟩
    try simp only [Act.put, List.setIfInBounds_toArray, List.set_cons_zero, List.set_cons_succ]
    refine wpAnyH_take (i := 13) (oi := ?oi34) (v := .bool true) ?hi34 (by kernel_rfl) (by kernel_rfl) (by kernel_rfl) ?hQ34 ?hy34 hHeld ?rest34
    case hi34 => simp only [List.getElem?_toArray, List.getElem?_cons_succ, List.getElem?_cons_zero]; rfl
    case hQ34 => exact fun _ _ _ h => h
    case hy34 => exact Or.inl ⟨by rfl, by intro w hSw; have e1 := hSw.1; have e2 := hSw.2.1; have e3 := hSw.2.2; clear hSw; go_simp⟩
    try simp only [Act.put, List.setIfInBounds_toArray, List.set_cons_zero, List.set_cons_succ]
    refine wpAnyH_take (i := 14) (oi := ?oi35) (v := .slice A2 n2 c2) ?hi35 (by kernel_rfl) (by kernel_rfl) (by kernel_rfl) ?hQ35 ?hy35 hHeld ?rest35
    case hi35 => simp only [List.getElem?_toArray, List.getElem?_cons_succ, List.getElem?_cons_zero]; rfl
    case hQ35 => exact fun _ _ _ h => h
    case hy35 => exact Or.inl ⟨by rfl, by intro w hSw; have e1 := hSw.1; have e2 := hSw.2.1; have e3 := hSw.2.2; clear hSw; go_simp⟩
    try simp only [Act.put, List.setIfInBounds_toArray, List.set_cons_zero, List.set_cons_succ]
    refine wpAnyH_take (i := 15) (oi := ?oi36) (v := .string ⟨l2.toArray⟩) ?hi36 (by kernel_rfl) (by kernel_rfl) (by kernel_rfl) ?hQ36 ?hy36 hHeld ?rest36
    case hi36 => simp only [List.getElem?_toArray, List.getElem?_cons_succ, List.getElem?_cons_zero]; rfl
    case hQ36 => exact fun _ _ _ h => h
    case hy36 => exact Or.inl ⟨by rfl, by intro w hSw; have e1 := hSw.1; have e2 := hSw.2.1; have e3 := hSw.2.2; clear hSw; go_simp⟩
    try simp only [Act.put, List.setIfInBounds_toArray, List.set_cons_zero, List.set_cons_succ]
    refine wpAnyH_take (i := 16) (oi := ?oi37) (v := .string ⟨l2.toArray⟩) ?hi37 (by kernel_rfl) (by kernel_rfl) (by kernel_rfl) ?hQ37 ?hy37 hHeld ?rest37
    case hi37 => simp only [List.getElem?_toArray, List.getElem?_cons_succ, List.getElem?_cons_zero]; rfl
    case hQ37 => exact fun _ _ _ h => h
    case hy37 => exact Or.inl ⟨by rfl, by intro w hSw; have e1 := hSw.1; have e2 := hSw.2.1; have e3 := hSw.2.2; clear hSw; go_simp⟩
    try simp only [Act.put, List.setIfInBounds_toArray, List.set_cons_zero, List.set_cons_succ]
    refine wpAnyH_take (i := 17) (oi := ?oi38) (v := .bool true) ?hi38 (by kernel_rfl) (by kernel_rfl) (by kernel_rfl) ?hQ38 ?hy38 hHeld ?rest38
    case hi38 => simp only [List.getElem?_toArray, List.getElem?_cons_succ, List.getElem?_cons_zero]; rfl
    case hQ38 => exact fun _ _ _ h => h
    case hy38 => exact Or.inl ⟨by rfl, by intro w hSw; have e1 := hSw.1; have e2 := hSw.2.1; have e3 := hSw.2.2; clear hSw; go_simp⟩
    try simp only [Act.put, List.setIfInBounds_toArray, List.set_cons_zero, List.set_cons_succ]
    refine wpAnyH_take (i := 18) (oi := ?oi39) (v := .bool true) ?hi39 (by kernel_rfl) (by kernel_rfl) (by kernel_rfl) ?hQ39 ?hy39 hHeld ?rest39
    case hi39 => simp only [List.getElem?_toArray, List.getElem?_cons_succ, List.getElem?_cons_zero]; rfl
    case hQ39 => exact fun _ _ _ h => h
    case hy39 => exact Or.inl ⟨by rfl, by intro w hSw; have e1 := hSw.1; have e2 := hSw.2.1; have e3 := hSw.2.2; clear hSw; go_simp⟩
    try simp only [Act.put, List.setIfInBounds_toArray, List.set_cons_zero, List.set_cons_succ]
    refine wpAnyH_take (i := 19) (oi := ?oi40) (v := .bool true) ?hi40 (by kernel_rfl) (by kernel_rfl) (by kernel_rfl) ?hQ40 ?hy40 hHeld ?rest40
    case hi40 => simp only [List.getElem?_toArray, List.getElem?_cons_succ, List.getElem?_cons_zero]; rfl
    case hQ40 => exact fun _ _ _ h => h
    case hy40 => exact Or.inl ⟨by rfl, by intro w hSw; have e1 := hSw.1; have e2 := hSw.2.1; have e3 := hSw.2.2; clear hSw; go_simp⟩
    try simp only [Act.put, List.setIfInBounds_toArray, List.set_cons_zero, List.set_cons_succ]
    refine wpAnyH_done (by kernel_rfl) ?_ _
    clear hHeld
    go_wp2_with fail
    go_ret
    exact ⟨rfl, W11.out⟩
  refine AllReadyH.cons (o := ?o41) ?ho41 (fun K hK => ?_) AllReadyH.nil
  case ho41 => simp only [List.getElem?_toArray, List.getElem?_cons_succ, List.getElem?_cons_zero]; rfl
  have hcv := conv_bytes F11.out
  go_simp
  clear hcv
  refine hK.out _ _ (HT.out _ K11.out N11.out R11.out) (fun hHeld => ?_)
  clear hK K
  try simp only [Act.put, List.setIfInBounds_toArray, List.set_cons_zero, List.set_cons_succ]
  refine wpAnyH_ready (rs := [5]) (by kernel_rfl) (by simp) ?_
  refine AllReadyH.cons (o := ?o42) ?ho42 (fun K hK => ?_) AllReadyH.nil
  case ho42 => simp only [List.getElem?_toArray, List.getElem?_cons_succ, List.getElem?_cons_zero]; rfl
  have hcv := conv_bytes E11.out
  go_simp
  clear hcv
  refine hK.out _ _ (HT.out _ K11.out N11.out R11.out) (fun hHeld => ?_)
  clear hK K
  try simp only [Act.put, List.setIfInBounds_toArray, List.set_cons_zero, List.set_cons_succ]
  refine wpAnyH_take (i := 12) (oi := ?oi43) (v := .bool true) ?hi43 (by kernel_rfl) (by kernel_rfl) (by kernel_rfl) ?hQ43 ?hy43 hHeld ?rest43
  case hi43 => simp only [List.getElem?_toArray, List.getElem?_cons_succ, List.getElem?_cons_zero]; rfl
  case hQ43 => exact fun _ _ _ h => h
  case hy43 => exact Or.inl ⟨by rfl, by intro w hSw; have e1 := hSw.1; have e2 := hSw.2.1; have e3 := hSw.2.2; clear hSw; go_simp⟩
  try simp only [Act.put, List.setIfInBounds_toArray, List.set_cons_zero, List.set_cons_succ]
  refine wpAnyH_take (i := 13) (oi := ?oi44) (v := .bool true) ?hi44 (by kernel_rfl) (by kernel_rfl) (by kernel_rfl) ?hQ44 ?hy44 hHeld ?rest44
  case hi44 => simp only [List.getElem?_toArray, List.getElem?_cons_succ, List.getElem?_cons_zero]; rfl
  case hQ44 => exact fun _ _ _ h => h
  case hy44 => exact Or.inl ⟨by rfl, by intro w hSw; have e1 := hSw.1; have e2 := hSw.2.1; have e3 := hSw.2.2; clear hSw; go_simp⟩
  try simp only [Act.put, List.setIfInBounds_toArray, List.set_cons_zero, List.set_cons_succ]
  refine wpAnyH_take (i := 14) (oi := ?oi45) (v := .slice A2 n2 c2) ?hi45 (by kernel_rfl) (by kernel_rfl) (by kernel_rfl) ?hQ45 ?hy45 hHeld ?rest45
  case hi45 => simp only [List.getElem?_toArray, List.getElem?_cons_succ, List.getElem?_cons_zero]; rfl
  case hQ45 => exact fun _ _ _ h => h
  case hy45 => exact Or.inl ⟨by rfl, by intro w hSw; have e1 := hSw.1; have e2 := hSw.2.1; have e3 := hSw.2.2; clear hSw; go_simp⟩
  try simp only [Act.put, List.setIfInBounds_toArray, List.set_cons_zero, List.set_cons_succ]
  refine wpAnyH_take (i := 15) (oi := ?oi46) (v := .string ⟨l2.toArray⟩) ?hi46 (by kernel_rfl) (by kernel_rfl) (by kernel_rfl) ?hQ46 ?hy46 hHeld ?rest46
  case hi46 => simp only [List.getElem?_toArray, List.getElem?_cons_succ, List.getElem?_cons_zero]; rfl
  case hQ46 => exact fun _ _ _ h => h
  case hy46 => exact Or.inl ⟨by rfl, by intro w hSw; have e1 := hSw.1; have e2 := hSw.2.1; have e3 := hSw.2.2; clear hSw; go_simp⟩
  try simp only [Act.put, List.setIfInBounds_toArray, List.set_cons_zero, List.set_cons_succ]
  refine wpAnyH_take (i := 16) (oi := ?oi47) (v := .string ⟨l2.toArray⟩) ?hi47 (by kernel_rfl) (by kernel_rfl) (by kernel_rfl) ?hQ47 ?hy47 hHeld ?rest47
  case hi47 => simp only [List.getElem?_toArray, List.getElem?_cons_succ, List.getElem?_cons_zero]; rfl
  case hQ47 => exact fun _ _ _ h => h
  case hy47 => exact Or.inl ⟨by rfl, by intro w hSw; have e1 := hSw.1; have e2 := hSw.2.1; have e3 := hSw.2.2; clear hSw; go_simp⟩
  try simp only [Act.put, List.setIfInBounds_toArray, List.set_cons_zero, List.set_cons_succ]
  refine wpAnyH_take (i := 17) (oi := ?oi48) (v := .bool true) ?hi48 (by kernel_rfl) (by kernel_rfl) (by kernel_rfl) ?hQ48 ?hy48 hHeld ?rest48
  case hi48 => simp only [List.getElem?_toArray, List.getElem?_cons_succ, List.getElem?_cons_zero]; rfl
  case hQ48 => exact fun _ _ _ h => h
  case hy48 => exact Or.inl ⟨by rfl, by intro w hSw; have e1 := hSw.1; have e2 := hSw.2.1; have e3 := hSw.2.2; clear hSw; go_simp⟩
  try simp only [Act.put, List.setIfInBounds_toArray, List.set_cons_zero, List.set_cons_succ]
  refine wpAnyH_take (i := 18) (oi := ?oi49) (v := .bool true) ?hi49 (by kernel_rfl) (by kernel_rfl) (by kernel_rfl) ?hQ49 ?hy49 hHeld ?rest49
  case hi49 => simp only [List.getElem?_toArray, List.getElem?_cons_succ, List.getElem?_cons_zero]; rfl
  case hQ49 => exact fun _ _ _ h => h
  case hy49 => exact Or.inl ⟨by rfl, by intro w hSw; have e1 := hSw.1; have e2 := hSw.2.1; have e3 := hSw.2.2; clear hSw; go_simp⟩
  try simp only [Act.put, List.setIfInBounds_toArray, List.set_cons_zero, List.set_cons_succ]
  refine wpAnyH_take (i := 19) (oi := ?oi50) (v := .bool true) ?hi50 (by kernel_rfl) (by kernel_rfl) (by kernel_rfl) ?hQ50 ?hy50 hHeld ?rest50
  case hi50 => simp only [List.getElem?_toArray, List.getElem?_cons_succ, List.getElem?_cons_zero]; rfl
  case hQ50 => exact fun _ _ _ h => h
  case hy50 => exact Or.inl ⟨by rfl, by intro w hSw; have e1 := hSw.1; have e2 := hSw.2.1; have e3 := hSw.2.2; clear hSw; go_simp⟩
  try simp only [Act.put, List.setIfInBounds_toArray, List.set_cons_zero, List.set_cons_succ]
  refine wpAnyH_done (by kernel_rfl) ?_ _
  clear hHeld
  go_wp2_with fail
  go_ret
  exact ⟨rfl, W11.out⟩
end Go.Proofs.YtknpngeaodlmhaaDoor.chachaAll
