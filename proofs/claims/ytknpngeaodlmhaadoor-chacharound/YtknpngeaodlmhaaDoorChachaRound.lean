/- The walk of ChachaRound. -/
import Derived.Test.YtknpngeaodlmhaaDoorBegun4
import Derived.Test.YtknpngeaodlmhaaDoorGchr
import Derived.Test.YtknpngeaodlmhaaDoorGrow
import Derived.Deep.RegionHeld
namespace Go.Proofs.YtknpngeaodlmhaaDoor.chachaRound
set_option linter.unusedVariables false
set_option linter.unusedSimpArgs false
open Go.RowKit

theorem load_yields {P : Program} {a : Act} {o : Oper} {ty : TypeId} {x : Operand} {v u : Value} {w : World} (ho : o.op = .load ty x) (hx : a.eval x = v) (h : (Instr.loadAt ty v).run P w = .ok u w) : (execOp a.eval o).run P w = .ok (.value u) w := by
  simp [execOp, ho, hx, h]
theorem made_rd (w : World) (n : Nat) (hn : n ≤ 1000) : Rd (w.alloc (.cells (outC [] n).toArray 5)) (some ⟨w.heap.size, 0, none⟩) n n (List.replicate n 0) := by
  refine Rd.of_block (Blk.new w 5 (outC [] n)) (by simp) (Nat.le_refl _) (by unfold maxLen; omega) (fun j hj => ?_)
  unfold outC
  simp [cellOf, List.getD_eq_getElem?_getD, List.getElem?_replicate, hj]

set_option maxRecDepth 100000 in
set_option maxHeartbeats 2000000 in
theorem walk_out (hA : AeOk) {A4 A5 : Option Addr} {n4 c4 n5 c5 : Nat} {x4 x5 : List UInt8} (back n : Int) (w : World) (hg : Gl w) (hr4 : Rd w A4 n4 c4 x4) (hr5 : Rd w A5 n5 c5 x5) (h : back < 0 ∨ 5 < back ∨ n < 0 ∨ 500 < n) :
    Calls Tryd.prog 10 #[.slice A4 n4 c4, .slice A5 n5 c5, .int .i64 back, .int .i64 n] w fun e w' => e = .returned (.bool true) ∧ Below w.heap.size w w' := by
  by_cases h1 : back < 0
  · have hd : decide (back < 0) = true := by simpa using h1
    clear h
    have HG := Lib.hid hg
    have hsz := hg.size
    have R4 := Lib.hid hr4
    have R5 := Lib.hid hr5
    clear hg hr4 hr5
    go_enter Tryd.func10, Tryd.ntmps10
    go_wp2_with (first | (go_at_call 14; refine (begun4_any hA HG.out).mono ?_; rintro e w1 ⟨rfl, HB⟩; have W1 := Lib.hid HB; clear HB))
    go_ret
    exact ⟨rfl, W1.out⟩
  have hd : decide (back < 0) = false := by simpa using h1
  by_cases h2 : 5 < back
  · have hd2 : decide (5 < back) = true := by simpa using h2
    clear h
    have HG := Lib.hid hg
    have hsz := hg.size
    have R4 := Lib.hid hr4
    have R5 := Lib.hid hr5
    clear hg hr4 hr5
    go_enter Tryd.func10, Tryd.ntmps10
    go_wp2_with (first | (go_at_call 14; refine (begun4_any hA HG.out).mono ?_; rintro e w1 ⟨rfl, HB⟩; have W1 := Lib.hid HB; clear HB))
    go_ret
    exact ⟨rfl, W1.out⟩
  have hd2 : decide (5 < back) = false := by simpa using h2
  by_cases h3 : n < 0
  · have hd3 : decide (n < 0) = true := by simpa using h3
    clear h
    have HG := Lib.hid hg
    have hsz := hg.size
    have R4 := Lib.hid hr4
    have R5 := Lib.hid hr5
    clear hg hr4 hr5
    go_enter Tryd.func10, Tryd.ntmps10
    go_wp2_with (first | (go_at_call 14; refine (begun4_any hA HG.out).mono ?_; rintro e w1 ⟨rfl, HB⟩; have W1 := Lib.hid HB; clear HB))
    go_ret
    exact ⟨rfl, W1.out⟩
  have hd3 : decide (n < 0) = false := by simpa using h3
  have h4 : 500 < n := by omega
  have hd4 : decide (500 < n) = true := by simpa using h4
  clear h
  have HG := Lib.hid hg
  have hsz := hg.size
  have R4 := Lib.hid hr4
  have R5 := Lib.hid hr5
  clear hg hr4 hr5
  go_enter Tryd.func10, Tryd.ntmps10
  go_wp2_with (first | (go_at_call 14; refine (begun4_any hA HG.out).mono ?_; rintro e w1 ⟨rfl, HB⟩; have W1 := Lib.hid HB; clear HB))
  go_ret
  exact ⟨rfl, W1.out⟩

set_option maxRecDepth 100000 in
set_option maxHeartbeats 4000000 in
theorem walkIn (hA : AeOk) {A4 A5 : Option Addr} {n4 c4 n5 c5 : Nat} {x4 x5 : List UInt8} (k n : Nat) (w : World) (hg : Gl w) (hr4 : Rd w A4 n4 c4 x4) (hr5 : Rd w A5 n5 c5 x5) (hk : k ≤ 5) (hn : n ≤ 500) :
    Calls Tryd.prog 10 #[.slice A4 n4 c4, .slice A5 n5 c5, .int .i64 (k : Int), .int .i64 (n : Int)] w fun e w' => e = .returned (.bool true) ∧ Below w.heap.size w w' := by
  have hd : decide ((k : Int) < 0) = false := by simp
  have hd2 : decide (5 < (k : Int)) = false := by simp; omega
  have hd3 : decide ((n : Int) < 0) = false := by simp
  have hd4 : decide (500 < (n : Int)) = false := by simp; omega
  have HG := Lib.hid hg
  have hsz := hg.size
  have R4 := Lib.hid hr4
  have R5 := Lib.hid hr5
  clear hg hr4 hr5
  go_enter Tryd.func10, Tryd.ntmps10
  go_wp2_with (first | (go_at_call 14; refine (begun4_any hA HG.out).mono ?_; rintro e w1 ⟨rfl, HB⟩; have W1 := Lib.hid HB; clear HB))
  have W2 := W1
  have K2 := Lib.hid (R4.out.below W2.out)
  have N2 := Lib.hid (R5.out.below W2.out)
  clear W1 R4 R5
  go_wp2_with fail
  clear hd hd2 hd3 hd4
  refine (key_any K2.out).mono ?_
  rintro e w3 ⟨rfl, hX⟩
  have W3 := Lib.hid (W2.out.trans (hX.mono W2.out.size))
  have N3 := Lib.hid (N2.out.below hX)
  obtain ⟨key, hkey⟩ : ∃ k, k = padTo 32 x4 := ⟨_, rfl⟩
  rw [← hkey]
  have LK : Hid (key.length = 32) := by unfold Hid; rw [hkey, padTo_length]
  clear hX hkey K2 N2 W2
  go_wp2_with fail
  refine (nonce_any N3.out).mono ?_
  rintro e w4 ⟨rfl, hX⟩
  have W4 := Lib.hid (W3.out.trans (hX.mono W3.out.size))
  obtain ⟨nonce, hnon⟩ : ∃ k, k = padTo 12 x5 := ⟨_, rfl⟩
  rw [← hnon]
  have LN : Hid (nonce.length = 12) := by unfold Hid; rw [hnon, padTo_length]
  obtain ⟨kc, hkc⟩ : ∃ c, c = key.map cellOf := ⟨_, rfl⟩
  obtain ⟨nc, hnc⟩ : ∃ c, c = nonce.map cellOf := ⟨_, rfl⟩
  rw [← hkc, ← hnc]
  have CX := Lib.hid (fun (ctr : Int) (h0 : 0 ≤ ctr) (h1 : ctr < 4294967296) (A : Option Addr) (c : Nat) (l : List UInt8) (W : World) (h : Rd W A n c l) => cxor_any key nonce ctr h (by omega) LK.out LN.out h0 h1)
  have RX := Lib.hid (fun (ctr : Int) (h0 : 0 ≤ ctr) (h1 : ctr < 4294967296) (A : Option Addr) (c : Nat) (l : List UInt8) (W : World) (h : Rd W A n c l) => rxor_any key nonce ctr h (by omega) LK.out LN.out h0 h1)
  rw [← hkc, ← hnc] at CX RX
  have hkl : kc.length = 32 := by rw [hkc, List.length_map, LK.out]
  have hnl : nc.length = 12 := by rw [hnc, List.length_map, LN.out]
  have IK : Hid ((Tryd.prog.info? 28).map (·.size) = some kc.length) := by unfold Hid; rw [hkl]; kernel_rfl
  have IN : Hid ((Tryd.prog.info? 30).map (·.size) = some nc.length) := by unfold Hid; rw [hnl]; kernel_rfl
  have ZK : Hid ((List.replicate 32 (Value.int .u8 0)).length = kc.length) := by unfold Hid; rw [hkl]; rfl
  have ZN : Hid ((List.replicate 12 (Value.int .u8 0)).length = nc.length) := by unfold Hid; rw [hnl]; rfl
  have OK' : Hid (∀ v ∈ kc, v.oneCell' = true) := by unfold Hid; rw [hkc]; exact cells_u8 _
  have ON' : Hid (∀ v ∈ nc, v.oneCell' = true) := by unfold Hid; rw [hnc]; exact cells_u8 _
  clear hX hnon hkc hnc hkl hnl N3 W3
  go_upto_region 7 with (first
    | ((with_reducible refine storeAll_law rfl 28 (.tmp 10) (.tmp 32) rfl w4.heap.size rfl kc rfl 28 (List.replicate 32 (.int .u8 0)) ?_ IK.out ZK.out OK'.out ?_); exact (Blk.at_new _ _ 28 _ _ (by rfl) rfl).alloc _)
    | ((with_reducible refine storeAll_law rfl 30 (.tmp 11) (.tmp 34) rfl (w4.heap.size + 1) rfl nc rfl 30 (List.replicate 12 (.int .u8 0)) ?_ IN.out ZN.out ON'.out ?_); exact (Blk.at_new _ _ 30 _ _ (by rfl) (by simp)).rowFar (by simp) _))
  obtain ⟨u4, hu4⟩ : ∃ u, u = (w4.alloc (.cells (List.replicate 32 (.int .u8 0)).toArray 28)).alloc (.cells (List.replicate 12 (.int .u8 0)).toArray 30) := ⟨_, rfl⟩
  have U0 : Blk u4 w4.heap.size 28 (List.replicate 32 (.int .u8 0)) := by rw [hu4]; exact (Blk.new w4 28 _).alloc _
  have U1 : Blk u4 (w4.heap.size + 1) 30 (List.replicate 12 (.int .u8 0)) := by rw [hu4]; exact Blk.at_new _ _ 30 _ _ rfl (by simp)
  have UX : Below w4.heap.size w4 u4 := by rw [hu4]; exact ((Below.refl _ _).alloc (Nat.le_refl _) _).alloc (by simp) _
  have K5 : Hid (Blk ((u4.setRow w4.heap.size kc.toArray).setRow (w4.heap.size + 1) nc.toArray) w4.heap.size 28 kc) := (Blk.row U0).rowFar (by simp) _
  have N5 : Hid (Blk ((u4.setRow w4.heap.size kc.toArray).setRow (w4.heap.size + 1) nc.toArray) (w4.heap.size + 1) 30 nc) := Blk.row (U1.rowFar (by simp) _)
  have X5 : Hid (Below w4.heap.size w4 ((u4.setRow w4.heap.size kc.toArray).setRow (w4.heap.size + 1) nc.toArray)) := below_setRow (below_setRow UX (Nat.le_refl _) _) (by omega) _
  clear U0 U1 UX
  change Code.wp _ _ _ _ ((((w4.alloc (.cells (List.replicate 32 (.int .u8 0)).toArray 28)).alloc (.cells (List.replicate 12 (.int .u8 0)).toArray 30)).setRow w4.heap.size kc.toArray).setRow (w4.heap.size + 1) nc.toArray)
  rw [← hu4]
  clear hu4
  obtain ⟨gn, hgn⟩ : ∃ g, g = w4.heap.size + 1 := ⟨_, rfl⟩
  obtain ⟨gk, hgk⟩ : ∃ g, g = w4.heap.size := ⟨_, rfl⟩
  rw [← hgn] at K5 N5 X5
  rw [← hgn]
  generalize (u4.setRow w4.heap.size kc.toArray).setRow gn nc.toArray = w5 at *
  rw [← hgk] at K5
  rw [← hgk]
  clear hgn hgk
  have W5 := Lib.hid (W4.out.trans (X5.out.mono W4.out.size))
  clear X5 W4 ZK OK' ZN ON' LK LN
  have HS : Hid (∀ W, Blk W gk 28 kc → Blk W gn 30 nc → (Instr.loadAt 28 (.pointer (some ⟨gk, 0, none⟩))).run Tryd.prog W = .ok (.agg kc.toArray) W ∧ (Instr.loadAt 30 (.pointer (some ⟨gn, 0, none⟩))).run Tryd.prog W = .ok (.agg nc.toArray) W) := fun W h1 h2 =>
    ⟨run_loadAt_list W 28 gk 0 kc _ Tryd.underlying28 rfl IK.out h1.cells, run_loadAt_list W 30 gn 0 nc _ Tryd.underlying30 rfl IN.out h2.cells⟩
  go_upto_region 8 with (fail)
  obtain ⟨a, ha, ha0, ha1⟩ : ∃ a : Int, -(k : Int) % 4294967296 = a ∧ 0 ≤ a ∧ a < 4294967296 := ⟨_, rfl, by omega, by omega⟩
  rw [ha]
  clear ha
  have hmk := fun W => make_bytes n (by omega) W
  have K6 : Hid (Blk w5.drew gk 28 kc) := K5.out.drew
  have N6 : Hid (Blk w5.drew gn 30 nc) := N5.out.drew
  have W6 : Hid (Below w.heap.size w w5.drew) := W5.out.drew
  refine wp_region_held_drew (S := fun W : World => (Instr.loadAt 28 (.pointer (some ⟨gk, 0, none⟩))).run Tryd.prog W = .ok (.agg kc.toArray) W ∧ (Instr.loadAt 30 (.pointer (some ⟨gn, 0, none⟩))).run Tryd.prog W = .ok (.agg nc.toArray) W) (by kernel_rfl) (HS.out _ K6.out N6.out) (fun hHeld => ?_)
  clear K5 N5 W5
  generalize w5.drew = w6 at *
  refine wpAnyH_take (i := 0) (oi := ?oi1) (v := .agg kc.toArray) ?hi1 (by kernel_rfl) (by kernel_rfl) (by kernel_rfl) ?hQ1 ?hy1 hHeld ?rest1
  case hi1 => simp only [List.getElem?_toArray, List.getElem?_cons_succ, List.getElem?_cons_zero]; rfl
  case hQ1 => exact fun _ _ _ h => h
  case hy1 => exact Or.inl ⟨by rfl, fun w hSw => load_yields rfl rfl hSw.1⟩
  try simp only [Act.put, List.setIfInBounds_toArray, List.set_cons_zero, List.set_cons_succ]
  refine wpAnyH_take (i := 1) (oi := ?oi2) (v := .int .u32 a) ?hi2 (by kernel_rfl) (by kernel_rfl) (by kernel_rfl) ?hQ2 ?hy2 hHeld ?rest2
  case hi2 => simp only [List.getElem?_toArray, List.getElem?_cons_succ, List.getElem?_cons_zero]; rfl
  case hQ2 => exact fun _ _ _ h => h
  case hy2 => exact Or.inl ⟨by rfl, by intro w hSw; have e1 := hSw.1; have e2 := hSw.2; clear hSw e1 e2; go_simp⟩
  try simp only [Act.put, List.setIfInBounds_toArray, List.set_cons_zero, List.set_cons_succ]
  refine wpAnyH_take (i := 2) (oi := ?oi3) (v := .agg nc.toArray) ?hi3 (by kernel_rfl) (by kernel_rfl) (by kernel_rfl) ?hQ3 ?hy3 hHeld ?rest3
  case hi3 => simp only [List.getElem?_toArray, List.getElem?_cons_succ, List.getElem?_cons_zero]; rfl
  case hQ3 => exact fun _ _ _ h => h
  case hy3 => exact Or.inl ⟨by rfl, fun w hSw => load_yields rfl rfl hSw.2⟩
  try simp only [Act.put, List.setIfInBounds_toArray, List.set_cons_zero, List.set_cons_succ]
  refine wpAnyH_take (i := 3) (oi := ?oi4) (v := .int .i64 (n : Int)) ?hi4 (by kernel_rfl) (by kernel_rfl) (by kernel_rfl) ?hQ4 ?hy4 hHeld ?rest4
  case hi4 => simp only [List.getElem?_toArray, List.getElem?_cons_succ, List.getElem?_cons_zero]; rfl
  case hQ4 => exact fun _ _ _ h => h
  case hy4 => exact Or.inl ⟨by rfl, by intro w hSw; have e1 := hSw.1; have e2 := hSw.2; clear hSw e1 e2; go_simp⟩
  try simp only [Act.put, List.setIfInBounds_toArray, List.set_cons_zero, List.set_cons_succ]
  refine wpAnyH_ready (rs := [4]) (by kernel_rfl) (by simp) ?_
  refine AllReadyH.cons (o := ?o5) ?ho5 (fun K hK => ?_) AllReadyH.nil
  case ho5 => simp only [List.getElem?_toArray, List.getElem?_cons_succ, List.getElem?_cons_zero]; rfl
  go_simp
  have hX := (Below.refl w6.heap.size w6).alloc (Nat.le_refl _) (.cells (outC [] n).toArray 5)
  have M7 := Lib.hid (made_rd w6 n (by omega))
  have K7 := Lib.hid (K6.out.below hX K6.out.lt)
  have N7 := Lib.hid (N6.out.below hX N6.out.lt)
  have W7 := Lib.hid (W6.out.trans (hX.mono W6.out.size))
  clear hX K6 N6 W6
  refine hK.out _ _ (HS.out _ K7.out N7.out) (fun hHeld => ?_)
  clear hK K
  obtain ⟨m7, hm7⟩ : ∃ m, m = w6.heap.size := ⟨_, rfl⟩
  rw [← hm7] at M7
  generalize w6.alloc (.cells (outC [] n).toArray 5) = w7 at *
  rw [← hm7]
  clear hm7
  try simp only [Act.put, List.setIfInBounds_toArray, List.set_cons_zero, List.set_cons_succ]
  refine wpAnyH_ready (rs := [5]) (by kernel_rfl) (by simp) ?_
  refine AllReadyH.cons (o := ?o6) ?ho6 (fun K hK => ?_) AllReadyH.nil
  case ho6 => simp only [List.getElem?_toArray, List.getElem?_cons_succ, List.getElem?_cons_zero]; rfl
  go_simp
  refine (CX.out a ha0 ha1 _ _ _ w7 M7.out).mono ?_
  rintro r w8 ⟨gx, rfl, hE, _, hX⟩
  obtain ⟨XL, hXL⟩ : ∃ XL, XL = Cha.xor key a nonce (List.replicate n 0) := ⟨_, rfl⟩
  rw [← hXL] at hE
  have HXL := Lib.hid hXL
  have E8 := Lib.hid hE
  have K8 := Lib.hid (K7.out.below hX K7.out.lt)
  have N8 := Lib.hid (N7.out.below hX N7.out.lt)
  have W8 := Lib.hid (W7.out.trans (hX.mono W7.out.size))
  clear hE hX hXL K7 N7 W7 M7
  refine hK.out _ _ (HS.out _ K8.out N8.out) (fun hHeld => ?_)
  clear hK K
  try simp only [Act.put, List.setIfInBounds_toArray, List.set_cons_zero, List.set_cons_succ]
  refine wpAnyH_take (i := 6) (oi := ?oi7) (v := .slice (some ⟨gx, 0, none⟩) n n) ?hi7 (by kernel_rfl) (by kernel_rfl) (by kernel_rfl) ?hQ7 ?hy7 hHeld ?rest7
  case hi7 => simp only [List.getElem?_toArray, List.getElem?_cons_succ, List.getElem?_cons_zero]; rfl
  case hQ7 => exact fun _ _ _ h => h
  case hy7 => exact Or.inl ⟨by rfl, by intro w hSw; have e1 := hSw.1; have e2 := hSw.2; clear hSw e1 e2; go_simp⟩
  try simp only [Act.put, List.setIfInBounds_toArray, List.set_cons_zero, List.set_cons_succ]
  refine wpAnyH_done (by kernel_rfl) ?_ _
  clear hHeld
  go_upto_region 9 with (fail)
  have hnn : ((n : Int) == (n : Int)) = true := by simp
  have K9 : Hid (Blk w8.drew gk 28 kc) := K8.out.drew
  have N9 : Hid (Blk w8.drew gn 30 nc) := N8.out.drew
  have W9 : Hid (Below w.heap.size w w8.drew) := W8.out.drew
  have E9 : Hid (Rd w8.drew (some ⟨gx, 0, none⟩) n n XL) := E8.out.drew
  have HT : Hid (∀ W, Blk W gk 28 kc → Blk W gn 30 nc → Rd W (some ⟨gx, 0, none⟩) n n XL → (Instr.loadAt 28 (.pointer (some ⟨gk, 0, none⟩))).run Tryd.prog W = .ok (.agg kc.toArray) W ∧ (Instr.loadAt 30 (.pointer (some ⟨gn, 0, none⟩))).run Tryd.prog W = .ok (.agg nc.toArray) W ∧ (convert 23 9 (.slice (some ⟨gx, 0, none⟩) n n)).run Tryd.prog W = .ok (.string ⟨XL.toArray⟩) W) := fun W h1 h2 h3 => ⟨(HS.out W h1 h2).1, (HS.out W h1 h2).2, conv_bytes h3⟩
  refine wp_region_held_drew (S := fun W : World => (Instr.loadAt 28 (.pointer (some ⟨gk, 0, none⟩))).run Tryd.prog W = .ok (.agg kc.toArray) W ∧ (Instr.loadAt 30 (.pointer (some ⟨gn, 0, none⟩))).run Tryd.prog W = .ok (.agg nc.toArray) W ∧ (convert 23 9 (.slice (some ⟨gx, 0, none⟩) n n)).run Tryd.prog W = .ok (.string ⟨XL.toArray⟩) W) (by kernel_rfl) (HT.out _ K9.out N9.out E9.out) (fun hHeld => ?_)
  clear K8 N8 W8 E8
  generalize w8.drew = w9 at *
  refine wpAnyH_take (i := 0) (oi := ?oi8) (v := .slice (some ⟨gx, 0, none⟩) n n) ?hi8 (by kernel_rfl) (by kernel_rfl) (by kernel_rfl) ?hQ8 ?hy8 hHeld ?rest8
  case hi8 => simp only [List.getElem?_toArray, List.getElem?_cons_succ, List.getElem?_cons_zero]; rfl
  case hQ8 => exact fun _ _ _ h => h
  case hy8 => exact Or.inl ⟨by rfl, by intro w hSw; have e1 := hSw.1; have e2 := hSw.2.1; have e3 := hSw.2.2; clear hSw e1 e2; go_simp⟩
  try simp only [Act.put, List.setIfInBounds_toArray, List.set_cons_zero, List.set_cons_succ]
  refine wpAnyH_take (i := 1) (oi := ?oi9) (v := .int .i64 (n : Int)) ?hi9 (by kernel_rfl) (by kernel_rfl) (by kernel_rfl) ?hQ9 ?hy9 hHeld ?rest9
  case hi9 => simp only [List.getElem?_toArray, List.getElem?_cons_succ, List.getElem?_cons_zero]; rfl
  case hQ9 => exact fun _ _ _ h => h
  case hy9 => exact Or.inl ⟨by rfl, by intro w hSw; have e1 := hSw.1; have e2 := hSw.2.1; have e3 := hSw.2.2; clear hSw e1 e2; go_simp⟩
  try simp only [Act.put, List.setIfInBounds_toArray, List.set_cons_zero, List.set_cons_succ]
  refine wpAnyH_take (i := 2) (oi := ?oi10) (v := .int .i64 (n : Int)) ?hi10 (by kernel_rfl) (by kernel_rfl) (by kernel_rfl) ?hQ10 ?hy10 hHeld ?rest10
  case hi10 => simp only [List.getElem?_toArray, List.getElem?_cons_succ, List.getElem?_cons_zero]; rfl
  case hQ10 => exact fun _ _ _ h => h
  case hy10 => exact Or.inl ⟨by rfl, by intro w hSw; have e1 := hSw.1; have e2 := hSw.2.1; have e3 := hSw.2.2; clear hSw e1 e2; go_simp⟩
  try simp only [Act.put, List.setIfInBounds_toArray, List.set_cons_zero, List.set_cons_succ]
  refine wpAnyH_take (i := 3) (oi := ?oi11) (v := .bool true) ?hi11 (by kernel_rfl) (by kernel_rfl) (by kernel_rfl) ?hQ11 ?hy11 hHeld ?rest11
  case hi11 => simp only [List.getElem?_toArray, List.getElem?_cons_succ, List.getElem?_cons_zero]; rfl
  case hQ11 => exact fun _ _ _ h => h
  case hy11 => exact Or.inl ⟨by rfl, by intro w hSw; have e1 := hSw.1; have e2 := hSw.2.1; have e3 := hSw.2.2; clear hSw e1 e2; go_simp⟩
  try simp only [Act.put, List.setIfInBounds_toArray, List.set_cons_zero, List.set_cons_succ]
  refine wpAnyH_take (i := 4) (oi := ?oi12) (v := .bool true) ?hi12 (by kernel_rfl) (by kernel_rfl) (by kernel_rfl) ?hQ12 ?hy12 hHeld ?rest12
  case hi12 => simp only [List.getElem?_toArray, List.getElem?_cons_succ, List.getElem?_cons_zero]; rfl
  case hQ12 => exact fun _ _ _ h => h
  case hy12 => exact Or.inl ⟨by rfl, by intro w hSw; have e1 := hSw.1; have e2 := hSw.2.1; have e3 := hSw.2.2; clear hSw e1 e2; go_simp⟩
  try simp only [Act.put, List.setIfInBounds_toArray, List.set_cons_zero, List.set_cons_succ]
  refine wpAnyH_take (i := 5) (oi := ?oi13) (v := .slice (some ⟨gx, 0, none⟩) n n) ?hi13 (by kernel_rfl) (by kernel_rfl) (by kernel_rfl) ?hQ13 ?hy13 hHeld ?rest13
  case hi13 => simp only [List.getElem?_toArray, List.getElem?_cons_succ, List.getElem?_cons_zero]; rfl
  case hQ13 => exact fun _ _ _ h => h
  case hy13 => exact Or.inl ⟨by rfl, by intro w hSw; have e1 := hSw.1; have e2 := hSw.2.1; have e3 := hSw.2.2; clear hSw e1 e2; go_simp⟩
  try simp only [Act.put, List.setIfInBounds_toArray, List.set_cons_zero, List.set_cons_succ]
  refine wpAnyH_take (i := 6) (oi := ?oi14) (v := .string ⟨XL.toArray⟩) ?hi14 (by kernel_rfl) (by kernel_rfl) (by kernel_rfl) ?hQ14 ?hy14 hHeld ?rest14
  case hi14 => simp only [List.getElem?_toArray, List.getElem?_cons_succ, List.getElem?_cons_zero]; rfl
  case hQ14 => exact fun _ _ _ h => h
  case hy14 => exact Or.inl ⟨by rfl, by intro w hSw; have e1 := hSw.1; have e2 := hSw.2.1; have e3 := hSw.2.2; clear hSw e1 e2; go_simp⟩
  try simp only [Act.put, List.setIfInBounds_toArray, List.set_cons_zero, List.set_cons_succ]
  refine wpAnyH_take (i := 7) (oi := ?oi15) (v := .agg kc.toArray) ?hi15 (by kernel_rfl) (by kernel_rfl) (by kernel_rfl) ?hQ15 ?hy15 hHeld ?rest15
  case hi15 => simp only [List.getElem?_toArray, List.getElem?_cons_succ, List.getElem?_cons_zero]; rfl
  case hQ15 => exact fun _ _ _ h => h
  case hy15 => exact Or.inl ⟨by rfl, fun w hSw => load_yields rfl rfl hSw.1⟩
  try simp only [Act.put, List.setIfInBounds_toArray, List.set_cons_zero, List.set_cons_succ]
  refine wpAnyH_take (i := 8) (oi := ?oi16) (v := .int .u32 a) ?hi16 (by kernel_rfl) (by kernel_rfl) (by kernel_rfl) ?hQ16 ?hy16 hHeld ?rest16
  case hi16 => simp only [List.getElem?_toArray, List.getElem?_cons_succ, List.getElem?_cons_zero]; rfl
  case hQ16 => exact fun _ _ _ h => h
  case hy16 => exact Or.inl ⟨by rfl, by intro w hSw; have e1 := hSw.1; have e2 := hSw.2.1; have e3 := hSw.2.2; clear hSw e1 e2; go_simp⟩
  try simp only [Act.put, List.setIfInBounds_toArray, List.set_cons_zero, List.set_cons_succ]
  refine wpAnyH_take (i := 9) (oi := ?oi17) (v := .agg nc.toArray) ?hi17 (by kernel_rfl) (by kernel_rfl) (by kernel_rfl) ?hQ17 ?hy17 hHeld ?rest17
  case hi17 => simp only [List.getElem?_toArray, List.getElem?_cons_succ, List.getElem?_cons_zero]; rfl
  case hQ17 => exact fun _ _ _ h => h
  case hy17 => exact Or.inl ⟨by rfl, fun w hSw => load_yields rfl rfl hSw.2.1⟩
  try simp only [Act.put, List.setIfInBounds_toArray, List.set_cons_zero, List.set_cons_succ]
  refine wpAnyH_take (i := 10) (oi := ?oi18) (v := .int .i64 (n : Int)) ?hi18 (by kernel_rfl) (by kernel_rfl) (by kernel_rfl) ?hQ18 ?hy18 hHeld ?rest18
  case hi18 => simp only [List.getElem?_toArray, List.getElem?_cons_succ, List.getElem?_cons_zero]; rfl
  case hQ18 => exact fun _ _ _ h => h
  case hy18 => exact Or.inl ⟨by rfl, by intro w hSw; have e1 := hSw.1; have e2 := hSw.2.1; have e3 := hSw.2.2; clear hSw e1 e2; go_simp⟩
  try simp only [Act.put, List.setIfInBounds_toArray, List.set_cons_zero, List.set_cons_succ]
  refine wpAnyH_ready (rs := [11]) (by kernel_rfl) (by simp) ?_
  refine AllReadyH.cons (o := ?o19) ?ho19 (fun K hK => ?_) AllReadyH.nil
  case ho19 => simp only [List.getElem?_toArray, List.getElem?_cons_succ, List.getElem?_cons_zero]; rfl
  go_simp
  have hX := (Below.refl w9.heap.size w9).alloc (Nat.le_refl _) (.cells (outC [] n).toArray 5)
  have M10 := Lib.hid (made_rd w9 n (by omega))
  have K10 := Lib.hid (K9.out.below hX K9.out.lt)
  have N10 := Lib.hid (N9.out.below hX N9.out.lt)
  have W10 := Lib.hid (W9.out.trans (hX.mono W9.out.size))
  have E10 := Lib.hid (E9.out.below hX)
  clear hX K9 N9 W9
  refine hK.out _ _ (HT.out _ K10.out N10.out E10.out) (fun hHeld => ?_)
  clear hK K
  obtain ⟨m10, hm10⟩ : ∃ m, m = w9.heap.size := ⟨_, rfl⟩
  rw [← hm10] at M10
  generalize w9.alloc (.cells (outC [] n).toArray 5) = w10 at *
  rw [← hm10]
  clear hm10
  try simp only [Act.put, List.setIfInBounds_toArray, List.set_cons_zero, List.set_cons_succ]
  refine wpAnyH_ready (rs := [12]) (by kernel_rfl) (by simp) ?_
  refine AllReadyH.cons (o := ?o20) ?ho20 (fun K hK => ?_) AllReadyH.nil
  case ho20 => simp only [List.getElem?_toArray, List.getElem?_cons_succ, List.getElem?_cons_zero]; rfl
  go_simp
  refine (RX.out a ha0 ha1 _ _ _ w10 M10.out).mono ?_
  rintro r w11 ⟨Ay, cy, rfl, hE, hX⟩
  rw [← HXL.out] at hE
  have F11 := Lib.hid hE
  have E11 := Lib.hid (E10.out.below hX)
  have K11 := Lib.hid (K10.out.below hX K10.out.lt)
  have N11 := Lib.hid (N10.out.below hX N10.out.lt)
  have W11 := Lib.hid (W10.out.trans (hX.mono W10.out.size))
  clear hE hX K10 N10 W10 M10 E10
  refine hK.out _ _ (HT.out _ K11.out N11.out E11.out) (fun hHeld => ?_)
  clear hK K
  try simp only [Act.put, List.setIfInBounds_toArray, List.set_cons_zero, List.set_cons_succ]
  refine wpAnyH_ready (rs := [13]) (by kernel_rfl) (by simp) ?_
  refine AllReadyH.cons (o := ?o21) ?ho21 (fun K hK => ?_) AllReadyH.nil
  case ho21 => simp only [List.getElem?_toArray, List.getElem?_cons_succ, List.getElem?_cons_zero]; rfl
  have hcv := conv_bytes F11.out
  go_simp
  clear hcv
  refine hK.out _ _ (HT.out _ K11.out N11.out E11.out) (fun hHeld => ?_)
  clear hK K
  try simp only [Act.put, List.setIfInBounds_toArray, List.set_cons_zero, List.set_cons_succ]
  refine wpAnyH_take (i := 14) (oi := ?oi22) (v := .bool true) ?hi22 (by kernel_rfl) (by kernel_rfl) (by kernel_rfl) ?hQ22 ?hy22 hHeld ?rest22
  case hi22 => simp only [List.getElem?_toArray, List.getElem?_cons_succ, List.getElem?_cons_zero]; rfl
  case hQ22 => exact fun _ _ _ h => h
  case hy22 => exact Or.inl ⟨by rfl, by intro w hSw; have e1 := hSw.1; have e2 := hSw.2.1; have e3 := hSw.2.2; clear hSw e1 e2; go_simp⟩
  try simp only [Act.put, List.setIfInBounds_toArray, List.set_cons_zero, List.set_cons_succ]
  refine wpAnyH_take (i := 15) (oi := ?oi23) (v := .bool true) ?hi23 (by kernel_rfl) (by kernel_rfl) (by kernel_rfl) ?hQ23 ?hy23 hHeld ?rest23
  case hi23 => simp only [List.getElem?_toArray, List.getElem?_cons_succ, List.getElem?_cons_zero]; rfl
  case hQ23 => exact fun _ _ _ h => h
  case hy23 => exact Or.inl ⟨by rfl, by intro w hSw; have e1 := hSw.1; have e2 := hSw.2.1; have e3 := hSw.2.2; clear hSw e1 e2; go_simp⟩
  try simp only [Act.put, List.setIfInBounds_toArray, List.set_cons_zero, List.set_cons_succ]
  refine wpAnyH_take (i := 16) (oi := ?oi24) (v := .bool true) ?hi24 (by kernel_rfl) (by kernel_rfl) (by kernel_rfl) ?hQ24 ?hy24 hHeld ?rest24
  case hi24 => simp only [List.getElem?_toArray, List.getElem?_cons_succ, List.getElem?_cons_zero]; rfl
  case hQ24 => exact fun _ _ _ h => h
  case hy24 => exact Or.inl ⟨by rfl, by intro w hSw; have e1 := hSw.1; have e2 := hSw.2.1; have e3 := hSw.2.2; clear hSw e1 e2; go_simp⟩
  try simp only [Act.put, List.setIfInBounds_toArray, List.set_cons_zero, List.set_cons_succ]
  refine wpAnyH_done (by kernel_rfl) ?_ _
  clear hHeld hmk hnn
  go_wp2_with fail
  go_ret
  exact ⟨rfl, W11.out⟩

theorem walk (hA : AeOk) {A4 A5 : Option Addr} {n4 c4 n5 c5 : Nat} {x4 x5 : List UInt8} (back n : Int) (w : World) (hg : Gl w) (hr4 : Rd w A4 n4 c4 x4) (hr5 : Rd w A5 n5 c5 x5) :
    Calls Tryd.prog 10 #[.slice A4 n4 c4, .slice A5 n5 c5, .int .i64 back, .int .i64 n] w fun e w' => e = .returned (.bool true) ∧ Below w.heap.size w w' := by
  by_cases h : back < 0 ∨ 5 < back ∨ n < 0 ∨ 500 < n
  · exact walk_out hA back n w hg hr4 hr5 h
  · obtain ⟨k, rfl⟩ := Int.eq_ofNat_of_zero_le (show 0 ≤ back by omega)
    obtain ⟨m, rfl⟩ := Int.eq_ofNat_of_zero_le (show 0 ≤ n by omega)
    exact walkIn hA k m w hg hr4 hr5 (by omega) (by omega)
end Go.Proofs.YtknpngeaodlmhaaDoor.chachaRound
