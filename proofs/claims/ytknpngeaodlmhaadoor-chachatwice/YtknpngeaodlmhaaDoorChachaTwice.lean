/- The walk of ChachaTwice. -/
import Derived.Test.YtknpngeaodlmhaaDoorBegun4
import Derived.Test.YtknpngeaodlmhaaDoorGcha
import Derived.Test.YtknpngeaodlmhaaDoorGrow
import Derived.Deep.RegionHeld
namespace Go.Proofs.YtknpngeaodlmhaaDoor.chachaTwice
set_option linter.unusedVariables false
set_option linter.unusedSimpArgs false
open Go.RowKit

theorem load_yields {P : Program} {a : Act} {o : Oper} {ty : TypeId} {x : Operand} {v u : Value} {w : World} (ho : o.op = .load ty x) (hx : a.eval x = v) (h : (Instr.loadAt ty v).run P w = .ok u w) : (execOp a.eval o).run P w = .ok (.value u) w := by
  simp [execOp, ho, hx, h]

theorem cut0 {W : World} {A : Option Addr} {n c k : Nat} {l : List UInt8} (h : Rd W A n c l) (hk : k ≤ n) : Rd W (cutA A c 0) k c (l.take k) := by
  have := h.cut (k := 0) (e := k) (by omega) hk
  simp only [List.drop_zero, Nat.sub_zero] at this
  exact this
theorem cutD {W : World} {A : Option Addr} {n c k : Nat} {l : List UInt8} (h : Rd W A n c l) (hk : k ≤ n) : Rd W (cutA A c k) (n - k) (c - k) (l.drop k) := by
  have := h.cut (k := k) (e := n) hk (Nat.le_refl _)
  rw [List.take_of_length_le (by rw [List.length_drop, h.len]; omega)] at this
  exact this
theorem ctr_bounds (a : Int) (q : Nat) : 0 ≤ Cha.ctrAt a q ∧ Cha.ctrAt a q < 4294967296 := by unfold Cha.ctrAt; rw [IntKind.wrap_u32']; omega

set_option maxRecDepth 100000 in
set_option maxHeartbeats 4000000 in
theorem walk (hA : AeOk) {A4 A5 A6 : Option Addr} {n4 c4 n5 c5 n6 c6 : Nat} {x4 x5 x6 : List UInt8} (a cut : Int) (w : World) (hg : Gl w) (ha0 : 0 ≤ a) (ha1 : a < 4294967296) (hr4 : Rd w A4 n4 c4 x4) (hr5 : Rd w A5 n5 c5 x5) (hr6 : Rd w A6 n6 c6 x6) :
    Calls Tryd.prog 4 #[.int .u32 a, .slice A4 n4 c4, .slice A5 n5 c5, .slice A6 n6 c6, .int .i64 cut] w fun e w' => e = .returned (.bool true) ∧ Below w.heap.size w w' := by
  have HG := Lib.hid hg
  have hsz := hg.size
  have R4 := Lib.hid hr4
  have R5 := Lib.hid hr5
  have R6 := Lib.hid hr6
  clear hg hr4 hr5 hr6
  go_enter Tryd.func4, Tryd.ntmps4
  go_wp2_with (first | (go_at_call 14; refine (begun4_any hA HG.out).mono ?_; rintro e w1 ⟨rfl, HB⟩; have W1 := Lib.hid HB; clear HB))
  refine (short_any 200 (R6.out.below W1.out) (by omega)).mono ?_
  rintro e w' ⟨A2, n2, c2, rfl, hr2, rfl⟩
  have R22 := Lib.hid hr2
  have hc2 := hr2.cap
  have hl2 : n2 ≤ 200 := by rw [← hr2.len, List.length_take]; omega
  clear hr2 R6
  obtain ⟨l2, hl2e⟩ : ∃ l, l = x6.take 200 := ⟨_, rfl⟩
  rw [← hl2e] at R22
  clear hl2e
  have NL := Lib.hid R22.out.len
  have W2 := W1
  have K2 := Lib.hid (R4.out.below W2.out)
  have N2 := Lib.hid (R5.out.below W2.out)
  clear W1 R4 R5
  go_wp2_with fail
  refine (key_any K2.out).mono ?_
  rintro e w3 ⟨rfl, hX⟩
  have W3 := Lib.hid (W2.out.trans (hX.mono W2.out.size))
  have R3 := Lib.hid (R22.out.below hX)
  have N3 := Lib.hid (N2.out.below hX)
  obtain ⟨key, hkey⟩ : ∃ k, k = padTo 32 x4 := ⟨_, rfl⟩
  rw [← hkey]
  have LK : Hid (key.length = 32) := by unfold Hid; rw [hkey, padTo_length]
  clear hX hkey K2 N2 R22 W2
  go_wp2_with fail
  refine (nonce_any N3.out).mono ?_
  rintro e w4 ⟨rfl, hX⟩
  have W4 := Lib.hid (W3.out.trans (hX.mono W3.out.size))
  have R4' := Lib.hid (R3.out.below hX)
  obtain ⟨nonce, hnon⟩ : ∃ k, k = padTo 12 x5 := ⟨_, rfl⟩
  rw [← hnon]
  have LN : Hid (nonce.length = 12) := by unfold Hid; rw [hnon, padTo_length]
  obtain ⟨kc, hkc⟩ : ∃ c, c = key.map cellOf := ⟨_, rfl⟩
  obtain ⟨nc, hnc⟩ : ∃ c, c = nonce.map cellOf := ⟨_, rfl⟩
  rw [← hkc, ← hnc]
  have CX := Lib.hid (fun (ctr : Int) (h0 : 0 ≤ ctr) (h1 : ctr < 4294967296) (A : Option Addr) (n c : Nat) (l : List UInt8) (hn : n ≤ 200) (W : World) (h : Rd W A n c l) => cxor_any key nonce ctr h (by omega) LK.out LN.out h0 h1)
  rw [← hkc, ← hnc] at CX
  have hkl : kc.length = 32 := by rw [hkc, List.length_map, LK.out]
  have hnl : nc.length = 12 := by rw [hnc, List.length_map, LN.out]
  have IK : Hid ((Tryd.prog.info? 28).map (·.size) = some kc.length) := by unfold Hid; rw [hkl]; kernel_rfl
  have IN : Hid ((Tryd.prog.info? 30).map (·.size) = some nc.length) := by unfold Hid; rw [hnl]; kernel_rfl
  have ZK : Hid ((List.replicate 32 (Value.int .u8 0)).length = kc.length) := by unfold Hid; rw [hkl]; rfl
  have ZN : Hid ((List.replicate 12 (Value.int .u8 0)).length = nc.length) := by unfold Hid; rw [hnl]; rfl
  have OK' : Hid (∀ v ∈ kc, v.oneCell' = true) := by unfold Hid; rw [hkc]; exact cells_u8 _
  have ON' : Hid (∀ v ∈ nc, v.oneCell' = true) := by unfold Hid; rw [hnc]; exact cells_u8 _
  clear hX hnon hkc hnc hkl hnl N3 R3 W3
  go_upto_region 6 with (first
    | ((with_reducible refine storeAll_law rfl 28 (.tmp 12) (.tmp 22) rfl w4.heap.size rfl kc rfl 28 (List.replicate 32 (.int .u8 0)) ?_ IK.out ZK.out OK'.out ?_); exact (Blk.at_new _ _ 28 _ _ (by rfl) rfl).alloc _)
    | ((with_reducible refine storeAll_law rfl 30 (.tmp 13) (.tmp 24) rfl (w4.heap.size + 1) rfl nc rfl 30 (List.replicate 12 (.int .u8 0)) ?_ IN.out ZN.out ON'.out ?_); exact (Blk.at_new _ _ 30 _ _ (by rfl) (by simp)).rowFar (by simp) _))
  obtain ⟨u4, hu4⟩ : ∃ u, u = (w4.alloc (.cells (List.replicate 32 (.int .u8 0)).toArray 28)).alloc (.cells (List.replicate 12 (.int .u8 0)).toArray 30) := ⟨_, rfl⟩
  have U0 : Blk u4 w4.heap.size 28 (List.replicate 32 (.int .u8 0)) := by rw [hu4]; exact (Blk.new w4 28 _).alloc _
  have U1 : Blk u4 (w4.heap.size + 1) 30 (List.replicate 12 (.int .u8 0)) := by rw [hu4]; exact Blk.at_new _ _ 30 _ _ rfl (by simp)
  have UX : Below w4.heap.size w4 u4 := by rw [hu4]; exact ((Below.refl _ _).alloc (Nat.le_refl _) _).alloc (by simp) _
  have K5 : Hid (Blk ((u4.setRow w4.heap.size kc.toArray).setRow (w4.heap.size + 1) nc.toArray) w4.heap.size 28 kc) := (Blk.row U0).rowFar (by simp) _
  have N5 : Hid (Blk ((u4.setRow w4.heap.size kc.toArray).setRow (w4.heap.size + 1) nc.toArray) (w4.heap.size + 1) 30 nc) := Blk.row (U1.rowFar (by simp) _)
  have X5 : Hid (Below w4.heap.size w4 ((u4.setRow w4.heap.size kc.toArray).setRow (w4.heap.size + 1) nc.toArray)) := below_setRow (below_setRow UX (Nat.le_refl _) _) (by omega) _
  clear U0 U1 UX
  change Code.wp _ _ _ _ ((((w4.alloc (.cells (List.replicate 32 (.int .u8 0)).toArray 28)).alloc (.cells (List.replicate 12 (.int .u8 0)).toArray 30)).setRow w4.heap.size kc.toArray).setRow (w4.heap.size + 1) nc.toArray)
  rw [← hu4]
  clear hu4
  obtain ⟨gn, hgn⟩ : ∃ g, g = w4.heap.size + 1 := ⟨_, rfl⟩
  obtain ⟨gk, hgk⟩ : ∃ g, g = w4.heap.size := ⟨_, rfl⟩
  rw [← hgn] at K5 N5 X5
  rw [← hgn]
  generalize (u4.setRow w4.heap.size kc.toArray).setRow gn nc.toArray = w5 at *
  rw [← hgk] at K5
  rw [← hgk]
  clear hgn hgk
  have W5 := Lib.hid (W4.out.trans (X5.out.mono W4.out.size))
  have R5 := Lib.hid (R4'.out.below X5.out)
  clear X5 W4 R4' ZK OK' ZN ON' LK LN
  have HS : Hid (∀ W, Blk W gk 28 kc → Blk W gn 30 nc → (Instr.loadAt 28 (.pointer (some ⟨gk, 0, none⟩))).run Tryd.prog W = .ok (.agg kc.toArray) W ∧ (Instr.loadAt 30 (.pointer (some ⟨gn, 0, none⟩))).run Tryd.prog W = .ok (.agg nc.toArray) W) := fun W h1 h2 =>
    ⟨run_loadAt_list W 28 gk 0 kc _ Tryd.underlying28 rfl IK.out h1.cells, run_loadAt_list W 30 gn 0 nc _ Tryd.underlying30 rfl IN.out h2.cells⟩
  go_wp2_with (first
    | ((with_reducible refine load_law rfl 28 (.tmp 12) rfl gk 0 rfl kc _ Tryd.underlying28 rfl IK.out K5.out.cells ?_))
    | ((with_reducible refine load_law rfl 30 (.tmp 13) rfl gn 0 rfl nc _ Tryd.underlying30 rfl IN.out N5.out.cells ?_)))
  refine (CX.out a ha0 ha1 A2 n2 c2 l2 hl2 w5 R5.out).mono ?_
  rintro e w6 ⟨gx, rfl, hE, _, hX⟩
  obtain ⟨XL, hXL⟩ : ∃ XL, XL = Cha.xor key a nonce l2 := ⟨_, rfl⟩
  rw [← hXL] at hE
  have HXL := Lib.hid hXL
  have E6 := Lib.hid hE
  have K6 := Lib.hid (K5.out.below hX K5.out.lt)
  have N6 := Lib.hid (N5.out.below hX N5.out.lt)
  have W6 := Lib.hid (W5.out.trans (hX.mono W5.out.size))
  have R6 := Lib.hid (R5.out.below hX)
  clear hE hX hXL K5 N5 W5 R5
  have BACK : Hid (Cha.xor key a nonce XL = l2) := by unfold Hid; rw [HXL.out]; exact Cha.xor_xor key a nonce l2
  go_upto_region 7 with (fail)
  by_cases hc : cut < 0
  · have hd : decide (cut < 0) = true := by simpa using hc
    have K7 : Hid (Blk w6.drew gk 28 kc) := K6.out.drew
    have N7 : Hid (Blk w6.drew gn 30 nc) := N6.out.drew
    have W7 : Hid (Below w.heap.size w w6.drew) := W6.out.drew
    have R7 : Hid (Rd w6.drew A2 n2 c2 l2) := R6.out.drew
    have E7 : Hid (Rd w6.drew (some ⟨gx, 0, none⟩) n2 n2 XL) := E6.out.drew
    have S7 : Hid (∀ W, Blk W gk 28 kc → Blk W gn 30 nc → Rd W A2 n2 c2 l2 → Rd W (some ⟨gx, 0, none⟩) n2 n2 XL → (Instr.loadAt 28 (.pointer (some ⟨gk, 0, none⟩))).run Tryd.prog W = .ok (.agg kc.toArray) W ∧ (Instr.loadAt 30 (.pointer (some ⟨gn, 0, none⟩))).run Tryd.prog W = .ok (.agg nc.toArray) W ∧ (convert 23 9 (.slice A2 n2 c2)).run Tryd.prog W = .ok (.string ⟨l2.toArray⟩) W) := fun W h1 h2 h3 h4 => ⟨(HS.out W h1 h2).1, (HS.out W h1 h2).2, conv_bytes h3⟩
    refine wp_region_held_drew (S := fun W : World => (Instr.loadAt 28 (.pointer (some ⟨gk, 0, none⟩))).run Tryd.prog W = .ok (.agg kc.toArray) W ∧ (Instr.loadAt 30 (.pointer (some ⟨gn, 0, none⟩))).run Tryd.prog W = .ok (.agg nc.toArray) W ∧ (convert 23 9 (.slice A2 n2 c2)).run Tryd.prog W = .ok (.string ⟨l2.toArray⟩) W) (by kernel_rfl) (S7.out _ K7.out N7.out R7.out E7.out) (fun hHeld => ?_)
    clear K6 N6 W6 R6 E6
    generalize w6.drew = w7 at *
    refine wpAnyH_take (i := 0) (oi := ?oi1) (v := .agg kc.toArray) ?hi1 (by kernel_rfl) (by kernel_rfl) (by kernel_rfl) ?hQ1 ?hy1 hHeld ?rest1
    case hi1 => simp only [List.getElem?_toArray, List.getElem?_cons_succ, List.getElem?_cons_zero]; rfl
    case hQ1 => exact fun _ _ _ h => h
    case hy1 => exact Or.inl ⟨by rfl, fun w hSw => load_yields rfl rfl hSw.1⟩
    try simp only [Act.put, List.setIfInBounds_toArray, List.set_cons_zero, List.set_cons_succ]
    refine wpAnyH_take (i := 1) (oi := ?oi2) (v := .int .u32 a) ?hi2 (by kernel_rfl) (by kernel_rfl) (by kernel_rfl) ?hQ2 ?hy2 hHeld ?rest2
    case hi2 => simp only [List.getElem?_toArray, List.getElem?_cons_succ, List.getElem?_cons_zero]; rfl
    case hQ2 => exact fun _ _ _ h => h
    case hy2 => exact Or.inl ⟨by rfl, by intro w hSw; have e1 := hSw.1; have e2 := hSw.2.1; have e3 := hSw.2.2; clear hSw e1 e2; go_simp⟩
    try simp only [Act.put, List.setIfInBounds_toArray, List.set_cons_zero, List.set_cons_succ]
    refine wpAnyH_take (i := 2) (oi := ?oi3) (v := .agg nc.toArray) ?hi3 (by kernel_rfl) (by kernel_rfl) (by kernel_rfl) ?hQ3 ?hy3 hHeld ?rest3
    case hi3 => simp only [List.getElem?_toArray, List.getElem?_cons_succ, List.getElem?_cons_zero]; rfl
    case hQ3 => exact fun _ _ _ h => h
    case hy3 => exact Or.inl ⟨by rfl, fun w hSw => load_yields rfl rfl hSw.2.1⟩
    try simp only [Act.put, List.setIfInBounds_toArray, List.set_cons_zero, List.set_cons_succ]
    refine wpAnyH_take (i := 3) (oi := ?oi4) (v := .slice (some ⟨gx, 0, none⟩) n2 n2) ?hi4 (by kernel_rfl) (by kernel_rfl) (by kernel_rfl) ?hQ4 ?hy4 hHeld ?rest4
    case hi4 => simp only [List.getElem?_toArray, List.getElem?_cons_succ, List.getElem?_cons_zero]; rfl
    case hQ4 => exact fun _ _ _ h => h
    case hy4 => exact Or.inl ⟨by rfl, by intro w hSw; have e1 := hSw.1; have e2 := hSw.2.1; have e3 := hSw.2.2; clear hSw e1 e2; go_simp⟩
    try simp only [Act.put, List.setIfInBounds_toArray, List.set_cons_zero, List.set_cons_succ]
    refine wpAnyH_take (i := 6) (oi := ?oi5) (v := .slice A2 n2 c2) ?hi5 (by kernel_rfl) (by kernel_rfl) (by kernel_rfl) ?hQ5 ?hy5 hHeld ?rest5
    case hi5 => simp only [List.getElem?_toArray, List.getElem?_cons_succ, List.getElem?_cons_zero]; rfl
    case hQ5 => exact fun _ _ _ h => h
    case hy5 => exact Or.inl ⟨by rfl, by intro w hSw; have e1 := hSw.1; have e2 := hSw.2.1; have e3 := hSw.2.2; clear hSw e1 e2; go_simp⟩
    try simp only [Act.put, List.setIfInBounds_toArray, List.set_cons_zero, List.set_cons_succ]
    refine wpAnyH_take (i := 7) (oi := ?oi6) (v := .string ⟨l2.toArray⟩) ?hi6 (by kernel_rfl) (by kernel_rfl) (by kernel_rfl) ?hQ6 ?hy6 hHeld ?rest6
    case hi6 => simp only [List.getElem?_toArray, List.getElem?_cons_succ, List.getElem?_cons_zero]; rfl
    case hQ6 => exact fun _ _ _ h => h
    case hy6 => exact Or.inl ⟨by rfl, by intro w hSw; have e1 := hSw.1; have e2 := hSw.2.1; have e3 := hSw.2.2; clear hSw e1 e2; go_simp⟩
    try simp only [Act.put, List.setIfInBounds_toArray, List.set_cons_zero, List.set_cons_succ]
    refine wpAnyH_ready (rs := [4]) (by kernel_rfl) (by simp) ?_
    refine AllReadyH.cons (o := ?o7) ?ho7 (fun K hK => ?_) AllReadyH.nil
    case ho7 => simp only [List.getElem?_toArray, List.getElem?_cons_succ, List.getElem?_cons_zero]; rfl
    go_simp
    refine (CX.out a ha0 ha1 (some ⟨gx, 0, none⟩) n2 n2 XL hl2 w7 E7.out).mono ?_
    rintro r w8 ⟨g8, rfl, hE, _, hX⟩
    rw [BACK.out] at hE
    have F8 := Lib.hid hE
    have K8 := Lib.hid (K7.out.below hX K7.out.lt)
    have N8 := Lib.hid (N7.out.below hX N7.out.lt)
    have W8 := Lib.hid (W7.out.trans (hX.mono W7.out.size))
    have R8 := Lib.hid (R7.out.below hX)
    have E8 := Lib.hid (E7.out.below hX)
    clear hE hX K7 N7 W7 R7 E7
    refine hK.out _ _ (S7.out _ K8.out N8.out R8.out E8.out) (fun hHeld => ?_)
    clear hK K
    try simp only [Act.put, List.setIfInBounds_toArray, List.set_cons_zero, List.set_cons_succ]
    refine wpAnyH_ready (rs := [5]) (by kernel_rfl) (by simp) ?_
    refine AllReadyH.cons (o := ?o8) ?ho8 (fun K hK => ?_) AllReadyH.nil
    case ho8 => simp only [List.getElem?_toArray, List.getElem?_cons_succ, List.getElem?_cons_zero]; rfl
    have hcv := conv_bytes F8.out
    go_simp
    clear hcv
    refine hK.out _ _ (S7.out _ K8.out N8.out R8.out E8.out) (fun hHeld => ?_)
    clear hK K
    try simp only [Act.put, List.setIfInBounds_toArray, List.set_cons_zero, List.set_cons_succ]
    refine wpAnyH_take (i := 8) (oi := ?oi9) (v := .bool false) ?hi9 (by kernel_rfl) (by kernel_rfl) (by kernel_rfl) ?hQ9 ?hy9 hHeld ?rest9
    case hi9 => simp only [List.getElem?_toArray, List.getElem?_cons_succ, List.getElem?_cons_zero]; rfl
    case hQ9 => exact fun _ _ _ h => h
    case hy9 => exact Or.inl ⟨by rfl, by intro w hSw; have e1 := hSw.1; have e2 := hSw.2.1; have e3 := hSw.2.2; clear hSw e1 e2; go_simp⟩
    try simp only [Act.put, List.setIfInBounds_toArray, List.set_cons_zero, List.set_cons_succ]
    refine wpAnyH_take (i := 9) (oi := ?oi10) (v := .bool false) ?hi10 (by kernel_rfl) (by kernel_rfl) (by kernel_rfl) ?hQ10 ?hy10 hHeld ?rest10
    case hi10 => simp only [List.getElem?_toArray, List.getElem?_cons_succ, List.getElem?_cons_zero]; rfl
    case hQ10 => exact fun _ _ _ h => h
    case hy10 => exact Or.inl ⟨by rfl, by intro w hSw; have e1 := hSw.1; have e2 := hSw.2.1; have e3 := hSw.2.2; clear hSw e1 e2; go_simp⟩
    try simp only [Act.put, List.setIfInBounds_toArray, List.set_cons_zero, List.set_cons_succ]
    refine wpAnyH_take (i := 10) (oi := ?oi11) (v := .slice (some ⟨gx, 0, none⟩) n2 n2) ?hi11 (by kernel_rfl) (by kernel_rfl) (by kernel_rfl) ?hQ11 ?hy11 hHeld ?rest11
    case hi11 => simp only [List.getElem?_toArray, List.getElem?_cons_succ, List.getElem?_cons_zero]; rfl
    case hQ11 => exact fun _ _ _ h => h
    case hy11 => exact Or.inl ⟨by rfl, by intro w hSw; have e1 := hSw.1; have e2 := hSw.2.1; have e3 := hSw.2.2; clear hSw e1 e2; go_simp⟩
    try simp only [Act.put, List.setIfInBounds_toArray, List.set_cons_zero, List.set_cons_succ]
    refine wpAnyH_take (i := 11) (oi := ?oi12) (v := .int .i64 (n2 : Int)) ?hi12 (by kernel_rfl) (by kernel_rfl) (by kernel_rfl) ?hQ12 ?hy12 hHeld ?rest12
    case hi12 => simp only [List.getElem?_toArray, List.getElem?_cons_succ, List.getElem?_cons_zero]; rfl
    case hQ12 => exact fun _ _ _ h => h
    case hy12 => exact Or.inl ⟨by rfl, by intro w hSw; have e1 := hSw.1; have e2 := hSw.2.1; have e3 := hSw.2.2; clear hSw e1 e2; go_simp⟩
    try simp only [Act.put, List.setIfInBounds_toArray, List.set_cons_zero, List.set_cons_succ]
    refine wpAnyH_take (i := 12) (oi := ?oi13) (v := .slice A2 n2 c2) ?hi13 (by kernel_rfl) (by kernel_rfl) (by kernel_rfl) ?hQ13 ?hy13 hHeld ?rest13
    case hi13 => simp only [List.getElem?_toArray, List.getElem?_cons_succ, List.getElem?_cons_zero]; rfl
    case hQ13 => exact fun _ _ _ h => h
    case hy13 => exact Or.inl ⟨by rfl, by intro w hSw; have e1 := hSw.1; have e2 := hSw.2.1; have e3 := hSw.2.2; clear hSw e1 e2; go_simp⟩
    try simp only [Act.put, List.setIfInBounds_toArray, List.set_cons_zero, List.set_cons_succ]
    refine wpAnyH_take (i := 13) (oi := ?oi14) (v := .int .i64 (n2 : Int)) ?hi14 (by kernel_rfl) (by kernel_rfl) (by kernel_rfl) ?hQ14 ?hy14 hHeld ?rest14
    case hi14 => simp only [List.getElem?_toArray, List.getElem?_cons_succ, List.getElem?_cons_zero]; rfl
    case hQ14 => exact fun _ _ _ h => h
    case hy14 => exact Or.inl ⟨by rfl, by intro w hSw; have e1 := hSw.1; have e2 := hSw.2.1; have e3 := hSw.2.2; clear hSw e1 e2; go_simp⟩
    try simp only [Act.put, List.setIfInBounds_toArray, List.set_cons_zero, List.set_cons_succ]
    refine wpAnyH_take (i := 14) (oi := ?oi15) (v := .bool false) ?hi15 (by kernel_rfl) (by kernel_rfl) (by kernel_rfl) ?hQ15 ?hy15 hHeld ?rest15
    case hi15 => simp only [List.getElem?_toArray, List.getElem?_cons_succ, List.getElem?_cons_zero]; rfl
    case hQ15 => exact fun _ _ _ h => h
    case hy15 => exact Or.inl ⟨by rfl, by intro w hSw; have e1 := hSw.1; have e2 := hSw.2.1; have e3 := hSw.2.2; clear hSw e1 e2; go_simp⟩
    try simp only [Act.put, List.setIfInBounds_toArray, List.set_cons_zero, List.set_cons_succ]
    refine wpAnyH_take (i := 15) (oi := ?oi16) (v := .bool false) ?hi16 (by kernel_rfl) (by kernel_rfl) (by kernel_rfl) ?hQ16 ?hy16 hHeld ?rest16
    case hi16 => simp only [List.getElem?_toArray, List.getElem?_cons_succ, List.getElem?_cons_zero]; rfl
    case hQ16 => exact fun _ _ _ h => h
    case hy16 => exact Or.inl ⟨by rfl, by intro w hSw; have e1 := hSw.1; have e2 := hSw.2.1; have e3 := hSw.2.2; clear hSw e1 e2; go_simp⟩
    try simp only [Act.put, List.setIfInBounds_toArray, List.set_cons_zero, List.set_cons_succ]
    refine wpAnyH_take (i := 16) (oi := ?oi17) (v := .bool false) ?hi17 (by kernel_rfl) (by kernel_rfl) (by kernel_rfl) ?hQ17 ?hy17 hHeld ?rest17
    case hi17 => simp only [List.getElem?_toArray, List.getElem?_cons_succ, List.getElem?_cons_zero]; rfl
    case hQ17 => exact fun _ _ _ h => h
    case hy17 => exact Or.inl ⟨by rfl, by intro w hSw; have e1 := hSw.1; have e2 := hSw.2.1; have e3 := hSw.2.2; clear hSw e1 e2; go_simp⟩
    try simp only [Act.put, List.setIfInBounds_toArray, List.set_cons_zero, List.set_cons_succ]
    refine wpAnyH_take (i := 17) (oi := ?oi18) (v := .int .i64 cut) ?hi18 (by kernel_rfl) (by kernel_rfl) (by kernel_rfl) ?hQ18 ?hy18 hHeld ?rest18
    case hi18 => simp only [List.getElem?_toArray, List.getElem?_cons_succ, List.getElem?_cons_zero]; rfl
    case hQ18 => exact fun _ _ _ h => h
    case hy18 => exact Or.inl ⟨by rfl, by intro w hSw; have e1 := hSw.1; have e2 := hSw.2.1; have e3 := hSw.2.2; clear hSw e1 e2; go_simp⟩
    try simp only [Act.put, List.setIfInBounds_toArray, List.set_cons_zero, List.set_cons_succ]
    refine wpAnyH_take (i := 18) (oi := ?oi19) (v := .bool true) ?hi19 (by kernel_rfl) (by kernel_rfl) (by kernel_rfl) ?hQ19 ?hy19 hHeld ?rest19
    case hi19 => simp only [List.getElem?_toArray, List.getElem?_cons_succ, List.getElem?_cons_zero]; rfl
    case hQ19 => exact fun _ _ _ h => h
    case hy19 => exact Or.inl ⟨by rfl, by intro w hSw; have e1 := hSw.1; have e2 := hSw.2.1; have e3 := hSw.2.2; clear hSw e1 e2; go_simp⟩
    try simp only [Act.put, List.setIfInBounds_toArray, List.set_cons_zero, List.set_cons_succ]
    refine wpAnyH_take (i := 19) (oi := ?oi20) (v := .bool true) ?hi20 (by kernel_rfl) (by kernel_rfl) (by kernel_rfl) ?hQ20 ?hy20 hHeld ?rest20
    case hi20 => simp only [List.getElem?_toArray, List.getElem?_cons_succ, List.getElem?_cons_zero]; rfl
    case hQ20 => exact fun _ _ _ h => h
    case hy20 => exact Or.inl ⟨by rfl, by intro w hSw; have e1 := hSw.1; have e2 := hSw.2.1; have e3 := hSw.2.2; clear hSw e1 e2; go_simp⟩
    try simp only [Act.put, List.setIfInBounds_toArray, List.set_cons_zero, List.set_cons_succ]
    refine wpAnyH_done (by kernel_rfl) ?_ _
    clear hHeld
    go_upto_region 8 with (fail)
    have hnn : ((n2 : Int) == (n2 : Int)) = true := by simp
    have K9 : Hid (Blk w8.drew gk 28 kc) := K8.out.drew
    have N9 : Hid (Blk w8.drew gn 30 nc) := N8.out.drew
    have W9 : Hid (Below w.heap.size w w8.drew) := W8.out.drew
    have R9 : Hid (Rd w8.drew A2 n2 c2 l2) := R8.out.drew
    have E9 : Hid (Rd w8.drew (some ⟨gx, 0, none⟩) n2 n2 XL) := E8.out.drew
    have S9 : Hid (∀ W, Blk W gk 28 kc → Blk W gn 30 nc → Rd W A2 n2 c2 l2 → Rd W (some ⟨gx, 0, none⟩) n2 n2 XL → (Instr.loadAt 28 (.pointer (some ⟨gk, 0, none⟩))).run Tryd.prog W = .ok (.agg kc.toArray) W ∧ (Instr.loadAt 30 (.pointer (some ⟨gn, 0, none⟩))).run Tryd.prog W = .ok (.agg nc.toArray) W ∧ (convert 23 9 (.slice A2 n2 c2)).run Tryd.prog W = .ok (.string ⟨l2.toArray⟩) W) := fun W h1 h2 h3 h4 => ⟨(HS.out W h1 h2).1, (HS.out W h1 h2).2, conv_bytes h3⟩
    refine wp_region_held_drew (S := fun W : World => (Instr.loadAt 28 (.pointer (some ⟨gk, 0, none⟩))).run Tryd.prog W = .ok (.agg kc.toArray) W ∧ (Instr.loadAt 30 (.pointer (some ⟨gn, 0, none⟩))).run Tryd.prog W = .ok (.agg nc.toArray) W ∧ (convert 23 9 (.slice A2 n2 c2)).run Tryd.prog W = .ok (.string ⟨l2.toArray⟩) W) (by kernel_rfl) (S9.out _ K9.out N9.out R9.out E9.out) (fun hHeld => ?_)
    clear K8 N8 W8 R8 E8
    generalize w8.drew = w9 at *
    refine wpAnyH_take (i := 0) (oi := ?oi21) (v := .slice (some ⟨gx, 0, none⟩) n2 n2) ?hi21 (by kernel_rfl) (by kernel_rfl) (by kernel_rfl) ?hQ21 ?hy21 hHeld ?rest21
    case hi21 => simp only [List.getElem?_toArray, List.getElem?_cons_succ, List.getElem?_cons_zero]; rfl
    case hQ21 => exact fun _ _ _ h => h
    case hy21 => exact Or.inl ⟨by rfl, by intro w hSw; have e1 := hSw.1; have e2 := hSw.2.1; have e3 := hSw.2.2; clear hSw e1 e2; go_simp⟩
    try simp only [Act.put, List.setIfInBounds_toArray, List.set_cons_zero, List.set_cons_succ]
    refine wpAnyH_take (i := 1) (oi := ?oi22) (v := .int .i64 (n2 : Int)) ?hi22 (by kernel_rfl) (by kernel_rfl) (by kernel_rfl) ?hQ22 ?hy22 hHeld ?rest22
    case hi22 => simp only [List.getElem?_toArray, List.getElem?_cons_succ, List.getElem?_cons_zero]; rfl
    case hQ22 => exact fun _ _ _ h => h
    case hy22 => exact Or.inl ⟨by rfl, by intro w hSw; have e1 := hSw.1; have e2 := hSw.2.1; have e3 := hSw.2.2; clear hSw e1 e2; go_simp⟩
    try simp only [Act.put, List.setIfInBounds_toArray, List.set_cons_zero, List.set_cons_succ]
    refine wpAnyH_take (i := 2) (oi := ?oi23) (v := .slice A2 n2 c2) ?hi23 (by kernel_rfl) (by kernel_rfl) (by kernel_rfl) ?hQ23 ?hy23 hHeld ?rest23
    case hi23 => simp only [List.getElem?_toArray, List.getElem?_cons_succ, List.getElem?_cons_zero]; rfl
    case hQ23 => exact fun _ _ _ h => h
    case hy23 => exact Or.inl ⟨by rfl, by intro w hSw; have e1 := hSw.1; have e2 := hSw.2.1; have e3 := hSw.2.2; clear hSw e1 e2; go_simp⟩
    try simp only [Act.put, List.setIfInBounds_toArray, List.set_cons_zero, List.set_cons_succ]
    refine wpAnyH_take (i := 3) (oi := ?oi24) (v := .int .i64 (n2 : Int)) ?hi24 (by kernel_rfl) (by kernel_rfl) (by kernel_rfl) ?hQ24 ?hy24 hHeld ?rest24
    case hi24 => simp only [List.getElem?_toArray, List.getElem?_cons_succ, List.getElem?_cons_zero]; rfl
    case hQ24 => exact fun _ _ _ h => h
    case hy24 => exact Or.inl ⟨by rfl, by intro w hSw; have e1 := hSw.1; have e2 := hSw.2.1; have e3 := hSw.2.2; clear hSw e1 e2; go_simp⟩
    try simp only [Act.put, List.setIfInBounds_toArray, List.set_cons_zero, List.set_cons_succ]
    refine wpAnyH_take (i := 4) (oi := ?oi25) (v := .bool true) ?hi25 (by kernel_rfl) (by kernel_rfl) (by kernel_rfl) ?hQ25 ?hy25 hHeld ?rest25
    case hi25 => simp only [List.getElem?_toArray, List.getElem?_cons_succ, List.getElem?_cons_zero]; rfl
    case hQ25 => exact fun _ _ _ h => h
    case hy25 => exact Or.inl ⟨by rfl, by intro w hSw; have e1 := hSw.1; have e2 := hSw.2.1; have e3 := hSw.2.2; clear hSw e1 e2; go_simp⟩
    try simp only [Act.put, List.setIfInBounds_toArray, List.set_cons_zero, List.set_cons_succ]
    refine wpAnyH_take (i := 5) (oi := ?oi26) (v := .bool true) ?hi26 (by kernel_rfl) (by kernel_rfl) (by kernel_rfl) ?hQ26 ?hy26 hHeld ?rest26
    case hi26 => simp only [List.getElem?_toArray, List.getElem?_cons_succ, List.getElem?_cons_zero]; rfl
    case hQ26 => exact fun _ _ _ h => h
    case hy26 => exact Or.inl ⟨by rfl, by intro w hSw; have e1 := hSw.1; have e2 := hSw.2.1; have e3 := hSw.2.2; clear hSw e1 e2; go_simp⟩
    try simp only [Act.put, List.setIfInBounds_toArray, List.set_cons_zero, List.set_cons_succ]
    refine wpAnyH_take (i := 6) (oi := ?oi27) (v := .int .i64 cut) ?hi27 (by kernel_rfl) (by kernel_rfl) (by kernel_rfl) ?hQ27 ?hy27 hHeld ?rest27
    case hi27 => simp only [List.getElem?_toArray, List.getElem?_cons_succ, List.getElem?_cons_zero]; rfl
    case hQ27 => exact fun _ _ _ h => h
    case hy27 => exact Or.inl ⟨by rfl, by intro w hSw; have e1 := hSw.1; have e2 := hSw.2.1; have e3 := hSw.2.2; clear hSw e1 e2; go_simp⟩
    try simp only [Act.put, List.setIfInBounds_toArray, List.set_cons_zero, List.set_cons_succ]
    refine wpAnyH_take (i := 7) (oi := ?oi28) (v := .bool true) ?hi28 (by kernel_rfl) (by kernel_rfl) (by kernel_rfl) ?hQ28 ?hy28 hHeld ?rest28
    case hi28 => simp only [List.getElem?_toArray, List.getElem?_cons_succ, List.getElem?_cons_zero]; rfl
    case hQ28 => exact fun _ _ _ h => h
    case hy28 => exact Or.inl ⟨by rfl, by intro w hSw; have e1 := hSw.1; have e2 := hSw.2.1; have e3 := hSw.2.2; clear hSw e1 e2; go_simp⟩
    try simp only [Act.put, List.setIfInBounds_toArray, List.set_cons_zero, List.set_cons_succ]
    refine wpAnyH_take (i := 8) (oi := ?oi29) (v := .bool true) ?hi29 (by kernel_rfl) (by kernel_rfl) (by kernel_rfl) ?hQ29 ?hy29 hHeld ?rest29
    case hi29 => simp only [List.getElem?_toArray, List.getElem?_cons_succ, List.getElem?_cons_zero]; rfl
    case hQ29 => exact fun _ _ _ h => h
    case hy29 => exact Or.inl ⟨by rfl, by intro w hSw; have e1 := hSw.1; have e2 := hSw.2.1; have e3 := hSw.2.2; clear hSw e1 e2; go_simp⟩
    try simp only [Act.put, List.setIfInBounds_toArray, List.set_cons_zero, List.set_cons_succ]
    refine wpAnyH_take (i := 9) (oi := ?oi30) (v := .bool true) ?hi30 (by kernel_rfl) (by kernel_rfl) (by kernel_rfl) ?hQ30 ?hy30 hHeld ?rest30
    case hi30 => simp only [List.getElem?_toArray, List.getElem?_cons_succ, List.getElem?_cons_zero]; rfl
    case hQ30 => exact fun _ _ _ h => h
    case hy30 => exact Or.inl ⟨by rfl, by intro w hSw; have e1 := hSw.1; have e2 := hSw.2.1; have e3 := hSw.2.2; clear hSw e1 e2; go_simp⟩
    try simp only [Act.put, List.setIfInBounds_toArray, List.set_cons_zero, List.set_cons_succ]
    refine wpAnyH_take (i := 10) (oi := ?oi31) (v := .agg kc.toArray) ?hi31 (by kernel_rfl) (by kernel_rfl) (by kernel_rfl) ?hQ31 ?hy31 hHeld ?rest31
    case hi31 => simp only [List.getElem?_toArray, List.getElem?_cons_succ, List.getElem?_cons_zero]; rfl
    case hQ31 => exact fun _ _ _ h => h
    case hy31 => exact Or.inl ⟨by rfl, fun w hSw => load_yields rfl rfl hSw.1⟩
    try simp only [Act.put, List.setIfInBounds_toArray, List.set_cons_zero, List.set_cons_succ]
    refine wpAnyH_take (i := 11) (oi := ?oi32) (v := .int .u32 a) ?hi32 (by kernel_rfl) (by kernel_rfl) (by kernel_rfl) ?hQ32 ?hy32 hHeld ?rest32
    case hi32 => simp only [List.getElem?_toArray, List.getElem?_cons_succ, List.getElem?_cons_zero]; rfl
    case hQ32 => exact fun _ _ _ h => h
    case hy32 => exact Or.inl ⟨by rfl, by intro w hSw; have e1 := hSw.1; have e2 := hSw.2.1; have e3 := hSw.2.2; clear hSw e1 e2; go_simp⟩
    try simp only [Act.put, List.setIfInBounds_toArray, List.set_cons_zero, List.set_cons_succ]
    refine wpAnyH_take (i := 12) (oi := ?oi33) (v := .agg nc.toArray) ?hi33 (by kernel_rfl) (by kernel_rfl) (by kernel_rfl) ?hQ33 ?hy33 hHeld ?rest33
    case hi33 => simp only [List.getElem?_toArray, List.getElem?_cons_succ, List.getElem?_cons_zero]; rfl
    case hQ33 => exact fun _ _ _ h => h
    case hy33 => exact Or.inl ⟨by rfl, fun w hSw => load_yields rfl rfl hSw.2.1⟩
    try simp only [Act.put, List.setIfInBounds_toArray, List.set_cons_zero, List.set_cons_succ]
    refine wpAnyH_take (i := 13) (oi := ?oi34) (v := .slice (some ⟨gx, 0, none⟩) n2 n2) ?hi34 (by kernel_rfl) (by kernel_rfl) (by kernel_rfl) ?hQ34 ?hy34 hHeld ?rest34
    case hi34 => simp only [List.getElem?_toArray, List.getElem?_cons_succ, List.getElem?_cons_zero]; rfl
    case hQ34 => exact fun _ _ _ h => h
    case hy34 => exact Or.inl ⟨by rfl, by intro w hSw; have e1 := hSw.1; have e2 := hSw.2.1; have e3 := hSw.2.2; clear hSw e1 e2; go_simp⟩
    try simp only [Act.put, List.setIfInBounds_toArray, List.set_cons_zero, List.set_cons_succ]
    refine wpAnyH_take (i := 16) (oi := ?oi35) (v := .slice A2 n2 c2) ?hi35 (by kernel_rfl) (by kernel_rfl) (by kernel_rfl) ?hQ35 ?hy35 hHeld ?rest35
    case hi35 => simp only [List.getElem?_toArray, List.getElem?_cons_succ, List.getElem?_cons_zero]; rfl
    case hQ35 => exact fun _ _ _ h => h
    case hy35 => exact Or.inl ⟨by rfl, by intro w hSw; have e1 := hSw.1; have e2 := hSw.2.1; have e3 := hSw.2.2; clear hSw e1 e2; go_simp⟩
    try simp only [Act.put, List.setIfInBounds_toArray, List.set_cons_zero, List.set_cons_succ]
    refine wpAnyH_take (i := 17) (oi := ?oi36) (v := .string ⟨l2.toArray⟩) ?hi36 (by kernel_rfl) (by kernel_rfl) (by kernel_rfl) ?hQ36 ?hy36 hHeld ?rest36
    case hi36 => simp only [List.getElem?_toArray, List.getElem?_cons_succ, List.getElem?_cons_zero]; rfl
    case hQ36 => exact fun _ _ _ h => h
    case hy36 => exact Or.inl ⟨by rfl, by intro w hSw; have e1 := hSw.1; have e2 := hSw.2.1; have e3 := hSw.2.2; clear hSw e1 e2; go_simp⟩
    try simp only [Act.put, List.setIfInBounds_toArray, List.set_cons_zero, List.set_cons_succ]
    refine wpAnyH_ready (rs := [14]) (by kernel_rfl) (by simp) ?_
    refine AllReadyH.cons (o := ?o37) ?ho37 (fun K hK => ?_) AllReadyH.nil
    case ho37 => simp only [List.getElem?_toArray, List.getElem?_cons_succ, List.getElem?_cons_zero]; rfl
    go_simp
    refine (CX.out a ha0 ha1 (some ⟨gx, 0, none⟩) n2 n2 XL hl2 w9 E9.out).mono ?_
    rintro r w10 ⟨g10, rfl, hE, _, hX⟩
    rw [BACK.out] at hE
    have F10 := Lib.hid hE
    have K10 := Lib.hid (K9.out.below hX K9.out.lt)
    have N10 := Lib.hid (N9.out.below hX N9.out.lt)
    have W10 := Lib.hid (W9.out.trans (hX.mono W9.out.size))
    have R10 := Lib.hid (R9.out.below hX)
    have E10 := Lib.hid (E9.out.below hX)
    clear hE hX K9 N9 W9 R9 E9
    refine hK.out _ _ (S9.out _ K10.out N10.out R10.out E10.out) (fun hHeld => ?_)
    clear hK K
    try simp only [Act.put, List.setIfInBounds_toArray, List.set_cons_zero, List.set_cons_succ]
    refine wpAnyH_ready (rs := [15]) (by kernel_rfl) (by simp) ?_
    refine AllReadyH.cons (o := ?o38) ?ho38 (fun K hK => ?_) AllReadyH.nil
    case ho38 => simp only [List.getElem?_toArray, List.getElem?_cons_succ, List.getElem?_cons_zero]; rfl
    have hcv := conv_bytes F10.out
    go_simp
    clear hcv
    refine hK.out _ _ (S9.out _ K10.out N10.out R10.out E10.out) (fun hHeld => ?_)
    clear hK K
    try simp only [Act.put, List.setIfInBounds_toArray, List.set_cons_zero, List.set_cons_succ]
    refine wpAnyH_take (i := 18) (oi := ?oi39) (v := .bool true) ?hi39 (by kernel_rfl) (by kernel_rfl) (by kernel_rfl) ?hQ39 ?hy39 hHeld ?rest39
    case hi39 => simp only [List.getElem?_toArray, List.getElem?_cons_succ, List.getElem?_cons_zero]; rfl
    case hQ39 => exact fun _ _ _ h => h
    case hy39 => exact Or.inl ⟨by rfl, by intro w hSw; have e1 := hSw.1; have e2 := hSw.2.1; have e3 := hSw.2.2; clear hSw e1 e2; go_simp⟩
    try simp only [Act.put, List.setIfInBounds_toArray, List.set_cons_zero, List.set_cons_succ]
    refine wpAnyH_take (i := 19) (oi := ?oi40) (v := .bool true) ?hi40 (by kernel_rfl) (by kernel_rfl) (by kernel_rfl) ?hQ40 ?hy40 hHeld ?rest40
    case hi40 => simp only [List.getElem?_toArray, List.getElem?_cons_succ, List.getElem?_cons_zero]; rfl
    case hQ40 => exact fun _ _ _ h => h
    case hy40 => exact Or.inl ⟨by rfl, by intro w hSw; have e1 := hSw.1; have e2 := hSw.2.1; have e3 := hSw.2.2; clear hSw e1 e2; go_simp⟩
    try simp only [Act.put, List.setIfInBounds_toArray, List.set_cons_zero, List.set_cons_succ]
    refine wpAnyH_take (i := 20) (oi := ?oi41) (v := .bool true) ?hi41 (by kernel_rfl) (by kernel_rfl) (by kernel_rfl) ?hQ41 ?hy41 hHeld ?rest41
    case hi41 => simp only [List.getElem?_toArray, List.getElem?_cons_succ, List.getElem?_cons_zero]; rfl
    case hQ41 => exact fun _ _ _ h => h
    case hy41 => exact Or.inl ⟨by rfl, by intro w hSw; have e1 := hSw.1; have e2 := hSw.2.1; have e3 := hSw.2.2; clear hSw e1 e2; go_simp⟩
    try simp only [Act.put, List.setIfInBounds_toArray, List.set_cons_zero, List.set_cons_succ]
    refine wpAnyH_done (by kernel_rfl) ?_ _
    clear hHeld
    go_wp2_with fail
    go_ret
    exact ⟨rfl, W10.out⟩
  have hd : decide (cut < 0) = false := by simpa using hc
  have K7 : Hid (Blk w6.drew gk 28 kc) := K6.out.drew
  have N7 : Hid (Blk w6.drew gn 30 nc) := N6.out.drew
  have W7 : Hid (Below w.heap.size w w6.drew) := W6.out.drew
  have R7 : Hid (Rd w6.drew A2 n2 c2 l2) := R6.out.drew
  have E7 : Hid (Rd w6.drew (some ⟨gx, 0, none⟩) n2 n2 XL) := E6.out.drew
  have S7 : Hid (∀ W, Blk W gk 28 kc → Blk W gn 30 nc → Rd W A2 n2 c2 l2 → Rd W (some ⟨gx, 0, none⟩) n2 n2 XL → (Instr.loadAt 28 (.pointer (some ⟨gk, 0, none⟩))).run Tryd.prog W = .ok (.agg kc.toArray) W ∧ (Instr.loadAt 30 (.pointer (some ⟨gn, 0, none⟩))).run Tryd.prog W = .ok (.agg nc.toArray) W ∧ (convert 23 9 (.slice A2 n2 c2)).run Tryd.prog W = .ok (.string ⟨l2.toArray⟩) W) := fun W h1 h2 h3 h4 => ⟨(HS.out W h1 h2).1, (HS.out W h1 h2).2, conv_bytes h3⟩
  refine wp_region_held_drew (S := fun W : World => (Instr.loadAt 28 (.pointer (some ⟨gk, 0, none⟩))).run Tryd.prog W = .ok (.agg kc.toArray) W ∧ (Instr.loadAt 30 (.pointer (some ⟨gn, 0, none⟩))).run Tryd.prog W = .ok (.agg nc.toArray) W ∧ (convert 23 9 (.slice A2 n2 c2)).run Tryd.prog W = .ok (.string ⟨l2.toArray⟩) W) (by kernel_rfl) (S7.out _ K7.out N7.out R7.out E7.out) (fun hHeld => ?_)
  clear K6 N6 W6 R6 E6
  generalize w6.drew = w7 at *
  refine wpAnyH_take (i := 0) (oi := ?oi42) (v := .agg kc.toArray) ?hi42 (by kernel_rfl) (by kernel_rfl) (by kernel_rfl) ?hQ42 ?hy42 hHeld ?rest42
  case hi42 => simp only [List.getElem?_toArray, List.getElem?_cons_succ, List.getElem?_cons_zero]; rfl
  case hQ42 => exact fun _ _ _ h => h
  case hy42 => exact Or.inl ⟨by rfl, fun w hSw => load_yields rfl rfl hSw.1⟩
  try simp only [Act.put, List.setIfInBounds_toArray, List.set_cons_zero, List.set_cons_succ]
  refine wpAnyH_take (i := 1) (oi := ?oi43) (v := .int .u32 a) ?hi43 (by kernel_rfl) (by kernel_rfl) (by kernel_rfl) ?hQ43 ?hy43 hHeld ?rest43
  case hi43 => simp only [List.getElem?_toArray, List.getElem?_cons_succ, List.getElem?_cons_zero]; rfl
  case hQ43 => exact fun _ _ _ h => h
  case hy43 => exact Or.inl ⟨by rfl, by intro w hSw; have e1 := hSw.1; have e2 := hSw.2.1; have e3 := hSw.2.2; clear hSw e1 e2; go_simp⟩
  try simp only [Act.put, List.setIfInBounds_toArray, List.set_cons_zero, List.set_cons_succ]
  refine wpAnyH_take (i := 2) (oi := ?oi44) (v := .agg nc.toArray) ?hi44 (by kernel_rfl) (by kernel_rfl) (by kernel_rfl) ?hQ44 ?hy44 hHeld ?rest44
  case hi44 => simp only [List.getElem?_toArray, List.getElem?_cons_succ, List.getElem?_cons_zero]; rfl
  case hQ44 => exact fun _ _ _ h => h
  case hy44 => exact Or.inl ⟨by rfl, fun w hSw => load_yields rfl rfl hSw.2.1⟩
  try simp only [Act.put, List.setIfInBounds_toArray, List.set_cons_zero, List.set_cons_succ]
  refine wpAnyH_take (i := 3) (oi := ?oi45) (v := .slice (some ⟨gx, 0, none⟩) n2 n2) ?hi45 (by kernel_rfl) (by kernel_rfl) (by kernel_rfl) ?hQ45 ?hy45 hHeld ?rest45
  case hi45 => simp only [List.getElem?_toArray, List.getElem?_cons_succ, List.getElem?_cons_zero]; rfl
  case hQ45 => exact fun _ _ _ h => h
  case hy45 => exact Or.inl ⟨by rfl, by intro w hSw; have e1 := hSw.1; have e2 := hSw.2.1; have e3 := hSw.2.2; clear hSw e1 e2; go_simp⟩
  try simp only [Act.put, List.setIfInBounds_toArray, List.set_cons_zero, List.set_cons_succ]
  refine wpAnyH_take (i := 6) (oi := ?oi46) (v := .slice A2 n2 c2) ?hi46 (by kernel_rfl) (by kernel_rfl) (by kernel_rfl) ?hQ46 ?hy46 hHeld ?rest46
  case hi46 => simp only [List.getElem?_toArray, List.getElem?_cons_succ, List.getElem?_cons_zero]; rfl
  case hQ46 => exact fun _ _ _ h => h
  case hy46 => exact Or.inl ⟨by rfl, by intro w hSw; have e1 := hSw.1; have e2 := hSw.2.1; have e3 := hSw.2.2; clear hSw e1 e2; go_simp⟩
  try simp only [Act.put, List.setIfInBounds_toArray, List.set_cons_zero, List.set_cons_succ]
  refine wpAnyH_take (i := 7) (oi := ?oi47) (v := .string ⟨l2.toArray⟩) ?hi47 (by kernel_rfl) (by kernel_rfl) (by kernel_rfl) ?hQ47 ?hy47 hHeld ?rest47
  case hi47 => simp only [List.getElem?_toArray, List.getElem?_cons_succ, List.getElem?_cons_zero]; rfl
  case hQ47 => exact fun _ _ _ h => h
  case hy47 => exact Or.inl ⟨by rfl, by intro w hSw; have e1 := hSw.1; have e2 := hSw.2.1; have e3 := hSw.2.2; clear hSw e1 e2; go_simp⟩
  try simp only [Act.put, List.setIfInBounds_toArray, List.set_cons_zero, List.set_cons_succ]
  refine wpAnyH_ready (rs := [4]) (by kernel_rfl) (by simp) ?_
  refine AllReadyH.cons (o := ?o48) ?ho48 (fun K hK => ?_) AllReadyH.nil
  case ho48 => simp only [List.getElem?_toArray, List.getElem?_cons_succ, List.getElem?_cons_zero]; rfl
  go_simp
  refine (CX.out a ha0 ha1 (some ⟨gx, 0, none⟩) n2 n2 XL hl2 w7 E7.out).mono ?_
  rintro r w8 ⟨g8, rfl, hE, _, hX⟩
  rw [BACK.out] at hE
  have F8 := Lib.hid hE
  have K8 := Lib.hid (K7.out.below hX K7.out.lt)
  have N8 := Lib.hid (N7.out.below hX N7.out.lt)
  have W8 := Lib.hid (W7.out.trans (hX.mono W7.out.size))
  have R8 := Lib.hid (R7.out.below hX)
  have E8 := Lib.hid (E7.out.below hX)
  clear hE hX K7 N7 W7 R7 E7
  refine hK.out _ _ (S7.out _ K8.out N8.out R8.out E8.out) (fun hHeld => ?_)
  clear hK K
  try simp only [Act.put, List.setIfInBounds_toArray, List.set_cons_zero, List.set_cons_succ]
  refine wpAnyH_ready (rs := [5]) (by kernel_rfl) (by simp) ?_
  refine AllReadyH.cons (o := ?o49) ?ho49 (fun K hK => ?_) AllReadyH.nil
  case ho49 => simp only [List.getElem?_toArray, List.getElem?_cons_succ, List.getElem?_cons_zero]; rfl
  have hcv := conv_bytes F8.out
  go_simp
  clear hcv
  refine hK.out _ _ (S7.out _ K8.out N8.out R8.out E8.out) (fun hHeld => ?_)
  clear hK K
  try simp only [Act.put, List.setIfInBounds_toArray, List.set_cons_zero, List.set_cons_succ]
  refine wpAnyH_take (i := 8) (oi := ?oi50) (v := .bool false) ?hi50 (by kernel_rfl) (by kernel_rfl) (by kernel_rfl) ?hQ50 ?hy50 hHeld ?rest50
  case hi50 => simp only [List.getElem?_toArray, List.getElem?_cons_succ, List.getElem?_cons_zero]; rfl
  case hQ50 => exact fun _ _ _ h => h
  case hy50 => exact Or.inl ⟨by rfl, by intro w hSw; have e1 := hSw.1; have e2 := hSw.2.1; have e3 := hSw.2.2; clear hSw e1 e2; go_simp⟩
  try simp only [Act.put, List.setIfInBounds_toArray, List.set_cons_zero, List.set_cons_succ]
  refine wpAnyH_take (i := 9) (oi := ?oi51) (v := .bool false) ?hi51 (by kernel_rfl) (by kernel_rfl) (by kernel_rfl) ?hQ51 ?hy51 hHeld ?rest51
  case hi51 => simp only [List.getElem?_toArray, List.getElem?_cons_succ, List.getElem?_cons_zero]; rfl
  case hQ51 => exact fun _ _ _ h => h
  case hy51 => exact Or.inl ⟨by rfl, by intro w hSw; have e1 := hSw.1; have e2 := hSw.2.1; have e3 := hSw.2.2; clear hSw e1 e2; go_simp⟩
  try simp only [Act.put, List.setIfInBounds_toArray, List.set_cons_zero, List.set_cons_succ]
  refine wpAnyH_take (i := 10) (oi := ?oi52) (v := .slice (some ⟨gx, 0, none⟩) n2 n2) ?hi52 (by kernel_rfl) (by kernel_rfl) (by kernel_rfl) ?hQ52 ?hy52 hHeld ?rest52
  case hi52 => simp only [List.getElem?_toArray, List.getElem?_cons_succ, List.getElem?_cons_zero]; rfl
  case hQ52 => exact fun _ _ _ h => h
  case hy52 => exact Or.inl ⟨by rfl, by intro w hSw; have e1 := hSw.1; have e2 := hSw.2.1; have e3 := hSw.2.2; clear hSw e1 e2; go_simp⟩
  try simp only [Act.put, List.setIfInBounds_toArray, List.set_cons_zero, List.set_cons_succ]
  refine wpAnyH_take (i := 11) (oi := ?oi53) (v := .int .i64 (n2 : Int)) ?hi53 (by kernel_rfl) (by kernel_rfl) (by kernel_rfl) ?hQ53 ?hy53 hHeld ?rest53
  case hi53 => simp only [List.getElem?_toArray, List.getElem?_cons_succ, List.getElem?_cons_zero]; rfl
  case hQ53 => exact fun _ _ _ h => h
  case hy53 => exact Or.inl ⟨by rfl, by intro w hSw; have e1 := hSw.1; have e2 := hSw.2.1; have e3 := hSw.2.2; clear hSw e1 e2; go_simp⟩
  try simp only [Act.put, List.setIfInBounds_toArray, List.set_cons_zero, List.set_cons_succ]
  refine wpAnyH_take (i := 12) (oi := ?oi54) (v := .slice A2 n2 c2) ?hi54 (by kernel_rfl) (by kernel_rfl) (by kernel_rfl) ?hQ54 ?hy54 hHeld ?rest54
  case hi54 => simp only [List.getElem?_toArray, List.getElem?_cons_succ, List.getElem?_cons_zero]; rfl
  case hQ54 => exact fun _ _ _ h => h
  case hy54 => exact Or.inl ⟨by rfl, by intro w hSw; have e1 := hSw.1; have e2 := hSw.2.1; have e3 := hSw.2.2; clear hSw e1 e2; go_simp⟩
  try simp only [Act.put, List.setIfInBounds_toArray, List.set_cons_zero, List.set_cons_succ]
  refine wpAnyH_take (i := 13) (oi := ?oi55) (v := .int .i64 (n2 : Int)) ?hi55 (by kernel_rfl) (by kernel_rfl) (by kernel_rfl) ?hQ55 ?hy55 hHeld ?rest55
  case hi55 => simp only [List.getElem?_toArray, List.getElem?_cons_succ, List.getElem?_cons_zero]; rfl
  case hQ55 => exact fun _ _ _ h => h
  case hy55 => exact Or.inl ⟨by rfl, by intro w hSw; have e1 := hSw.1; have e2 := hSw.2.1; have e3 := hSw.2.2; clear hSw e1 e2; go_simp⟩
  try simp only [Act.put, List.setIfInBounds_toArray, List.set_cons_zero, List.set_cons_succ]
  refine wpAnyH_take (i := 14) (oi := ?oi56) (v := .bool false) ?hi56 (by kernel_rfl) (by kernel_rfl) (by kernel_rfl) ?hQ56 ?hy56 hHeld ?rest56
  case hi56 => simp only [List.getElem?_toArray, List.getElem?_cons_succ, List.getElem?_cons_zero]; rfl
  case hQ56 => exact fun _ _ _ h => h
  case hy56 => exact Or.inl ⟨by rfl, by intro w hSw; have e1 := hSw.1; have e2 := hSw.2.1; have e3 := hSw.2.2; clear hSw e1 e2; go_simp⟩
  try simp only [Act.put, List.setIfInBounds_toArray, List.set_cons_zero, List.set_cons_succ]
  refine wpAnyH_take (i := 15) (oi := ?oi57) (v := .bool false) ?hi57 (by kernel_rfl) (by kernel_rfl) (by kernel_rfl) ?hQ57 ?hy57 hHeld ?rest57
  case hi57 => simp only [List.getElem?_toArray, List.getElem?_cons_succ, List.getElem?_cons_zero]; rfl
  case hQ57 => exact fun _ _ _ h => h
  case hy57 => exact Or.inl ⟨by rfl, by intro w hSw; have e1 := hSw.1; have e2 := hSw.2.1; have e3 := hSw.2.2; clear hSw e1 e2; go_simp⟩
  try simp only [Act.put, List.setIfInBounds_toArray, List.set_cons_zero, List.set_cons_succ]
  refine wpAnyH_take (i := 16) (oi := ?oi58) (v := .bool false) ?hi58 (by kernel_rfl) (by kernel_rfl) (by kernel_rfl) ?hQ58 ?hy58 hHeld ?rest58
  case hi58 => simp only [List.getElem?_toArray, List.getElem?_cons_succ, List.getElem?_cons_zero]; rfl
  case hQ58 => exact fun _ _ _ h => h
  case hy58 => exact Or.inl ⟨by rfl, by intro w hSw; have e1 := hSw.1; have e2 := hSw.2.1; have e3 := hSw.2.2; clear hSw e1 e2; go_simp⟩
  try simp only [Act.put, List.setIfInBounds_toArray, List.set_cons_zero, List.set_cons_succ]
  refine wpAnyH_take (i := 17) (oi := ?oi59) (v := .int .i64 cut) ?hi59 (by kernel_rfl) (by kernel_rfl) (by kernel_rfl) ?hQ59 ?hy59 hHeld ?rest59
  case hi59 => simp only [List.getElem?_toArray, List.getElem?_cons_succ, List.getElem?_cons_zero]; rfl
  case hQ59 => exact fun _ _ _ h => h
  case hy59 => exact Or.inl ⟨by rfl, by intro w hSw; have e1 := hSw.1; have e2 := hSw.2.1; have e3 := hSw.2.2; clear hSw e1 e2; go_simp⟩
  try simp only [Act.put, List.setIfInBounds_toArray, List.set_cons_zero, List.set_cons_succ]
  refine wpAnyH_take (i := 18) (oi := ?oi60) (v := .bool false) ?hi60 (by kernel_rfl) (by kernel_rfl) (by kernel_rfl) ?hQ60 ?hy60 hHeld ?rest60
  case hi60 => simp only [List.getElem?_toArray, List.getElem?_cons_succ, List.getElem?_cons_zero]; rfl
  case hQ60 => exact fun _ _ _ h => h
  case hy60 => exact Or.inl ⟨by rfl, by intro w hSw; have e1 := hSw.1; have e2 := hSw.2.1; have e3 := hSw.2.2; clear hSw e1 e2; go_simp⟩
  try simp only [Act.put, List.setIfInBounds_toArray, List.set_cons_zero, List.set_cons_succ]
  refine wpAnyH_take (i := 19) (oi := ?oi61) (v := .bool false) ?hi61 (by kernel_rfl) (by kernel_rfl) (by kernel_rfl) ?hQ61 ?hy61 hHeld ?rest61
  case hi61 => simp only [List.getElem?_toArray, List.getElem?_cons_succ, List.getElem?_cons_zero]; rfl
  case hQ61 => exact fun _ _ _ h => h
  case hy61 => exact Or.inl ⟨by rfl, by intro w hSw; have e1 := hSw.1; have e2 := hSw.2.1; have e3 := hSw.2.2; clear hSw e1 e2; go_simp⟩
  try simp only [Act.put, List.setIfInBounds_toArray, List.set_cons_zero, List.set_cons_succ]
  refine wpAnyH_done (by kernel_rfl) ?_ _
  clear hHeld
  obtain ⟨k, hk, hkl⟩ : ∃ k : Nat, cut.tmod ((n2 : Int) + 1) = (k : Int) ∧ k ≤ n2 := by
    refine ⟨cut.toNat % (n2 + 1), ?_, by have := Nat.mod_lt cut.toNat (show 0 < n2 + 1 by omega); omega⟩
    obtain ⟨q, rfl⟩ := Int.eq_ofNat_of_zero_le (show 0 ≤ cut by omega)
    have e : ((n2 : Int) + 1) = ((n2 + 1 : Nat) : Int) := by omega
    rw [e]
    rfl
  have hnz : ((n2 : Int) + 1 == 0) = false := by simp; omega
  clear F8
  go_upto_region 10 with (fail)
  clear hk hnz
  have hsx : ∀ W, (Instr.slice 23 (.slice A2 n2 c2) none (some (.int .i64 (k : Int))) none).run Tryd.prog W = .ok (.slice (cutA A2 c2 0) k c2) W := fun W => slice_h _ n2 c2 k (by omega) W
  have hsc : ∀ W, (Instr.slice 23 (.slice (some ⟨gx, 0, none⟩) n2 n2) none (some (.int .i64 (k : Int))) none).run Tryd.prog W = .ok (.slice (cutA (some ⟨gx, 0, none⟩) n2 0) k n2) W := fun W => slice_h _ n2 n2 k (by omega) W
  have K9 : Hid (Blk w8.drew gk 28 kc) := K8.out.drew
  have N9 : Hid (Blk w8.drew gn 30 nc) := N8.out.drew
  have W9 : Hid (Below w.heap.size w w8.drew) := W8.out.drew
  have R9 : Hid (Rd w8.drew A2 n2 c2 l2) := R8.out.drew
  have E9 : Hid (Rd w8.drew (some ⟨gx, 0, none⟩) n2 n2 XL) := E8.out.drew
  have S9 : Hid (∀ W, Blk W gk 28 kc → Blk W gn 30 nc → Rd W A2 n2 c2 l2 → Rd W (some ⟨gx, 0, none⟩) n2 n2 XL → (Instr.loadAt 28 (.pointer (some ⟨gk, 0, none⟩))).run Tryd.prog W = .ok (.agg kc.toArray) W ∧ (Instr.loadAt 30 (.pointer (some ⟨gn, 0, none⟩))).run Tryd.prog W = .ok (.agg nc.toArray) W ∧ (convert 23 9 (.slice (cutA (some ⟨gx, 0, none⟩) n2 0) k n2)).run Tryd.prog W = .ok (.string ⟨(XL.take k).toArray⟩) W) := fun W h1 h2 h3 h4 => ⟨(HS.out W h1 h2).1, (HS.out W h1 h2).2, conv_bytes (cut0 h4 hkl)⟩
  refine wp_region_held_drew (S := fun W : World => (Instr.loadAt 28 (.pointer (some ⟨gk, 0, none⟩))).run Tryd.prog W = .ok (.agg kc.toArray) W ∧ (Instr.loadAt 30 (.pointer (some ⟨gn, 0, none⟩))).run Tryd.prog W = .ok (.agg nc.toArray) W ∧ (convert 23 9 (.slice (cutA (some ⟨gx, 0, none⟩) n2 0) k n2)).run Tryd.prog W = .ok (.string ⟨(XL.take k).toArray⟩) W) (by kernel_rfl) (S9.out _ K9.out N9.out R9.out E9.out) (fun hHeld => ?_)
  clear K8 N8 W8 R8 E8
  generalize w8.drew = w9 at *
  refine wpAnyH_take (i := 0) (oi := ?oi62) (v := .agg kc.toArray) ?hi62 (by kernel_rfl) (by kernel_rfl) (by kernel_rfl) ?hQ62 ?hy62 hHeld ?rest62
  case hi62 => simp only [List.getElem?_toArray, List.getElem?_cons_succ, List.getElem?_cons_zero]; rfl
  case hQ62 => exact fun _ _ _ h => h
  case hy62 => exact Or.inl ⟨by rfl, fun w hSw => load_yields rfl rfl hSw.1⟩
  try simp only [Act.put, List.setIfInBounds_toArray, List.set_cons_zero, List.set_cons_succ]
  refine wpAnyH_take (i := 1) (oi := ?oi63) (v := .int .u32 a) ?hi63 (by kernel_rfl) (by kernel_rfl) (by kernel_rfl) ?hQ63 ?hy63 hHeld ?rest63
  case hi63 => simp only [List.getElem?_toArray, List.getElem?_cons_succ, List.getElem?_cons_zero]; rfl
  case hQ63 => exact fun _ _ _ h => h
  case hy63 => exact Or.inl ⟨by rfl, by intro w hSw; have e1 := hSw.1; have e2 := hSw.2.1; have e3 := hSw.2.2; clear hSw e1 e2; go_simp⟩
  try simp only [Act.put, List.setIfInBounds_toArray, List.set_cons_zero, List.set_cons_succ]
  refine wpAnyH_take (i := 2) (oi := ?oi64) (v := .agg nc.toArray) ?hi64 (by kernel_rfl) (by kernel_rfl) (by kernel_rfl) ?hQ64 ?hy64 hHeld ?rest64
  case hi64 => simp only [List.getElem?_toArray, List.getElem?_cons_succ, List.getElem?_cons_zero]; rfl
  case hQ64 => exact fun _ _ _ h => h
  case hy64 => exact Or.inl ⟨by rfl, fun w hSw => load_yields rfl rfl hSw.2.1⟩
  try simp only [Act.put, List.setIfInBounds_toArray, List.set_cons_zero, List.set_cons_succ]
  refine wpAnyH_take (i := 3) (oi := ?oi65) (v := .slice A2 n2 c2) ?hi65 (by kernel_rfl) (by kernel_rfl) (by kernel_rfl) ?hQ65 ?hy65 hHeld ?rest65
  case hi65 => simp only [List.getElem?_toArray, List.getElem?_cons_succ, List.getElem?_cons_zero]; rfl
  case hQ65 => exact fun _ _ _ h => h
  case hy65 => exact Or.inl ⟨by rfl, by intro w hSw; have e1 := hSw.1; have e2 := hSw.2.1; have e3 := hSw.2.2; clear hSw e1 e2; go_simp⟩
  try simp only [Act.put, List.setIfInBounds_toArray, List.set_cons_zero, List.set_cons_succ]
  refine wpAnyH_take (i := 4) (oi := ?oi66) (v := .int .i64 (k : Int)) ?hi66 (by kernel_rfl) (by kernel_rfl) (by kernel_rfl) ?hQ66 ?hy66 hHeld ?rest66
  case hi66 => simp only [List.getElem?_toArray, List.getElem?_cons_succ, List.getElem?_cons_zero]; rfl
  case hQ66 => exact fun _ _ _ h => h
  case hy66 => exact Or.inl ⟨by rfl, by intro w hSw; have e1 := hSw.1; have e2 := hSw.2.1; have e3 := hSw.2.2; clear hSw e1 e2; go_simp⟩
  try simp only [Act.put, List.setIfInBounds_toArray, List.set_cons_zero, List.set_cons_succ]
  refine wpAnyH_take (i := 5) (oi := ?oi67) (v := .slice (cutA A2 c2 0) k c2) ?hi67 (by kernel_rfl) (by kernel_rfl) (by kernel_rfl) ?hQ67 ?hy67 hHeld ?rest67
  case hi67 => simp only [List.getElem?_toArray, List.getElem?_cons_succ, List.getElem?_cons_zero]; rfl
  case hQ67 => exact fun _ _ _ h => h
  case hy67 => exact Or.inl ⟨by rfl, by intro w hSw; have e1 := hSw.1; have e2 := hSw.2.1; have e3 := hSw.2.2; clear hSw e1 e2; go_simp⟩
  try simp only [Act.put, List.setIfInBounds_toArray, List.set_cons_zero, List.set_cons_succ]
  refine wpAnyH_take (i := 8) (oi := ?oi68) (v := .slice (some ⟨gx, 0, none⟩) n2 n2) ?hi68 (by kernel_rfl) (by kernel_rfl) (by kernel_rfl) ?hQ68 ?hy68 hHeld ?rest68
  case hi68 => simp only [List.getElem?_toArray, List.getElem?_cons_succ, List.getElem?_cons_zero]; rfl
  case hQ68 => exact fun _ _ _ h => h
  case hy68 => exact Or.inl ⟨by rfl, by intro w hSw; have e1 := hSw.1; have e2 := hSw.2.1; have e3 := hSw.2.2; clear hSw e1 e2; go_simp⟩
  try simp only [Act.put, List.setIfInBounds_toArray, List.set_cons_zero, List.set_cons_succ]
  refine wpAnyH_take (i := 9) (oi := ?oi69) (v := .int .i64 (k : Int)) ?hi69 (by kernel_rfl) (by kernel_rfl) (by kernel_rfl) ?hQ69 ?hy69 hHeld ?rest69
  case hi69 => simp only [List.getElem?_toArray, List.getElem?_cons_succ, List.getElem?_cons_zero]; rfl
  case hQ69 => exact fun _ _ _ h => h
  case hy69 => exact Or.inl ⟨by rfl, by intro w hSw; have e1 := hSw.1; have e2 := hSw.2.1; have e3 := hSw.2.2; clear hSw e1 e2; go_simp⟩
  try simp only [Act.put, List.setIfInBounds_toArray, List.set_cons_zero, List.set_cons_succ]
  refine wpAnyH_take (i := 10) (oi := ?oi70) (v := .slice (cutA (some ⟨gx, 0, none⟩) n2 0) k n2) ?hi70 (by kernel_rfl) (by kernel_rfl) (by kernel_rfl) ?hQ70 ?hy70 hHeld ?rest70
  case hi70 => simp only [List.getElem?_toArray, List.getElem?_cons_succ, List.getElem?_cons_zero]; rfl
  case hQ70 => exact fun _ _ _ h => h
  case hy70 => exact Or.inl ⟨by rfl, by intro w hSw; have e1 := hSw.1; have e2 := hSw.2.1; have e3 := hSw.2.2; clear hSw e1 e2; go_simp⟩
  try simp only [Act.put, List.setIfInBounds_toArray, List.set_cons_zero, List.set_cons_succ]
  refine wpAnyH_take (i := 11) (oi := ?oi71) (v := .string ⟨(XL.take k).toArray⟩) ?hi71 (by kernel_rfl) (by kernel_rfl) (by kernel_rfl) ?hQ71 ?hy71 hHeld ?rest71
  case hi71 => simp only [List.getElem?_toArray, List.getElem?_cons_succ, List.getElem?_cons_zero]; rfl
  case hQ71 => exact fun _ _ _ h => h
  case hy71 => exact Or.inl ⟨by rfl, by intro w hSw; have e1 := hSw.1; have e2 := hSw.2.1; have e3 := hSw.2.2; clear hSw e1 e2; go_simp⟩
  try simp only [Act.put, List.setIfInBounds_toArray, List.set_cons_zero, List.set_cons_succ]
  refine wpAnyH_ready (rs := [6]) (by kernel_rfl) (by simp) ?_
  refine AllReadyH.cons (o := ?o72) ?ho72 (fun K hK => ?_) AllReadyH.nil
  case ho72 => simp only [List.getElem?_toArray, List.getElem?_cons_succ, List.getElem?_cons_zero]; rfl
  go_simp
  refine (CX.out a ha0 ha1 (cutA A2 c2 0) k c2 (l2.take k) (by omega) w9 (cut0 R9.out hkl)).mono ?_
  rintro r w10 ⟨g10, rfl, hE, _, hX⟩
  rw [Cha.xor_take, ← HXL.out] at hE
  have F10 := Lib.hid hE
  have K10 := Lib.hid (K9.out.below hX K9.out.lt)
  have N10 := Lib.hid (N9.out.below hX N9.out.lt)
  have W10 := Lib.hid (W9.out.trans (hX.mono W9.out.size))
  have R10 := Lib.hid (R9.out.below hX)
  have E10 := Lib.hid (E9.out.below hX)
  clear hE hX K9 N9 W9 R9 E9
  refine hK.out _ _ (S9.out _ K10.out N10.out R10.out E10.out) (fun hHeld => ?_)
  clear hK K
  try simp only [Act.put, List.setIfInBounds_toArray, List.set_cons_zero, List.set_cons_succ]
  refine wpAnyH_ready (rs := [7]) (by kernel_rfl) (by simp) ?_
  refine AllReadyH.cons (o := ?o73) ?ho73 (fun K hK => ?_) AllReadyH.nil
  case ho73 => simp only [List.getElem?_toArray, List.getElem?_cons_succ, List.getElem?_cons_zero]; rfl
  have hcv := conv_bytes F10.out
  go_simp
  clear hcv
  refine hK.out _ _ (S9.out _ K10.out N10.out R10.out E10.out) (fun hHeld => ?_)
  clear hK K
  try simp only [Act.put, List.setIfInBounds_toArray, List.set_cons_zero, List.set_cons_succ]
  refine wpAnyH_take (i := 12) (oi := ?oi74) (v := .bool false) ?hi74 (by kernel_rfl) (by kernel_rfl) (by kernel_rfl) ?hQ74 ?hy74 hHeld ?rest74
  case hi74 => simp only [List.getElem?_toArray, List.getElem?_cons_succ, List.getElem?_cons_zero]; rfl
  case hQ74 => exact fun _ _ _ h => h
  case hy74 => exact Or.inl ⟨by rfl, by intro w hSw; have e1 := hSw.1; have e2 := hSw.2.1; have e3 := hSw.2.2; clear hSw e1 e2; go_simp⟩
  try simp only [Act.put, List.setIfInBounds_toArray, List.set_cons_zero, List.set_cons_succ]
  refine wpAnyH_done (by kernel_rfl) ?_ _
  clear hHeld hsx hsc F10
  obtain ⟨q, hq⟩ : ∃ q, q = k / 64 := ⟨_, rfl⟩
  have hq1 : (k : Int) / 64 = (q : Int) := by omega
  have hqn : 64 * q ≤ n2 := by omega
  have hq3 : q ≤ 3 := by omega
  have hq2 : (q : Int) * 64 / 64 = (q : Int) := by omega
  clear hq
  go_upto_region 13 with (fail)
  clear hq1
  have hsx : ∀ W, (Instr.slice 23 (.slice A2 n2 c2) (some (.int .i64 ((q : Int) * 64))) none none).run Tryd.prog W = .ok (.slice (cutA A2 c2 (64 * q)) (n2 - 64 * q) (c2 - 64 * q)) W := fun W => by
    have := slice_l A2 n2 c2 (64 * q) hqn W
    rw [show ((64 * q : Nat) : Int) = (q : Int) * 64 by omega] at this
    exact this
  have hsc : ∀ W, (Instr.slice 23 (.slice (some ⟨gx, 0, none⟩) n2 n2) (some (.int .i64 ((q : Int) * 64))) none none).run Tryd.prog W = .ok (.slice (cutA (some ⟨gx, 0, none⟩) n2 (64 * q)) (n2 - 64 * q) (n2 - 64 * q)) W := fun W => by
    have := slice_l (some ⟨gx, 0, none⟩) n2 n2 (64 * q) hqn W
    rw [show ((64 * q : Nat) : Int) = (q : Int) * 64 by omega] at this
    exact this
  have hctr : IntKind.u32.wrap (a + (q : Int)) = Cha.ctrAt a q := rfl
  have hqm : (q : Int) % 4294967296 = (q : Int) := by omega
  have hqw : IntKind.u32.wrap (q : Int) = (q : Int) := by rw [IntKind.wrap_u32']; omega
  have hqi : IntKind.i64.wrap (q : Int) = (q : Int) := by rw [IntKind.wrap_i64]; omega
  have hcb := ctr_bounds a q
  have K11 : Hid (Blk w10.drew gk 28 kc) := K10.out.drew
  have N11 : Hid (Blk w10.drew gn 30 nc) := N10.out.drew
  have W11 : Hid (Below w.heap.size w w10.drew) := W10.out.drew
  have R11 : Hid (Rd w10.drew A2 n2 c2 l2) := R10.out.drew
  have E11 : Hid (Rd w10.drew (some ⟨gx, 0, none⟩) n2 n2 XL) := E10.out.drew
  have S11 : Hid (∀ W, Blk W gk 28 kc → Blk W gn 30 nc → Rd W A2 n2 c2 l2 → Rd W (some ⟨gx, 0, none⟩) n2 n2 XL → (Instr.loadAt 28 (.pointer (some ⟨gk, 0, none⟩))).run Tryd.prog W = .ok (.agg kc.toArray) W ∧ (Instr.loadAt 30 (.pointer (some ⟨gn, 0, none⟩))).run Tryd.prog W = .ok (.agg nc.toArray) W ∧ (convert 23 9 (.slice (cutA (some ⟨gx, 0, none⟩) n2 (64 * q)) (n2 - 64 * q) (n2 - 64 * q))).run Tryd.prog W = .ok (.string ⟨(XL.drop (64 * q)).toArray⟩) W) := fun W h1 h2 h3 h4 => ⟨(HS.out W h1 h2).1, (HS.out W h1 h2).2, conv_bytes (cutD h4 hqn)⟩
  refine wp_region_held_drew (S := fun W : World => (Instr.loadAt 28 (.pointer (some ⟨gk, 0, none⟩))).run Tryd.prog W = .ok (.agg kc.toArray) W ∧ (Instr.loadAt 30 (.pointer (some ⟨gn, 0, none⟩))).run Tryd.prog W = .ok (.agg nc.toArray) W ∧ (convert 23 9 (.slice (cutA (some ⟨gx, 0, none⟩) n2 (64 * q)) (n2 - 64 * q) (n2 - 64 * q))).run Tryd.prog W = .ok (.string ⟨(XL.drop (64 * q)).toArray⟩) W) (by kernel_rfl) (S11.out _ K11.out N11.out R11.out E11.out) (fun hHeld => ?_)
  clear K10 N10 W10 R10 E10
  generalize w10.drew = w11 at *
  refine wpAnyH_take (i := 0) (oi := ?oi75) (v := .agg kc.toArray) ?hi75 (by kernel_rfl) (by kernel_rfl) (by kernel_rfl) ?hQ75 ?hy75 hHeld ?rest75
  case hi75 => simp only [List.getElem?_toArray, List.getElem?_cons_succ, List.getElem?_cons_zero]; rfl
  case hQ75 => exact fun _ _ _ h => h
  case hy75 => exact Or.inl ⟨by rfl, fun w hSw => load_yields rfl rfl hSw.1⟩
  try simp only [Act.put, List.setIfInBounds_toArray, List.set_cons_zero, List.set_cons_succ]
  refine wpAnyH_take (i := 1) (oi := ?oi76) (v := .int .u32 a) ?hi76 (by kernel_rfl) (by kernel_rfl) (by kernel_rfl) ?hQ76 ?hy76 hHeld ?rest76
  case hi76 => simp only [List.getElem?_toArray, List.getElem?_cons_succ, List.getElem?_cons_zero]; rfl
  case hQ76 => exact fun _ _ _ h => h
  case hy76 => exact Or.inl ⟨by rfl, by intro w hSw; have e1 := hSw.1; have e2 := hSw.2.1; have e3 := hSw.2.2; clear hSw e1 e2; go_simp⟩
  try simp only [Act.put, List.setIfInBounds_toArray, List.set_cons_zero, List.set_cons_succ]
  refine wpAnyH_take (i := 2) (oi := ?oi77) (v := .int .i64 ((q : Int) * 64)) ?hi77 (by kernel_rfl) (by kernel_rfl) (by kernel_rfl) ?hQ77 ?hy77 hHeld ?rest77
  case hi77 => simp only [List.getElem?_toArray, List.getElem?_cons_succ, List.getElem?_cons_zero]; rfl
  case hQ77 => exact fun _ _ _ h => h
  case hy77 => exact Or.inl ⟨by rfl, by intro w hSw; have e1 := hSw.1; have e2 := hSw.2.1; have e3 := hSw.2.2; clear hSw e1 e2; go_simp⟩
  try simp only [Act.put, List.setIfInBounds_toArray, List.set_cons_zero, List.set_cons_succ]
  refine wpAnyH_take (i := 3) (oi := ?oi78) (v := .int .i64 (q : Int)) ?hi78 (by kernel_rfl) (by kernel_rfl) (by kernel_rfl) ?hQ78 ?hy78 hHeld ?rest78
  case hi78 => simp only [List.getElem?_toArray, List.getElem?_cons_succ, List.getElem?_cons_zero]; rfl
  case hQ78 => exact fun _ _ _ h => h
  case hy78 => exact Or.inl ⟨by rfl, by intro w hSw; have e1 := hSw.1; have e2 := hSw.2.1; have e3 := hSw.2.2; clear hSw e1 e2; go_simp⟩
  try simp only [Act.put, List.setIfInBounds_toArray, List.set_cons_zero, List.set_cons_succ]
  refine wpAnyH_take (i := 4) (oi := ?oi79) (v := .int .u32 (q : Int)) ?hi79 (by kernel_rfl) (by kernel_rfl) (by kernel_rfl) ?hQ79 ?hy79 hHeld ?rest79
  case hi79 => simp only [List.getElem?_toArray, List.getElem?_cons_succ, List.getElem?_cons_zero]; rfl
  case hQ79 => exact fun _ _ _ h => h
  case hy79 => exact Or.inl ⟨by rfl, by intro w hSw; have e1 := hSw.1; have e2 := hSw.2.1; have e3 := hSw.2.2; clear hSw e1 e2; go_simp⟩
  try simp only [Act.put, List.setIfInBounds_toArray, List.set_cons_zero, List.set_cons_succ]
  refine wpAnyH_take (i := 5) (oi := ?oi80) (v := .int .u32 (Cha.ctrAt a q)) ?hi80 (by kernel_rfl) (by kernel_rfl) (by kernel_rfl) ?hQ80 ?hy80 hHeld ?rest80
  case hi80 => simp only [List.getElem?_toArray, List.getElem?_cons_succ, List.getElem?_cons_zero]; rfl
  case hQ80 => exact fun _ _ _ h => h
  case hy80 => exact Or.inl ⟨by rfl, by intro w hSw; have e1 := hSw.1; have e2 := hSw.2.1; have e3 := hSw.2.2; clear hSw e1 e2; go_simp⟩
  try simp only [Act.put, List.setIfInBounds_toArray, List.set_cons_zero, List.set_cons_succ]
  refine wpAnyH_take (i := 6) (oi := ?oi81) (v := .agg nc.toArray) ?hi81 (by kernel_rfl) (by kernel_rfl) (by kernel_rfl) ?hQ81 ?hy81 hHeld ?rest81
  case hi81 => simp only [List.getElem?_toArray, List.getElem?_cons_succ, List.getElem?_cons_zero]; rfl
  case hQ81 => exact fun _ _ _ h => h
  case hy81 => exact Or.inl ⟨by rfl, fun w hSw => load_yields rfl rfl hSw.2.1⟩
  try simp only [Act.put, List.setIfInBounds_toArray, List.set_cons_zero, List.set_cons_succ]
  refine wpAnyH_take (i := 7) (oi := ?oi82) (v := .slice A2 n2 c2) ?hi82 (by kernel_rfl) (by kernel_rfl) (by kernel_rfl) ?hQ82 ?hy82 hHeld ?rest82
  case hi82 => simp only [List.getElem?_toArray, List.getElem?_cons_succ, List.getElem?_cons_zero]; rfl
  case hQ82 => exact fun _ _ _ h => h
  case hy82 => exact Or.inl ⟨by rfl, by intro w hSw; have e1 := hSw.1; have e2 := hSw.2.1; have e3 := hSw.2.2; clear hSw e1 e2; go_simp⟩
  try simp only [Act.put, List.setIfInBounds_toArray, List.set_cons_zero, List.set_cons_succ]
  refine wpAnyH_take (i := 8) (oi := ?oi83) (v := .int .i64 ((q : Int) * 64)) ?hi83 (by kernel_rfl) (by kernel_rfl) (by kernel_rfl) ?hQ83 ?hy83 hHeld ?rest83
  case hi83 => simp only [List.getElem?_toArray, List.getElem?_cons_succ, List.getElem?_cons_zero]; rfl
  case hQ83 => exact fun _ _ _ h => h
  case hy83 => exact Or.inl ⟨by rfl, by intro w hSw; have e1 := hSw.1; have e2 := hSw.2.1; have e3 := hSw.2.2; clear hSw e1 e2; go_simp⟩
  try simp only [Act.put, List.setIfInBounds_toArray, List.set_cons_zero, List.set_cons_succ]
  refine wpAnyH_take (i := 9) (oi := ?oi84) (v := .slice (cutA A2 c2 (64 * q)) (n2 - 64 * q) (c2 - 64 * q)) ?hi84 (by kernel_rfl) (by kernel_rfl) (by kernel_rfl) ?hQ84 ?hy84 hHeld ?rest84
  case hi84 => simp only [List.getElem?_toArray, List.getElem?_cons_succ, List.getElem?_cons_zero]; rfl
  case hQ84 => exact fun _ _ _ h => h
  case hy84 => exact Or.inl ⟨by rfl, by intro w hSw; have e1 := hSw.1; have e2 := hSw.2.1; have e3 := hSw.2.2; clear hSw e1 e2; go_simp⟩
  try simp only [Act.put, List.setIfInBounds_toArray, List.set_cons_zero, List.set_cons_succ]
  refine wpAnyH_take (i := 12) (oi := ?oi85) (v := .slice (some ⟨gx, 0, none⟩) n2 n2) ?hi85 (by kernel_rfl) (by kernel_rfl) (by kernel_rfl) ?hQ85 ?hy85 hHeld ?rest85
  case hi85 => simp only [List.getElem?_toArray, List.getElem?_cons_succ, List.getElem?_cons_zero]; rfl
  case hQ85 => exact fun _ _ _ h => h
  case hy85 => exact Or.inl ⟨by rfl, by intro w hSw; have e1 := hSw.1; have e2 := hSw.2.1; have e3 := hSw.2.2; clear hSw e1 e2; go_simp⟩
  try simp only [Act.put, List.setIfInBounds_toArray, List.set_cons_zero, List.set_cons_succ]
  refine wpAnyH_take (i := 13) (oi := ?oi86) (v := .int .i64 ((q : Int) * 64)) ?hi86 (by kernel_rfl) (by kernel_rfl) (by kernel_rfl) ?hQ86 ?hy86 hHeld ?rest86
  case hi86 => simp only [List.getElem?_toArray, List.getElem?_cons_succ, List.getElem?_cons_zero]; rfl
  case hQ86 => exact fun _ _ _ h => h
  case hy86 => exact Or.inl ⟨by rfl, by intro w hSw; have e1 := hSw.1; have e2 := hSw.2.1; have e3 := hSw.2.2; clear hSw e1 e2; go_simp⟩
  try simp only [Act.put, List.setIfInBounds_toArray, List.set_cons_zero, List.set_cons_succ]
  refine wpAnyH_take (i := 14) (oi := ?oi87) (v := .slice (cutA (some ⟨gx, 0, none⟩) n2 (64 * q)) (n2 - 64 * q) (n2 - 64 * q)) ?hi87 (by kernel_rfl) (by kernel_rfl) (by kernel_rfl) ?hQ87 ?hy87 hHeld ?rest87
  case hi87 => simp only [List.getElem?_toArray, List.getElem?_cons_succ, List.getElem?_cons_zero]; rfl
  case hQ87 => exact fun _ _ _ h => h
  case hy87 => exact Or.inl ⟨by rfl, by intro w hSw; have e1 := hSw.1; have e2 := hSw.2.1; have e3 := hSw.2.2; clear hSw e1 e2; go_simp⟩
  try simp only [Act.put, List.setIfInBounds_toArray, List.set_cons_zero, List.set_cons_succ]
  refine wpAnyH_take (i := 15) (oi := ?oi88) (v := .string ⟨(XL.drop (64 * q)).toArray⟩) ?hi88 (by kernel_rfl) (by kernel_rfl) (by kernel_rfl) ?hQ88 ?hy88 hHeld ?rest88
  case hi88 => simp only [List.getElem?_toArray, List.getElem?_cons_succ, List.getElem?_cons_zero]; rfl
  case hQ88 => exact fun _ _ _ h => h
  case hy88 => exact Or.inl ⟨by rfl, by intro w hSw; have e1 := hSw.1; have e2 := hSw.2.1; have e3 := hSw.2.2; clear hSw e1 e2; go_simp⟩
  try simp only [Act.put, List.setIfInBounds_toArray, List.set_cons_zero, List.set_cons_succ]
  refine wpAnyH_ready (rs := [10]) (by kernel_rfl) (by simp) ?_
  refine AllReadyH.cons (o := ?o89) ?ho89 (fun K hK => ?_) AllReadyH.nil
  case ho89 => simp only [List.getElem?_toArray, List.getElem?_cons_succ, List.getElem?_cons_zero]; rfl
  go_simp
  refine (CX.out (Cha.ctrAt a q) hcb.1 hcb.2 (cutA A2 c2 (64 * q)) (n2 - 64 * q) (c2 - 64 * q) (l2.drop (64 * q)) (by omega) w11 (cutD R11.out hqn)).mono ?_
  rintro r w12 ⟨g12, rfl, hE, _, hX⟩
  rw [Cha.xor_drop, ← HXL.out] at hE
  have F12 := Lib.hid hE
  have K12 := Lib.hid (K11.out.below hX K11.out.lt)
  have N12 := Lib.hid (N11.out.below hX N11.out.lt)
  have W12 := Lib.hid (W11.out.trans (hX.mono W11.out.size))
  have R12 := Lib.hid (R11.out.below hX)
  have E12 := Lib.hid (E11.out.below hX)
  clear hE hX K11 N11 W11 R11 E11
  refine hK.out _ _ (S11.out _ K12.out N12.out R12.out E12.out) (fun hHeld => ?_)
  clear hK K
  try simp only [Act.put, List.setIfInBounds_toArray, List.set_cons_zero, List.set_cons_succ]
  refine wpAnyH_ready (rs := [11]) (by kernel_rfl) (by simp) ?_
  refine AllReadyH.cons (o := ?o90) ?ho90 (fun K hK => ?_) AllReadyH.nil
  case ho90 => simp only [List.getElem?_toArray, List.getElem?_cons_succ, List.getElem?_cons_zero]; rfl
  have hcv := conv_bytes F12.out
  go_simp
  clear hcv
  refine hK.out _ _ (S11.out _ K12.out N12.out R12.out E12.out) (fun hHeld => ?_)
  clear hK K
  try simp only [Act.put, List.setIfInBounds_toArray, List.set_cons_zero, List.set_cons_succ]
  refine wpAnyH_take (i := 16) (oi := ?oi91) (v := .bool true) ?hi91 (by kernel_rfl) (by kernel_rfl) (by kernel_rfl) ?hQ91 ?hy91 hHeld ?rest91
  case hi91 => simp only [List.getElem?_toArray, List.getElem?_cons_succ, List.getElem?_cons_zero]; rfl
  case hQ91 => exact fun _ _ _ h => h
  case hy91 => exact Or.inl ⟨by rfl, by intro w hSw; have e1 := hSw.1; have e2 := hSw.2.1; have e3 := hSw.2.2; clear hSw e1 e2; go_simp⟩
  try simp only [Act.put, List.setIfInBounds_toArray, List.set_cons_zero, List.set_cons_succ]
  refine wpAnyH_take (i := 17) (oi := ?oi92) (v := .bool true) ?hi92 (by kernel_rfl) (by kernel_rfl) (by kernel_rfl) ?hQ92 ?hy92 hHeld ?rest92
  case hi92 => simp only [List.getElem?_toArray, List.getElem?_cons_succ, List.getElem?_cons_zero]; rfl
  case hQ92 => exact fun _ _ _ h => h
  case hy92 => exact Or.inl ⟨by rfl, by intro w hSw; have e1 := hSw.1; have e2 := hSw.2.1; have e3 := hSw.2.2; clear hSw e1 e2; go_simp⟩
  try simp only [Act.put, List.setIfInBounds_toArray, List.set_cons_zero, List.set_cons_succ]
  refine wpAnyH_done (by kernel_rfl) ?_ _
  clear hHeld hsx hsc hctr hqm hqw hcb hqi
  go_wp2_with fail
  go_ret
  exact ⟨rfl, W12.out⟩
end Go.Proofs.YtknpngeaodlmhaaDoor.chachaTwice
