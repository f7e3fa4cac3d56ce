/- Package aead's Seal and Open answer as the document says. -/
import Derived.Test.YtpbfeobifpmjbaaDoorAeOk
import Derived.Test.YtpbfeobifpmjbaaDoorAePb
namespace Go.Proofs.YtpbfeobifpmjbaaDoor
set_option linter.unusedVariables false
set_option linter.unusedSimpArgs false
set_option maxRecDepth 100000
open Go.RowKit

theorem mark_rd {w : World} {g : Nat} {t : TypeId} {T : List Value} {m : List UInt8} (hb : Blk w g t T) (hT : T = m.map cellOf) (hl : m.length = 16) : Rd w (some ⟨g, 0, none⟩) 16 16 m := by
  subst hT
  exact Rd.of_block hb hl (Nat.le_refl _) (by unfold maxLen; omega) (fun j hj => by
    rw [Nat.zero_add]
    simp [cellOf, List.getD_eq_getElem?_getD, List.getElem?_eq_getElem (show j < m.length by omega)])

set_option maxRecDepth 100000 in
set_option maxHeartbeats 4000000 in
theorem seal_new (key nonce : List UInt8) {w : World} {A A' : Option Addr} {n c n' c' : Nat} {ad b : List UInt8} (hk : key.length = 32) (hn : nonce.length = 12) (hra : Rd w A n c ad) (hrb : Rd w A' n' c' b) (hn1 : n ≤ 10000) (hn2 : n' ≤ 10000) :
    Calls Tryd.prog 24 #[.agg (key.map cellOf).toArray, .agg (nonce.map cellOf).toArray, .slice A n c, .slice A' n' c'] w (fun e w' => ∃ A n c, e = .returned (.slice A n c) ∧ Rd w' A n c (Ae.sealed key nonce ad b) ∧ Below w.heap.size w w' ∧ ∀ x, A = some x → 0 < n → w.heap.size ≤ x.block) := by
  have CX := Lib.hid (fun W (h : Rd W A' n' c' b) => cxor_own key nonce 1 h (by omega) hk hn (by omega) (by omega))
  have CM := Lib.hid (fun (W : World) (AX : Option Addr) (cx : Nat) (h1 : Rd W A n c ad) (h2 : Rd W AX n' cx (Cha.xor key 1 nonce b)) => tag_any key nonce hk hn h1 h2 (by omega) (by omega))
  obtain ⟨kc, hkc⟩ : ∃ c, c = key.map cellOf := ⟨_, rfl⟩
  obtain ⟨nc, hnc⟩ : ∃ c, c = nonce.map cellOf := ⟨_, rfl⟩
  rw [← hkc, ← hnc] at CX CM
  rw [← hkc, ← hnc]
  have IK : Hid ((Tryd.prog.info? 33).map (·.size) = some kc.length) := by unfold Hid; rw [hkc, List.length_map, hk]; kernel_rfl
  have IN : Hid ((Tryd.prog.info? 58).map (·.size) = some nc.length) := by unfold Hid; rw [hnc, List.length_map, hn]; kernel_rfl
  have HRA := Lib.hid hra
  have HRB := Lib.hid hrb
  obtain ⟨x, hx⟩ : ∃ x, x = Cha.xor key 1 nonce b := ⟨_, rfl⟩
  rw [← hx] at CX CM
  have LX : Hid (x.length = n') := by unfold Hid; rw [hx, Ae.xor_len, hrb.len]
  obtain ⟨mk, hmk⟩ : ∃ l, l = Ae.mark key nonce ad x := ⟨_, rfl⟩
  rw [← hmk] at CM
  have LMK : Hid (mk.length = 16) := by unfold Hid; rw [hmk, Ae.mark_length]
  obtain ⟨T, hT⟩ : ∃ T, T = mk.map cellOf := ⟨_, rfl⟩
  rw [← hT] at CM
  have IT : Hid ((Tryd.prog.info? 82).map (·.size) = some T.length) := by unfold Hid; rw [hT, List.length_map, LMK.out]; kernel_rfl
  have LT : Hid ((List.replicate 16 (Value.int .u8 0)).length = T.length) := by unfold Hid; rw [hT, List.length_map, LMK.out]; rfl
  have OT : Hid (∀ v ∈ T, v.oneCell' = true) := by unfold Hid; rw [hT]; exact cells_u8 _
  have HTT := Lib.hid hT
  have HS : Hid (Ae.sealed key nonce ad b = x ++ mk) := by unfold Hid Ae.sealed; rw [← hx, ← hmk]
  clear hkc hnc hk hn hra hrb hx hmk hT
  go_enter Tryd.func24, Tryd.ntmps24
  go_upto_region 1 with (fail)
  obtain ⟨w0, hw0⟩ : ∃ w0, w0 = (w.alloc (Obj.cells kc.toArray 33)).alloc (Obj.cells nc.toArray 58) := ⟨_, rfl⟩
  have B0 : Hid (Blk w0 w.heap.size 33 kc) := by unfold Hid; rw [hw0]; exact (Blk.new w _ _).alloc _
  have B1 : Hid (Blk w0 (w.heap.size + 1) 58 nc) := by unfold Hid; rw [hw0]; exact Blk.at_new _ _ _ _ _ rfl (by simp)
  have W0 : Hid (Below w.heap.size w w0) := by unfold Hid; rw [hw0]; exact ((Below.refl _ _).alloc (Nat.le_refl _) _).alloc (by simp) _
  change Code.wp _ _ _ _ ((w.alloc (Obj.cells kc.toArray 33)).alloc (Obj.cells nc.toArray 58))
  rw [← hw0]
  clear hw0
  go_wp2_with (first
    | ((with_reducible refine load_law rfl 33 (.tmp 4) rfl w.heap.size 0 rfl kc _ Tryd.underlying33 rfl IK.out B0.out.cells ?_))
    | ((with_reducible refine load_law rfl 58 (.tmp 5) rfl (w.heap.size + 1) 0 rfl nc _ Tryd.underlying58 rfl IN.out B1.out.cells ?_)))
  refine (CX.out w0 (HRB.out.below W0.out)).mono ?_
  rintro e w1 ⟨gx, rfl, hOX, hgx, hX⟩
  have C0 := Lib.hid (B0.out.below hX B0.out.lt)
  have C1 := Lib.hid (B1.out.below hX B1.out.lt)
  have W1 := Lib.hid (W0.out.trans (hX.mono W0.out.size))
  have OX := Lib.hid hOX
  have RX := Lib.hid (hOX.rdv LX.out)
  have hs1 := hX.size
  have X1 := Lib.hid hX
  clear hX hOX B0 B1 CX
  go_wp2_with (first
    | ((with_reducible refine load_law rfl 33 (.tmp 4) rfl w.heap.size 0 rfl kc _ Tryd.underlying33 rfl IK.out C0.out.cells ?_))
    | ((with_reducible refine load_law rfl 58 (.tmp 5) rfl (w.heap.size + 1) 0 rfl nc _ Tryd.underlying58 rfl IN.out C1.out.cells ?_)))
  refine (CM.out w1 _ _ (HRA.out.below W1.out) RX.out).mono ?_
  rintro e w2 ⟨rfl, hX⟩
  have O2 := Lib.hid (OX.out.keep hX)
  have X2 := Lib.hid (X1.out.trans (hX.mono hs1))
  have hs2 := X2.out.size
  clear hX OX RX C0 C1 CM X1 W1
  go_upto_region 3 with (first
    | ((with_reducible refine storeGen_law rfl 82 (.tmp 10) (.tmp 19) rfl w2.heap.size rfl T rfl 82 (List.replicate 16 (.int .u8 0)) IT.out LT.out OT.out w2.heap.size w2 ?_ ?_ (Nat.le_refl _) ?_)
       · exact Blk.at_new _ _ 82 _ _ (by rfl) rfl
       · exact (Below.refl _ _).alloc (Nat.le_refl _) _
       intro w3 B3 X3))
  have O3 := Lib.hid (O2.out.keep X3.out)
  have W3 := Lib.hid (X2.out.trans (X3.out.mono hs2))
  have RM := Lib.hid (mark_rd B3.out HTT.out LMK.out)
  have LN : Hid (x.length + 16 ≤ 140737488355328) := by unfold Hid; rw [LX.out]; omega
  have hsl := fun W => sliceAt_all 82 16 Tryd.underlying82 w2.heap.size 0 W
  clear B3 O2 X2 X3
  go_wp2_with (first
    | (at_builtin; refine onto_law rfl (.tmp 20) (.tmp 21) rfl rfl rfl RM.out O3.out LN.out W3.out.size W3.out ?_; intro v4 w4 O4 X4))
  go_ret
  obtain ⟨A4, c4, rfl, hR4, hF4⟩ := O4.out.value
  refine ⟨_, _, _, rfl, by rw [HS.out]; exact hR4, W0.out.trans (X4.out.mono W0.out.size), fun x hx h0 => ?_⟩
  obtain ⟨g4, e4, h4⟩ := hF4 h0
  rw [e4] at hx
  injection hx with hx
  subst hx
  exact Nat.le_trans W0.out.size h4

theorem seal_any (key nonce : List UInt8) {w : World} {A A' : Option Addr} {n c n' c' : Nat} {ad b : List UInt8} (hk : key.length = 32) (hn : nonce.length = 12) (hra : Rd w A n c ad) (hrb : Rd w A' n' c' b) (hn1 : n ≤ 10000) (hn2 : n' ≤ 10000) :
    Calls Tryd.prog 24 #[.agg (key.map cellOf).toArray, .agg (nonce.map cellOf).toArray, .slice A n c, .slice A' n' c'] w (RetR w (Ae.sealed key nonce ad b)) :=
  (seal_new key nonce hk hn hra hrb hn1 hn2).mono fun _ _ ⟨A, n, c, h1, h2, h3, _⟩ => ⟨A, n, c, h1, h2, h3⟩

set_option maxRecDepth 100000 in
set_option maxHeartbeats 8000000 in
theorem open_new (key nonce : List UInt8) {w : World} {A A' : Option Addr} {n c n' c' : Nat} {ad cc : List UInt8} (hk : key.length = 32) (hn : nonce.length = 12) (hra : Rd w A n c ad) (hrc : Rd w A' n' c' cc) (hn1 : n ≤ 10000) (hn2 : n' ≤ 10000) :
    Calls Tryd.prog 27 #[.agg (key.map cellOf).toArray, .agg (nonce.map cellOf).toArray, .slice A n c, .slice A' n' c'] w (fun e w' => ∃ A n c, e = .returned (.tuple #[.slice A n c, .bool (Ae.opens key nonce ad cc)]) ∧ Rd w' A n c (Ae.opened key nonce ad cc) ∧ Below w.heap.size w w' ∧ ∀ x, A = some x → 0 < n → w.heap.size ≤ x.block) := by
  have CX := Lib.hid (fun (W : World) (AX : Option Addr) (nx cx : Nat) (l : List UInt8) (h : Rd W AX nx cx l) (hx : nx ≤ 10000) => cxor_any key nonce 1 h (by omega) hk hn (by omega) (by omega))
  have CM := Lib.hid (fun (W : World) (AX : Option Addr) (nx cx : Nat) (l : List UInt8) (h1 : Rd W A n c ad) (h2 : Rd W AX nx cx l) (hx : nx ≤ 10000) => tag_any key nonce hk hn h1 h2 (by omega) (by omega))
  obtain ⟨kc, hkc⟩ : ∃ c, c = key.map cellOf := ⟨_, rfl⟩
  obtain ⟨nc, hnc⟩ : ∃ c, c = nonce.map cellOf := ⟨_, rfl⟩
  rw [← hkc, ← hnc] at CX CM
  rw [← hkc, ← hnc]
  have IK : Hid ((Tryd.prog.info? 33).map (·.size) = some kc.length) := by unfold Hid; rw [hkc, List.length_map, hk]; kernel_rfl
  have IN : Hid ((Tryd.prog.info? 58).map (·.size) = some nc.length) := by unfold Hid; rw [hnc, List.length_map, hn]; kernel_rfl
  have HRA := Lib.hid hra
  have HRC := Lib.hid hrc
  have HLC := Lib.hid hrc.len
  have hcap := hrc.cap
  clear hkc hnc hk hn hra hrc
  by_cases h16 : n' < 16
  · have d1 : decide ((n' : Int) < 16) = true := by simp; omega
    have HOF : Hid (Ae.opens key nonce ad cc = false) := by unfold Hid Ae.opens; rw [HLC.out]; simp; omega
    have HOP : Hid (Ae.opened key nonce ad cc = []) := by unfold Hid Ae.opened; rw [HOF.out]; rfl
    go_enter Tryd.func27, Tryd.ntmps27
    go_wp2_with fail
    go_ret2
    exact ⟨none, 0, 0, by rw [HOF.out]; rfl, by rw [HOP.out]; exact Rd.nil _ _ _ (by unfold maxLen; omega), ((Below.refl _ _).alloc (Nat.le_refl _) _).alloc (by simp) _, fun x hx => by cases hx⟩
  · obtain ⟨N, hN⟩ : ∃ N : Nat, N = n' - 16 := ⟨_, rfl⟩
    have e16 : (n' : Int) - 16 = (N : Int) := by omega
    have hNn : N ≤ n' := by omega
    have hN16 : n' - N = 16 := by omega
    have d1 : decide ((n' : Int) < 16) = false := decide_eq_false (by omega)
    obtain ⟨fr, hfr⟩ : ∃ l, l = cc.take N := ⟨_, rfl⟩
    obtain ⟨tl, htl⟩ : ∃ l, l = cc.drop N := ⟨_, rfl⟩
    obtain ⟨mk, hmk⟩ : ∃ l, l = Ae.mark key nonce ad fr := ⟨_, rfl⟩
    have HOE : Hid (Ae.opens key nonce ad cc = decide (mk = tl)) := by
      unfold Hid Ae.opens
      rw [HLC.out, ← hN, ← hfr, ← htl, ← hmk, decide_eq_true (show 16 ≤ n' by omega), Bool.true_and]
    have HOX : Hid (Ae.opened key nonce ad cc = if decide (mk = tl) = true then Cha.xor key 1 nonce fr else []) := by
      unfold Hid Ae.opened
      rw [HOE.out, HLC.out, ← hN, ← hfr]
    have RF : Hid (∀ W, Rd W A' n' c' cc → Rd W (cutA A' c' 0) N c' fr) := fun W h => by
      have := h.cut (k := 0) (e := N) (by omega) hNn
      rw [List.drop_zero, Nat.sub_zero, Nat.sub_zero, ← hfr] at this
      exact this
    have RT : Hid (∀ W, Rd W A' n' c' cc → Rd W (cutA A' c' N) 16 (c' - N) tl) := fun W h => by
      have := h.cut (k := N) (e := n') hNn (Nat.le_refl _)
      rw [hN16, List.take_of_length_le (by rw [List.length_drop, HLC.out]; omega), ← htl] at this
      exact this
    have LMK : Hid (mk.length = 16) := by unfold Hid; rw [hmk, Ae.mark_length]
    obtain ⟨T, hT⟩ : ∃ T, T = mk.map cellOf := ⟨_, rfl⟩
    have IT : Hid ((Tryd.prog.info? 82).map (·.size) = some T.length) := by unfold Hid; rw [hT, List.length_map, LMK.out]; kernel_rfl
    have LT : Hid ((List.replicate 16 (Value.int .u8 0)).length = T.length) := by unfold Hid; rw [hT, List.length_map, LMK.out]; rfl
    have OT : Hid (∀ v ∈ T, v.oneCell' = true) := by unfold Hid; rw [hT]; exact cells_u8 _
    have HTT := Lib.hid hT
    have CM2 : Hid (∀ W, Rd W A n c ad → Rd W (cutA A' c' 0) N c' fr → Calls Tryd.prog 41 #[.agg kc.toArray, .agg nc.toArray, .slice A n c, .slice (cutA A' c' 0) N c'] W fun e w' => e = .returned (.agg T.toArray) ∧ Below W.heap.size W w') := fun W h1 h2 => by rw [hT, hmk]; exact CM.out W _ _ _ _ h1 h2 (by omega)
    have hcut1 := fun W => slice_h A' n' c' N (by omega) W
    have hcut2 := fun W => slice_l A' n' c' N hNn W
    rw [hN16] at hcut2
    clear hN hfr htl hmk h16 CM hT
    go_enter Tryd.func27, Tryd.ntmps27
    go_upto_region 4 with (fail)
    obtain ⟨w0, hw0⟩ : ∃ w0, w0 = (w.alloc (Obj.cells kc.toArray 33)).alloc (Obj.cells nc.toArray 58) := ⟨_, rfl⟩
    have B0 : Hid (Blk w0.drew w.heap.size 33 kc) := by unfold Hid; rw [hw0]; exact (Blk.new w _ _).alloc _
    have B1 : Hid (Blk w0.drew (w.heap.size + 1) 58 nc) := by unfold Hid; rw [hw0]; exact Blk.at_new _ _ _ _ _ rfl (by simp)
    have W0 : Hid (Below w.heap.size w w0.drew) := by unfold Hid; rw [hw0]; exact (((Below.refl _ _).alloc (Nat.le_refl _) _).alloc (by simp) _).drew
    change Code.wp _ _ _ _ ((w.alloc (Obj.cells kc.toArray 33)).alloc (Obj.cells nc.toArray 58))
    rw [← hw0]
    clear hw0 e16 d1
    refine wp_region_any (by kernel_rfl) ?_
    change wpAny _ _ _ _ _ _ _ (World.drew _)
    generalize w0.drew = w5 at *
    have RA5 := Lib.hid (HRA.out.below W0.out)
    have RC5 := Lib.hid (HRC.out.below W0.out)
    refine wpAny_take (i := 2) (oi := ?oiu0) (v := .slice A n c) ?hiu0 (by kernel_rfl) (by kernel_rfl) (by kernel_rfl) ?hQu0 ?hyu0 ?restu0
    case hiu0 => simp only [List.getElem?_toArray, List.getElem?_cons_succ, List.getElem?_cons_zero]; rfl
    case hQu0 => exact fun _ _ _ h => h
    case hyu0 => exact Or.inl ⟨by rfl, by intro w; go_simp⟩
    try simp only [Act.put, List.setIfInBounds_toArray, List.set_cons_zero, List.set_cons_succ]
    refine wpAny_take (i := 3) (oi := ?oiu1) (v := .slice A' n' c') ?hiu1 (by kernel_rfl) (by kernel_rfl) (by kernel_rfl) ?hQu1 ?hyu1 ?restu1
    case hiu1 => simp only [List.getElem?_toArray, List.getElem?_cons_succ, List.getElem?_cons_zero]; rfl
    case hQu1 => exact fun _ _ _ h => h
    case hyu1 => exact Or.inl ⟨by rfl, by intro w; go_simp⟩
    try simp only [Act.put, List.setIfInBounds_toArray, List.set_cons_zero, List.set_cons_succ]
    refine wpAny_take (i := 4) (oi := ?oiu2) (v := .int .i64 (N : Int)) ?hiu2 (by kernel_rfl) (by kernel_rfl) (by kernel_rfl) ?hQu2 ?hyu2 ?restu2
    case hiu2 => simp only [List.getElem?_toArray, List.getElem?_cons_succ, List.getElem?_cons_zero]; rfl
    case hQu2 => exact fun _ _ _ h => h
    case hyu2 => exact Or.inl ⟨by rfl, by intro w; go_simp⟩
    try simp only [Act.put, List.setIfInBounds_toArray, List.set_cons_zero, List.set_cons_succ]
    refine wpAny_take (i := 5) (oi := ?oiu3) (v := .slice (cutA A' c' 0) N c') ?hiu3 (by kernel_rfl) (by kernel_rfl) (by kernel_rfl) ?hQu3 ?hyu3 ?restu3
    case hiu3 => simp only [List.getElem?_toArray, List.getElem?_cons_succ, List.getElem?_cons_zero]; rfl
    case hQu3 => exact fun _ _ _ h => h
    case hyu3 => exact Or.inl ⟨by rfl, by intro w; go_simp⟩
    try simp only [Act.put, List.setIfInBounds_toArray, List.set_cons_zero, List.set_cons_succ]
    refine phase (fun i => if i = 6 then [0, 1] else []) (fun d a w' => ∃ x11 x18 x19 x24 : Value, a = { tmps := #[.agg kc.toArray, .agg nc.toArray, .slice A n c, .slice A' n' c', .pointer (some ⟨w.heap.size, 0, none⟩), .pointer (some ⟨w.heap.size + 1, 0, none⟩), undef, undef, .slice none 0 0, .bool false, .int .i64 (N : Int), x11, .slice A' n' c', .int .i64 (n' : Int), .bool false, .slice A' n' c', .int .i64 (n' : Int), .int .i64 (N : Int), x18, x19, .slice A n c, .slice A' n' c', .int .i64 (N : Int), .slice (cutA A' c' 0) N c', x24, undef, undef, undef, undef, undef, undef, undef, undef, undef, undef, undef, undef], defers := [] } ∧ Hid (Below w5.heap.size w5 w')
      ∧ (d 0 = true → x18 = .agg kc.toArray) ∧ (d 1 = true → x19 = .agg nc.toArray) ∧ (d 6 = true → x24 = .agg T.toArray) ∧ (d 7 = true → Hid (∃ g, x11 = .pointer (some ⟨g, 0, none⟩) ∧ w5.heap.size ≤ g ∧ Blk w' g 82 (List.replicate 16 (.int .u8 0))))) [0, 1, 6, 7] ?step 1 4 [0, 1, 6, 7] _ _ _ rfl (by decide) (fun _ h => h) (by kernel_rfl) ?init ?fin
    case init =>
      refine ⟨_, _, _, _, rfl, Below.refl _ _, ?_, ?_, ?_, ?_⟩ <;> (intro h; exact absurd h (by decide))
    case step =>
      intro i hi d a w6 hI hdi hdeps
      obtain ⟨x11, x18, x19, x24, rfl, BW6, h0, h1, h6, h7⟩ := hI
      have hs6 := BW6.out.size
      have H7' : Hid (∀ w7, Below w6.heap.size w6 w7 → (d 7 = true → Hid (∃ g, x11 = .pointer (some ⟨g, 0, none⟩) ∧ w5.heap.size ≤ g ∧ Blk w7 g 82 (List.replicate 16 (.int .u8 0))))) := fun w7 hX a => by obtain ⟨g, e, hg, hB⟩ := (h7 a).out; exact ⟨g, e, hg, hB.below hX hB.lt⟩
      clear h7
      simp only [List.mem_cons, List.not_mem_nil, or_false] at hi
      rcases hi with rfl | rfl | rfl | rfl
      · refine wpOp_step (o := ?osb0) ?hosb0 (fun K hK => ?_)
        case hosb0 => simp only [List.getElem?_toArray, List.getElem?_cons_succ, List.getElem?_cons_zero]; rfl
        refine step_loadL rfl 33 (.tmp 4) rfl w.heap.size 0 rfl kc _ Tryd.underlying33 rfl IK.out (B0.out.below BW6.out B0.out.lt).cells (hK _ _ ?_)
        clear hK K
        try simp only [Act.put, List.setIfInBounds_toArray, List.set_cons_zero, List.set_cons_succ]
        exact ⟨_, _, _, _, rfl, BW6, fun _ => rfl, fun a => h1 (by simpa using a), fun a => h6 (by simpa using a), fun a => H7'.out _ (Below.refl _ _) (by simpa using a)⟩
      · refine wpOp_step (o := ?osb1) ?hosb1 (fun K hK => ?_)
        case hosb1 => simp only [List.getElem?_toArray, List.getElem?_cons_succ, List.getElem?_cons_zero]; rfl
        refine step_loadL rfl 58 (.tmp 5) rfl (w.heap.size + 1) 0 rfl nc _ Tryd.underlying58 rfl IN.out (B1.out.below BW6.out B1.out.lt).cells (hK _ _ ?_)
        clear hK K
        try simp only [Act.put, List.setIfInBounds_toArray, List.set_cons_zero, List.set_cons_succ]
        exact ⟨_, _, _, _, rfl, BW6, fun a => h0 (by simpa using a), fun _ => rfl, fun a => h6 (by simpa using a), fun a => H7'.out _ (Below.refl _ _) (by simpa using a)⟩
      · obtain rfl := h0 (hdeps 0 (by simp))
        obtain rfl := h1 (hdeps 1 (by simp))
        refine wpOp_step (o := ?osb6) ?hosb6 (fun K hK => ?_)
        case hosb6 => simp only [List.getElem?_toArray, List.getElem?_cons_succ, List.getElem?_cons_zero]; rfl
        go_simp
        refine (CM2.out w6 (RA5.out.below BW6.out) (RF.out w6 (RC5.out.below BW6.out))).mono ?_
        rintro e w7 ⟨rfl, hX⟩
        refine hK _ _ ?_
        clear hK K
        try simp only [Act.put, List.setIfInBounds_toArray, List.set_cons_zero, List.set_cons_succ]
        exact ⟨_, _, _, _, rfl, BW6.out.trans (hX.mono hs6), fun _ => rfl, fun _ => rfl, fun _ => rfl, fun a => H7'.out _ hX (by simpa using a)⟩
      · refine wpOp_step (o := ?osb7) ?hosb7 (fun K hK => ?_)
        case hosb7 => simp only [List.getElem?_toArray, List.getElem?_cons_succ, List.getElem?_cons_zero]; rfl
        go_simp
        refine hK _ _ ?_
        clear hK K
        try simp only [Act.put, List.setIfInBounds_toArray, List.set_cons_zero, List.set_cons_succ]
        have hX : Below w6.heap.size w6 (w6.alloc (Obj.cells (List.replicate 16 (.int .u8 0)).toArray 82)) := (Below.refl _ _).alloc (Nat.le_refl _) _
        exact ⟨_, _, _, _, rfl, BW6.out.trans (hX.mono hs6), fun a => h0 (by simpa using a), fun a => h1 (by simpa using a), fun a => h6 (by simpa using a), fun _ => ⟨_, rfl, hs6, Blk.at_new _ _ _ _ _ (by rfl) rfl⟩⟩
    case fin =>
      intro a w6 hI
      obtain ⟨x11, x18, x19, x24, rfl, BW6, h0, h1, h6, h7⟩ := hI
      obtain rfl := h6 (by decide)
      obtain ⟨g, rfl, hg, hB⟩ := (h7 (by decide)).out
      clear h0 h1 h6 h7 CM2
      dsimp only
      refine wpAny_ready (rs := [8]) (by kernel_rfl) (by simp) ?_
      refine AllReady.cons (o := ?pz) ?qz (fun K hK => ?_) AllReady.nil
      case qz => simp only [List.getElem?_toArray, List.getElem?_cons_succ, List.getElem?_cons_zero]; rfl
      refine step_storeAll rfl 82 (.tmp 11) (.tmp 24) rfl g rfl T rfl 82 (List.replicate 16 (Value.int .u8 0)) hB IT.out LT.out OT.out (hK _ _ ?_)
      clear hK K
      try simp only [Act.put, List.setIfInBounds_toArray, List.set_cons_zero, List.set_cons_succ]
      refine wpAny_done (by kernel_rfl) ?_ _
      have GT : Hid (Blk (w6.setRow g T.toArray).drew g 82 T) := (Blk.row hB).drew
      have GX := Lib.hid (below_setRow BW6.out hg T.toArray).drew
      have C0 := Lib.hid (B0.out.below GX.out B0.out.lt)
      have C1 := Lib.hid (B1.out.below GX.out B1.out.lt)
      have W7 := Lib.hid (W0.out.trans (GX.out.mono W0.out.size))
      have RC7 := Lib.hid (RC5.out.below GX.out)
      have RM := Lib.hid (mark_rd GT.out HTT.out LMK.out)
      have hsl := fun W => sliceAt_all 82 16 Tryd.underlying82 g 0 W
      clear hB GT GX BW6 B0 B1 W0 RC5 RA5
      go_upto_region 5 with (fail)
      refine wp_region_any (by kernel_rfl) ?_
      change wpAny _ _ _ _ _ _ _ (World.drew _)
      generalize (w6.setRow g T.toArray).drew = w7 at *
      refine wpAny_take (i := 0) (oi := ?oiv0) (v := .slice (some ⟨g, 0, none⟩) 16 16) ?hiv0 (by kernel_rfl) (by kernel_rfl) (by kernel_rfl) ?hQv0 ?hyv0 ?restv0
      case hiv0 => simp only [List.getElem?_toArray, List.getElem?_cons_succ, List.getElem?_cons_zero]; rfl
      case hQv0 => exact fun _ _ _ h => h
      case hyv0 => exact Or.inl ⟨by rfl, by intro w; go_simp⟩
      try simp only [Act.put, List.setIfInBounds_toArray, List.set_cons_zero, List.set_cons_succ]
      refine wpAny_take (i := 1) (oi := ?oiv1) (v := .slice A' n' c') ?hiv1 (by kernel_rfl) (by kernel_rfl) (by kernel_rfl) ?hQv1 ?hyv1 ?restv1
      case hiv1 => simp only [List.getElem?_toArray, List.getElem?_cons_succ, List.getElem?_cons_zero]; rfl
      case hQv1 => exact fun _ _ _ h => h
      case hyv1 => exact Or.inl ⟨by rfl, by intro w; go_simp⟩
      try simp only [Act.put, List.setIfInBounds_toArray, List.set_cons_zero, List.set_cons_succ]
      refine wpAny_take (i := 2) (oi := ?oiv2) (v := .int .i64 (N : Int)) ?hiv2 (by kernel_rfl) (by kernel_rfl) (by kernel_rfl) ?hQv2 ?hyv2 ?restv2
      case hiv2 => simp only [List.getElem?_toArray, List.getElem?_cons_succ, List.getElem?_cons_zero]; rfl
      case hQv2 => exact fun _ _ _ h => h
      case hyv2 => exact Or.inl ⟨by rfl, by intro w; go_simp⟩
      try simp only [Act.put, List.setIfInBounds_toArray, List.set_cons_zero, List.set_cons_succ]
      refine wpAny_take (i := 3) (oi := ?oiv3) (v := .slice (cutA A' c' N) 16 (c' - N)) ?hiv3 (by kernel_rfl) (by kernel_rfl) (by kernel_rfl) ?hQv3 ?hyv3 ?restv3
      case hiv3 => simp only [List.getElem?_toArray, List.getElem?_cons_succ, List.getElem?_cons_zero]; rfl
      case hQv3 => exact fun _ _ _ h => h
      case hyv3 => exact Or.inl ⟨by rfl, by intro w; go_simp⟩
      try simp only [Act.put, List.setIfInBounds_toArray, List.set_cons_zero, List.set_cons_succ]
      have CS := Lib.hid (same_any RM.out (RT.out w7 RC7.out))
      refine wpAny_ready (rs := [4]) (by kernel_rfl) (by simp) ?_
      refine AllReady.cons (o := ?py) ?qy (fun K hK => ?_) AllReady.nil
      case qy => simp only [List.getElem?_toArray, List.getElem?_cons_succ, List.getElem?_cons_zero]; rfl
      go_simp
      refine CS.out.mono ?_
      rintro e w8 ⟨rfl, hX⟩
      refine hK _ _ ?_
      clear hK K
      try simp only [Act.put, List.setIfInBounds_toArray, List.set_cons_zero, List.set_cons_succ]
      have D0 := Lib.hid (C0.out.below hX C0.out.lt)
      have D1 := Lib.hid (C1.out.below hX C1.out.lt)
      have W8 := Lib.hid (W7.out.trans (hX.mono W7.out.size))
      have RC8 := Lib.hid (RC7.out.below hX)
      clear hX CS C0 C1 W7 RC7 RM hsl hcut2
      by_cases hEq : mk = tl
      · have HOT : Hid (Ae.opens key nonce ad cc = true) := by unfold Hid; rw [HOE.out]; simpa using hEq
        have HOP : Hid (Ae.opened key nonce ad cc = Cha.xor key 1 nonce fr) := by unfold Hid; rw [HOX.out, if_pos (by simpa using hEq)]
        have hsB : sameB mk tl = true := by unfold sameB; simpa using hEq
        rw [hsB]
        clear hsB hEq
        refine wpAny_take (i := 5) (oi := ?oiw5) (v := .bool false) ?hiw5 (by kernel_rfl) (by kernel_rfl) (by kernel_rfl) ?hQw5 ?hyw5 ?restw5
        case hiw5 => simp only [List.getElem?_toArray, List.getElem?_cons_succ, List.getElem?_cons_zero]; rfl
        case hQw5 => exact fun _ _ _ h => h
        case hyw5 => exact Or.inl ⟨by rfl, by intro w; go_simp⟩
        try simp only [Act.put, List.setIfInBounds_toArray, List.set_cons_zero, List.set_cons_succ]
        refine wpAny_done (by kernel_rfl) ?_ _
        go_upto_region 7 with (fail)
        refine wp_region_any (by kernel_rfl) ?_
        change wpAny _ _ _ _ _ _ _ (World.drew _)
        have E0 : Hid (Blk w8.drew w.heap.size 33 kc) := D0.out.drew
        have E1 : Hid (Blk w8.drew (w.heap.size + 1) 58 nc) := D1.out.drew
        have DW : Hid (Below w.heap.size w w8.drew) := W8.out.drew
        have DR : Hid (Rd w8.drew A' n' c' cc) := RC8.out.drew
        clear D0 D1 W8 RC8
        generalize w8.drew = w9 at *
        refine wpAny_take (i := 2) (oi := ?oiy0) (v := .slice A' n' c') ?hiy0 (by kernel_rfl) (by kernel_rfl) (by kernel_rfl) ?hQy0 ?hyy0 ?resty0
        case hiy0 => simp only [List.getElem?_toArray, List.getElem?_cons_succ, List.getElem?_cons_zero]; rfl
        case hQy0 => exact fun _ _ _ h => h
        case hyy0 => exact Or.inl ⟨by rfl, by intro w; go_simp⟩
        try simp only [Act.put, List.setIfInBounds_toArray, List.set_cons_zero, List.set_cons_succ]
        refine wpAny_take (i := 3) (oi := ?oiy1) (v := .int .i64 (N : Int)) ?hiy1 (by kernel_rfl) (by kernel_rfl) (by kernel_rfl) ?hQy1 ?hyy1 ?resty1
        case hiy1 => simp only [List.getElem?_toArray, List.getElem?_cons_succ, List.getElem?_cons_zero]; rfl
        case hQy1 => exact fun _ _ _ h => h
        case hyy1 => exact Or.inl ⟨by rfl, by intro w; go_simp⟩
        try simp only [Act.put, List.setIfInBounds_toArray, List.set_cons_zero, List.set_cons_succ]
        refine wpAny_take (i := 4) (oi := ?oiy2) (v := .slice (cutA A' c' 0) N c') ?hiy2 (by kernel_rfl) (by kernel_rfl) (by kernel_rfl) ?hQy2 ?hyy2 ?resty2
        case hiy2 => simp only [List.getElem?_toArray, List.getElem?_cons_succ, List.getElem?_cons_zero]; rfl
        case hQy2 => exact fun _ _ _ h => h
        case hyy2 => exact Or.inl ⟨by rfl, by intro w; go_simp⟩
        try simp only [Act.put, List.setIfInBounds_toArray, List.set_cons_zero, List.set_cons_succ]
        refine phase (fun i => if i = 5 then [0, 1] else []) (fun d a w' => ∃ x31 x32 x36 : Value, a = { tmps := #[.agg kc.toArray, .agg nc.toArray, .slice A n c, .slice A' n' c', .pointer (some ⟨w.heap.size, 0, none⟩), .pointer (some ⟨w.heap.size + 1, 0, none⟩), undef, undef, .slice none 0 0, .bool false, .int .i64 (N : Int), .pointer (some ⟨g, 0, none⟩), .slice A' n' c', .int .i64 (n' : Int), .bool false, .slice A' n' c', .int .i64 (n' : Int), .int .i64 (N : Int), x18, x19, .slice A n c, .slice A' n' c', .int .i64 (N : Int), .slice (cutA A' c' 0) N c', .agg T.toArray, .slice (some ⟨g, 0, none⟩) 16 16, .slice A' n' c', .int .i64 (N : Int), .slice (cutA A' c' N) 16 (c' - N), .bool true, .bool false, x31, x32, .slice A' n' c', .int .i64 (N : Int), .slice (cutA A' c' 0) N c', x36], defers := [] } ∧ Hid (Below w9.heap.size w9 w')
          ∧ (d 0 = true → x31 = .agg kc.toArray) ∧ (d 1 = true → x32 = .agg nc.toArray) ∧ (d 5 = true → Hid (∃ AX cx, x36 = .slice AX N cx ∧ Rd w' AX N cx (Cha.xor key 1 nonce fr) ∧ ∀ x, AX = some x → w9.heap.size ≤ x.block))) [0, 1, 5] ?step4 2 3 [0, 1, 5] _ _ _ rfl (by decide) (fun _ h => h) (by kernel_rfl) ?init4 ?fin4
        case init4 =>
          refine ⟨_, _, _, rfl, Below.refl _ _, ?_, ?_, ?_⟩ <;> (intro h; exact absurd h (by decide))
        case step4 =>
          intro i hi d a w10 hI hdi hdeps
          obtain ⟨x31, x32, x36, rfl, BW9, h0, h1, h5⟩ := hI
          have hs9 := BW9.out.size
          simp only [List.mem_cons, List.not_mem_nil, or_false] at hi
          rcases hi with rfl | rfl | rfl
          · refine wpOp_step (o := ?osc0) ?hosc0 (fun K hK => ?_)
            case hosc0 => simp only [List.getElem?_toArray, List.getElem?_cons_succ, List.getElem?_cons_zero]; rfl
            refine step_loadL rfl 33 (.tmp 4) rfl w.heap.size 0 rfl kc _ Tryd.underlying33 rfl IK.out (E0.out.below BW9.out E0.out.lt).cells (hK _ _ ?_)
            clear hK K
            try simp only [Act.put, List.setIfInBounds_toArray, List.set_cons_zero, List.set_cons_succ]
            exact ⟨_, x32, x36, rfl, BW9, fun _ => rfl, fun a => h1 (by simpa using a), fun a => h5 (by simpa using a)⟩
          · refine wpOp_step (o := ?osc1) ?hosc1 (fun K hK => ?_)
            case hosc1 => simp only [List.getElem?_toArray, List.getElem?_cons_succ, List.getElem?_cons_zero]; rfl
            refine step_loadL rfl 58 (.tmp 5) rfl (w.heap.size + 1) 0 rfl nc _ Tryd.underlying58 rfl IN.out (E1.out.below BW9.out E1.out.lt).cells (hK _ _ ?_)
            clear hK K
            try simp only [Act.put, List.setIfInBounds_toArray, List.set_cons_zero, List.set_cons_succ]
            exact ⟨x31, _, x36, rfl, BW9, fun a => h0 (by simpa using a), fun _ => rfl, fun a => h5 (by simpa using a)⟩
          · obtain rfl := h0 (hdeps 0 (by simp))
            obtain rfl := h1 (hdeps 1 (by simp))
            refine wpOp_step (o := ?osc5) ?hosc5 (fun K hK => ?_)
            case hosc5 => simp only [List.getElem?_toArray, List.getElem?_cons_succ, List.getElem?_cons_zero]; rfl
            clear h5
            go_simp
            refine (CX.out w10 _ _ _ _ (RF.out w10 (DR.out.below BW9.out)) (by omega)).mono ?_
            rintro e w11 ⟨gx, rfl, hR, hgx, hX⟩
            refine hK _ _ ?_
            clear hK K
            try simp only [Act.put, List.setIfInBounds_toArray, List.set_cons_zero, List.set_cons_succ]
            exact ⟨_, _, _, rfl, BW9.out.trans (hX.mono hs9), fun _ => rfl, fun _ => rfl, fun _ => ⟨_, _, rfl, hR, fun x hx => by injection hx with hx; subst hx; exact Nat.le_trans hs9 hgx⟩⟩
        case fin4 =>
          intro a w10 hI
          obtain ⟨x31, x32, x36, rfl, BW9, h0, h1, h5⟩ := hI
          obtain ⟨AX, cx, rfl, hR, hFX⟩ := (h5 (by decide)).out
          have FX := Lib.hid (fun x hx => Nat.le_trans DW.out.size (hFX x hx))
          clear hFX
          have W9 := Lib.hid (DW.out.trans (BW9.out.mono DW.out.size))
          have HRX := Lib.hid hR
          clear h0 h1 h5 CX BW9 hR
          dsimp only
          refine wpAny_take (i := 6) (oi := ?oiz6) (v := .slice AX N cx) ?hiz6 (by kernel_rfl) (by kernel_rfl) (by kernel_rfl) ?hQz6 ?hyz6 ?restz6
          case hiz6 => simp only [List.getElem?_toArray, List.getElem?_cons_succ, List.getElem?_cons_zero]; rfl
          case hQz6 => exact fun _ _ _ h => h
          case hyz6 => exact Or.inl ⟨by rfl, by intro w; go_simp⟩
          try simp only [Act.put, List.setIfInBounds_toArray, List.set_cons_zero, List.set_cons_succ]
          refine wpAny_take (i := 7) (oi := ?oiz7) (v := .bool true) ?hiz7 (by kernel_rfl) (by kernel_rfl) (by kernel_rfl) ?hQz7 ?hyz7 ?restz7
          case hiz7 => simp only [List.getElem?_toArray, List.getElem?_cons_succ, List.getElem?_cons_zero]; rfl
          case hQz7 => exact fun _ _ _ h => h
          case hyz7 => exact Or.inl ⟨by rfl, by intro w; go_simp⟩
          try simp only [Act.put, List.setIfInBounds_toArray, List.set_cons_zero, List.set_cons_succ]
          refine wpAny_done (by kernel_rfl) ?_ _
          go_wp2_with fail
          go_ret2
          exact ⟨AX, N, cx, by rw [HOT.out]; rfl, by rw [HOP.out]; exact HRX.out, W9.out, fun x hx _ => FX.out x hx⟩
      · have HOF : Hid (Ae.opens key nonce ad cc = false) := by unfold Hid; rw [HOE.out]; simpa using hEq
        have HOP : Hid (Ae.opened key nonce ad cc = []) := by unfold Hid; rw [HOX.out, if_neg (by simpa using hEq)]
        have hsB : sameB mk tl = false := by unfold sameB; simpa using hEq
        rw [hsB]
        clear hsB hEq
        refine wpAny_take (i := 5) (oi := ?oiw6) (v := .bool true) ?hiw6 (by kernel_rfl) (by kernel_rfl) (by kernel_rfl) ?hQw6 ?hyw6 ?restw6
        case hiw6 => simp only [List.getElem?_toArray, List.getElem?_cons_succ, List.getElem?_cons_zero]; rfl
        case hQw6 => exact fun _ _ _ h => h
        case hyw6 => exact Or.inl ⟨by rfl, by intro w; go_simp⟩
        try simp only [Act.put, List.setIfInBounds_toArray, List.set_cons_zero, List.set_cons_succ]
        refine wpAny_done (by kernel_rfl) ?_ _
        go_wp2_with fail
        go_ret2
        exact ⟨none, 0, 0, by rw [HOF.out]; rfl, by rw [HOP.out]; exact Rd.nil _ _ _ (by unfold maxLen; omega), W8.out, fun x hx => by cases hx⟩

theorem open_any (key nonce : List UInt8) {w : World} {A A' : Option Addr} {n c n' c' : Nat} {ad cc : List UInt8} (hk : key.length = 32) (hn : nonce.length = 12) (hra : Rd w A n c ad) (hrc : Rd w A' n' c' cc) (hn1 : n ≤ 10000) (hn2 : n' ≤ 10000) :
    Calls Tryd.prog 27 #[.agg (key.map cellOf).toArray, .agg (nonce.map cellOf).toArray, .slice A n c, .slice A' n' c'] w (RetO w (Ae.opened key nonce ad cc) (Ae.opens key nonce ad cc)) :=
  (open_new key nonce hk hn hra hrc hn1 hn2).mono fun _ _ ⟨A, n, c, h1, h2, h3, _⟩ => ⟨A, n, c, h1, h2, h3⟩
theorem aeOk : AeOk := ⟨fun key nonce _ _ _ _ _ _ _ _ _ hk hn h1 h2 h3 h4 => seal_any key nonce hk hn h1 h2 h3 h4, fun key nonce _ _ _ _ _ _ _ _ _ hk hn h1 h2 h3 h4 => open_any key nonce hk hn h1 h2 h3 h4⟩
end Go.Proofs.YtpbfeobifpmjbaaDoor
