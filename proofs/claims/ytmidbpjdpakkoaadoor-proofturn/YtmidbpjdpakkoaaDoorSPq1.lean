import Derived.Lib.Tables
import Derived.Test.YtmidbpjdpakkoaaDoorSGsha3
import Derived.Test.YtmidbpjdpakkoaaDoorSTbit
import Derived.Test.YtmidbpjdpakkoaaDoorSTpm
namespace Go.Proofs.YtmidbpjdpakkoaaDoor
set_option linter.unusedVariables false
set_option linter.unusedSimpArgs false
set_option maxRecDepth 100000
open Go.RowKit
set_option maxRecDepth 100000 in
theorem pbit_any {h : List UInt8} (hl : h.length = 32) {d : Nat} (hd : d < 256) (w : World) : Calls Tryd.prog 55 #[hv h, .int .i64 (d : Int)] w fun e w' => e = .returned (.int .i64 (bitI h d)) ∧ Below w.heap.size w w' := by
  have hi := bitI_eq h d
  obtain ⟨y, hy⟩ : ∃ y, y = h.getD (d / 8) 0 := ⟨_, rfl⟩
  rw [← hy] at hi
  unfold hv
  obtain ⟨L, hL⟩ : ∃ L, L = h.map cellOf := ⟨_, rfl⟩
  rw [← hL]
  have hc : L[d / 8]? = some (.int .u8 (y.toNat : Int)) := by
    rw [hL, List.getElem?_map, hy, List.getD_eq_getElem?_getD, List.getElem?_eq_getElem (by omega)]
    rfl
  have X0 := Lib.hid (alloc_below w (.cells L.toArray 30))
  have B0 := Lib.hid (Blk.new w 30 L)
  have hyl := y.toNat_lt
  obtain ⟨hs1, hs2, hs3⟩ := shr_byte y (7 - d % 8)
  have HI : Hid (bitI h d = (y.toNat : Int) / 2 ^ (7 - d % 8) % 2) := by unfold Hid; rw [hi]; omega
  clear hL hy hi hs3
  go_enter Tryd.func55, Tryd.ntmps55
  go_upto_region 1 with (fail)
  generalize w.alloc (.cells L.toArray 30) = w1 at *
  have c0 : w1.cell? ⟨w.heap.size, d / 8, none⟩ = some (.int .u8 (y.toNat : Int)) := by rw [B0.out.cell]; exact hc
  go_wp2_with fail
  go_ret
  exact ⟨ret_int (by rw [HI.out]; rw [and_one8 _ ⟨hs1, hs2⟩]; unfold wrap64; omega), X0.out⟩
theorem lz_facts : ∀ n : Fin 256, 0 ≤ Lib.len8 (n.val : Int) ∧ Lib.len8 (n.val : Int) ≤ 8 ∧ (n.val ≠ 0 → 8 - (Lib.len8 (n.val : Int)).toNat < 8 ∧ (∀ j : Fin 8, j.val < 8 - (Lib.len8 (n.val : Int)).toNat → n.val / 2 ^ (7 - j.val) % 2 = 0) ∧ n.val / 2 ^ (7 - (8 - (Lib.len8 (n.val : Int)).toNat)) % 2 = 1) := by decide +kernel
theorem xor_bit (x y : UInt8) (k : Nat) : (x ^^^ y).toNat / 2 ^ k % 2 = (x.toNat / 2 ^ k % 2 + y.toNat / 2 ^ k % 2) % 2 := by
  rw [UInt8.toNat_xor]
  have h := Nat.testBit_xor x.toNat y.toNat k
  rw [Nat.testBit_eq_decide_div_mod_eq, Nat.testBit_eq_decide_div_mod_eq, Nat.testBit_eq_decide_div_mod_eq] at h
  rcases Nat.mod_two_eq_zero_or_one ((x.toNat ^^^ y.toNat) / 2 ^ k) with h0 | h0 <;> rcases Nat.mod_two_eq_zero_or_one (x.toNat / 2 ^ k) with h1 | h1 <;> rcases Nat.mod_two_eq_zero_or_one (y.toNat / 2 ^ k) with h2 | h2 <;> rw [h0, h1, h2] at h ⊢ <;> simp at h ⊢
def lz (x : UInt8) : Nat := 8 - (Lib.len8 (x.toNat : Int)).toNat
theorem lz_f (x : UInt8) : 0 ≤ Lib.len8 (x.toNat : Int) ∧ Lib.len8 (x.toNat : Int) ≤ 8 ∧ (x.toNat ≠ 0 → lz x < 8 ∧ (∀ j, j < lz x → x.toNat / 2 ^ (7 - j) % 2 = 0) ∧ x.toNat / 2 ^ (7 - lz x) % 2 = 1) := by
  obtain ⟨h1, h2, h3⟩ := lz_facts ⟨x.toNat, x.toNat_lt⟩
  refine ⟨h1, h2, fun h => ?_⟩
  obtain ⟨h4, h5, h6⟩ := h3 h
  refine ⟨h4, fun j hj => h5 ⟨j, ?_⟩ hj, h6⟩
  unfold lz at hj
  omega
theorem lz_part {a b : List UInt8} {i : Nat} (hi : i < 32) (hs : ∀ j, j < i → a.getD j 0 = b.getD j 0) (hn : a.getD i 0 ≠ b.getD i 0) : Tm.part a b = 8 * i + lz (a.getD i 0 ^^^ b.getD i 0) := by
  generalize hx : a.getD i 0 = x at *
  generalize hy : b.getD i 0 = y at *
  have h0 : (x ^^^ y).toNat ≠ 0 := fun h => by
    have : x ^^^ y = 0 := UInt8.toNat_inj.1 h
    exact hn (UInt8.xor_eq_zero_iff.1 this)
  obtain ⟨_, _, h⟩ := lz_f (x ^^^ y)
  obtain ⟨h1, h2, h3⟩ := h h0
  refine Tm.part_byte hi hs h1 (fun j hj => ?_) ?_
  · have e := xor_bit x y (7 - j)
    rw [h2 j hj] at e
    rw [hx, hy]
    omega
  · have e := xor_bit x y (7 - lz (x ^^^ y))
    rw [h3] at e
    rw [hx, hy]
    intro h'
    rw [h'] at e
    omega
theorem len8_any (x : UInt8) (w : World) : Calls Tryd.prog 75 #[.int .u8 (x.toNat : Int)] w fun e w' => e = .returned (.int .i64 (Lib.len8 (x.toNat : Int))) ∧ w = w' := by
  have hx := x.toNat_lt
  have h1 := (lz_f x).1
  have h2 := (lz_f x).2.1
  obtain ⟨n, hn⟩ : ∃ n : Int, n = (x.toNat : Int) := ⟨_, rfl⟩
  have hn0 : 0 ≤ n := by omega
  have hn1 : n ≤ 255 := by omega
  rw [← hn] at h1 h2 ⊢
  clear hn hx
  go_enter Tryd.func75, Tryd.ntmps75
  go_wp2_with fail
  go_ret
  exact ⟨ret_int (by first | rfl | (unfold wrap64; omega) | omega), rfl⟩
theorem lz_any (x : UInt8) (w : World) : Calls Tryd.prog 64 #[.int .u8 (x.toNat : Int)] w fun e w' => e = .returned (.int .i64 (lz x : Int)) ∧ w = w' := by
  have h1 := (lz_f x).1
  have h2 := (lz_f x).2.1
  have CL := Lib.hid (len8_any x w)
  obtain ⟨q, hq⟩ : ∃ q, q = Lib.len8 (x.toNat : Int) := ⟨_, rfl⟩
  obtain ⟨z, hz⟩ : ∃ z, z = lz x := ⟨_, rfl⟩
  have HZ : Hid ((z : Int) = 8 - q) := by unfold Hid; rw [hz, hq]; unfold lz; omega
  rw [← hq] at CL h1 h2
  rw [← hz]
  obtain ⟨n, hn⟩ : ∃ n : Int, n = (x.toNat : Int) := ⟨_, rfl⟩
  rw [← hn] at CL ⊢
  clear hq hz hn
  go_enter Tryd.func64, Tryd.ntmps64
  go_wp2_with (go_at_call 75; refine CL.out.mono ?_; rintro e w1 ⟨rfl, rfl⟩)
  go_ret
  exact ⟨ret_int (by rw [HZ.out]), rfl⟩
set_option maxRecDepth 100000 in
set_option maxHeartbeats 1000000 in
theorem shared_any {a b : List UInt8} (ha : a.length = 32) (hb : b.length = 32) (w : World) : Calls Tryd.prog 56 #[hv a, hv b] w fun e w' => e = .returned (.int .i64 (Tm.part a b : Int)) ∧ Below w.heap.size w w' := by
  unfold hv
  obtain ⟨w1, hw1⟩ : ∃ w1, w1 = (w.alloc (.cells (a.map cellOf).toArray 30)).alloc (.cells (b.map cellOf).toArray 30) := ⟨_, rfl⟩
  have X1 : Hid (Below w.heap.size w w1) := by unfold Hid; rw [hw1]; exact ((Below.refl _ _).alloc (Nat.le_refl _) _).alloc (by simp) _
  have BA : Hid (Blk w1 w.heap.size 30 (a.map cellOf)) := by unfold Hid; rw [hw1]; exact (Blk.new w 30 _).alloc _
  have BB : Hid (Blk w1 (w.heap.size + 1) 30 (b.map cellOf)) := by unfold Hid; rw [hw1]; exact Blk.at_new _ _ 30 _ _ rfl (by simp)
  have HA : Hid (∀ m, m < 32 → (a.map cellOf)[m]? = some (.int .u8 ((a.getD m 0).toNat : Int))) := fun m hm => by
    rw [List.getElem?_map, List.getD_eq_getElem?_getD, List.getElem?_eq_getElem (by omega)]; rfl
  have HB : Hid (∀ m, m < 32 → (b.map cellOf)[m]? = some (.int .u8 ((b.getD m 0).toNat : Int))) := fun m hm => by
    rw [List.getElem?_map, List.getD_eq_getElem?_getD, List.getElem?_eq_getElem (by omega)]; rfl
  have HP : Hid ((∀ j, j < 32 → a.getD j 0 = b.getD j 0) → Tm.part a b = 256) := fun h => by
    have : a = b := List.ext_getElem (by omega) fun i h1 h2 => by
      have := h i (by omega)
      rwa [← List.getElem_eq_getD (h := h1), ← List.getElem_eq_getD (h := h2)] at this
    rw [this]; exact Tm.part_full
  obtain ⟨AL, hAL⟩ : ∃ L, L = a.map cellOf := ⟨_, rfl⟩
  obtain ⟨BL, hBL⟩ : ∃ L, L = b.map cellOf := ⟨_, rfl⟩
  rw [← hAL] at BA HA hw1 ⊢
  rw [← hBL] at BB HB hw1 ⊢
  clear hAL hBL ha hb
  go_enter Tryd.func56, Tryd.ntmps56
  go_upto_region 1 with (fail)
  change Code.wp _ _ _ _ ((w.alloc (.cells AL.toArray 30)).alloc (.cells BL.toArray 30))
  rw [← hw1]
  clear hw1
  go_wp2_with fail
  go_loopw [5, 6] (fun lv iv wr => ∃ m : Nat, m ≤ 32 ∧ iv = .int .i64 (m : Int) ∧ Hid (∀ j, j < m → a.getD j 0 = b.getD j 0) ∧ Hid (Blk wr w.heap.size 30 AL) ∧ Hid (Blk wr (w.heap.size + 1) 30 BL) ∧ Hid (Below w.heap.size w wr)) (fun _ i _ => 32 - (intOf i).toNat)
  case atStart => exact ⟨0, Nat.zero_le _, rfl, fun j hj => absurd hj (Nat.not_lt_zero j), BA, BB, X1⟩
  case round =>
    clear BA BB X1 w1
    obtain ⟨m, hm, rfl, HS, BA, BB, W1⟩ := hrel
    by_cases hm32 : m < 32
    case neg =>
      obtain rfl : m = 32 := by omega
      go_wp2_with fail
      go_ret
      exact ⟨ret_int (by rw [HP.out HS.out]; rfl), W1.out⟩
    have ha := HA.out m hm32
    have hb := HB.out m hm32
    have HLZ : Hid (a.getD m 0 ≠ b.getD m 0 → Tm.part a b = 8 * m + lz (a.getD m 0 ^^^ b.getD m 0)) := lz_part hm32 HS.out
    have CZ : Hid (∀ W, Calls Tryd.prog 64 #[.int .u8 (bits .xor .u8 ((a.getD m 0).toNat : Int) ((b.getD m 0).toNat : Int))] W fun e w' => e = .returned (.int .i64 (lz (a.getD m 0 ^^^ b.getD m 0) : Int)) ∧ W = w') := fun W => by rw [xor_cell]; exact lz_any _ W
    have hz8 : lz (a.getD m 0 ^^^ b.getD m 0) ≤ 8 := by unfold lz; omega
    obtain ⟨z, hz⟩ : ∃ z, z = lz (a.getD m 0 ^^^ b.getD m 0) := ⟨_, rfl⟩
    rw [← hz] at HLZ CZ hz8
    obtain ⟨xa, hxa⟩ : ∃ z : Int, z = ((a.getD m 0).toNat : Int) := ⟨_, rfl⟩
    obtain ⟨xb, hxb⟩ : ∃ z : Int, z = ((b.getD m 0).toNat : Int) := ⟨_, rfl⟩
    rw [← hxa] at ha CZ
    rw [← hxb] at hb CZ
    have HN : Hid (xa = xb → a.getD m 0 = b.getD m 0) := fun e => UInt8.toNat_inj.1 (by omega)
    have HXA := Lib.hid ha
    have HXB := Lib.hid hb
    have hd : decide ((m : Int) < 32) = true := decide_eq_true (by omega)
    have HXN : Hid (a.getD m 0 = b.getD m 0 → xa = xb) := fun e => by rw [hxa, hxb, e]
    clear ha hb hz hxa hxb
    go_upto_region 4 with (fail)
    have hni : ¬ (32 : Int) ≤ (m : Int) := by omega
    have hw8 : IntKind.i64.wrap (8 * (m : Int)) = 8 * (m : Int) := by rw [IntKind.wrap_i64]; omega
    have hw9 : IntKind.i64.wrap (8 * (m : Int) + (z : Int)) = 8 * (m : Int) + (z : Int) := by rw [IntKind.wrap_i64]; omega
    clear hd
    replace BA := Lib.hid BA.out.drew
    replace BB := Lib.hid BB.out.drew
    replace W1 := Lib.hid W1.out.drew
    refine wp_region_any (by kernel_rfl) ?_
    change wpAny _ _ _ _ _ _ _ (World.drew _)
    generalize wr.drew = wd at *
    by_cases hx : xa = xb
    · subst hx
      have HS' : Hid (∀ j, j < m + 1 → a.getD j 0 = b.getD j 0) := fun j hj => by
        rcases Nat.lt_or_ge j m with h | h
        · exact HS.out j h
        · rw [show j = m by omega]; exact HN.out rfl
      clear HN CZ HLZ HXN
      refine wpAny_take (i := 0) (oi := ?oi1) (v := .int .i64 (m : Int)) ?hi1 (by kernel_rfl) (by kernel_rfl) (by kernel_rfl) ?hQ1 ?hy1 ?rest1
      case hi1 => simp only [zge]; rfl
      case hQ1 => exact fun _ _ _ h => h
      case hy1 => exact Or.inl ⟨by rfl, by intro w; go_simp⟩
      try simp only [zpt]
      refine wpAny_take (i := 1) (oi := ?oi2) (v := .pointer (some ⟨w.heap.size, m, none⟩)) ?hi2 (by kernel_rfl) (by kernel_rfl) (by kernel_rfl) ?hQ2 ?hy2 ?rest2
      case hi2 => simp only [zge]; rfl
      case hQ2 => exact fun _ _ _ h => h
      case hy2 => exact Or.inl ⟨by rfl, by intro w; go_simp⟩
      try simp only [zpt]
      refine wpAny_take (i := 3) (oi := ?oi3) (v := .int .i64 (m : Int)) ?hi3 (by kernel_rfl) (by kernel_rfl) (by kernel_rfl) ?hQ3 ?hy3 ?rest3
      case hi3 => simp only [zge]; rfl
      case hQ3 => exact fun _ _ _ h => h
      case hy3 => exact Or.inl ⟨by rfl, by intro w; go_simp⟩
      try simp only [zpt]
      refine wpAny_take (i := 4) (oi := ?oi4) (v := .pointer (some ⟨w.heap.size + 1, m, none⟩)) ?hi4 (by kernel_rfl) (by kernel_rfl) (by kernel_rfl) ?hQ4 ?hy4 ?rest4
      case hi4 => simp only [zge]; rfl
      case hQ4 => exact fun _ _ _ h => h
      case hy4 => exact Or.inl ⟨by rfl, by intro w; go_simp⟩
      try simp only [zpt]
      refine phaseL (fun i => if i = 6 then [2, 5] else []) (fun d a w' => ∃ x11 x14 x15 : Value, a = { tmps := #[.agg AL.toArray, .agg BL.toArray, .pointer (some ⟨w.heap.size, 0, none⟩), .pointer (some ⟨w.heap.size + 1, 0, none⟩), u4, .int .i64 (m : Int), .int .i64 (m : Int), .bool true, .int .i64 (m : Int), .int .i64 (m : Int), .pointer (some ⟨w.heap.size, m, none⟩), x11, .int .i64 (m : Int), .pointer (some ⟨w.heap.size + 1, m, none⟩), x14, x15, u16, u17, u18, u19, u20, u21, u22, u23, u24, u25, u26, u27], defers := [] } ∧ Hid (Below wd.heap.size wd w') ∧ (d 2 = true → x11 = .int .u8 xa) ∧ (d 5 = true → x14 = .int .u8 xa) ∧ (d 6 = true → x15 = .bool false)) [2, 5, 6] ?step5 0 3 [2, 5, 6] _ _ _ rfl (by decide) (fun _ h => h) (Fits.of (by kernel_rfl)) ?init5 ?fin5
      case init5 => refine ⟨_, _, _, rfl, Below.refl _ _, ?_, ?_, ?_⟩ <;> (intro h; exact absurd h (by decide))
      case step5 =>
        intro i hi d a v5 hI hdi hdeps
        obtain ⟨x11, x14, x15, rfl, BW, h2, h5, h6⟩ := hI
        have hsw := BW.out.size
        simp only [List.mem_cons, List.not_mem_nil, or_false] at hi
        rcases hi with rfl | rfl | rfl
        · have c0 : v5.cell? ⟨w.heap.size, m, none⟩ = some (.int .u8 xa) := ((BA.out.below BW.out BA.out.lt).cell m).trans HXA.out
          refine wpOp_step (o := ?os6) ?hos6 (fun K hK => ?_)
          case hos6 => simp only [zge]; rfl
          go_simp
          refine hK _ _ ?_
          clear hK K
          try simp only [zpt]
          exact ⟨_, _, _, rfl, BW, fun _ => rfl, fun a => by first | exact h5 (by simpa using a) | rfl, fun a => by first | exact h6 (by simpa using a) | rfl⟩
        · have c0 : v5.cell? ⟨w.heap.size + 1, m, none⟩ = some (.int .u8 xa) := ((BB.out.below BW.out BB.out.lt).cell m).trans HXB.out
          refine wpOp_step (o := ?os7) ?hos7 (fun K hK => ?_)
          case hos7 => simp only [zge]; rfl
          go_simp
          refine hK _ _ ?_
          clear hK K
          try simp only [zpt]
          exact ⟨_, _, _, rfl, BW, fun a => by first | exact h2 (by simpa using a) | rfl, fun _ => rfl, fun a => by first | exact h6 (by simpa using a) | rfl⟩
        · obtain rfl := h2 (hdeps 2 (by simp))
          obtain rfl := h5 (hdeps 5 (by simp))
          refine wpOp_step (o := ?os8) ?hos8 (fun K hK => ?_)
          case hos8 => simp only [zge]; rfl
          go_simp
          refine hK _ _ ?_
          clear hK K
          try simp only [zpt]
          exact ⟨_, _, _, rfl, BW, fun a => by first | exact h2 (by simpa using a) | rfl, fun a => by first | exact h5 (by simpa using a) | rfl, fun _ => rfl⟩
      case fin5 =>
        intro a v5 hI
        obtain ⟨x11, x14, x15, rfl, BW, h2, h5, h6⟩ := hI
        obtain rfl := h2 (by decide)
        obtain rfl := h5 (by decide)
        obtain rfl := h6 (by decide)
        have BA4 := Lib.hid (BA.out.below BW.out BA.out.lt)
        have BB4 := Lib.hid (BB.out.below BW.out BB.out.lt)
        have W4 := Lib.hid (W1.out.trans (BW.out.mono W1.out.size))
        clear BA BB W1 BW
        try dsimp only
        refine wpAny_done (by kernel_rfl) ?_ _
        go_wp2_with fail
        go_roundw
        case rel => exact ⟨m + 1, by omega, by go_num, HS', BA4, BB4, W4⟩
        case measure => simp [intOf]; omega
    · have hxn : (xa != xb) = true := by simpa using hx
      have HNE : Hid (a.getD m 0 ≠ b.getD m 0) := fun e => hx (HXN.out e)
      clear HN hx HXN
      refine wpAny_take (i := 0) (oi := ?oi9) (v := .int .i64 (m : Int)) ?hi9 (by kernel_rfl) (by kernel_rfl) (by kernel_rfl) ?hQ9 ?hy9 ?rest9
      case hi9 => simp only [zge]; rfl
      case hQ9 => exact fun _ _ _ h => h
      case hy9 => exact Or.inl ⟨by rfl, by intro w; go_simp⟩
      try simp only [zpt]
      refine wpAny_take (i := 1) (oi := ?oi10) (v := .pointer (some ⟨w.heap.size, m, none⟩)) ?hi10 (by kernel_rfl) (by kernel_rfl) (by kernel_rfl) ?hQ10 ?hy10 ?rest10
      case hi10 => simp only [zge]; rfl
      case hQ10 => exact fun _ _ _ h => h
      case hy10 => exact Or.inl ⟨by rfl, by intro w; go_simp⟩
      try simp only [zpt]
      refine wpAny_take (i := 3) (oi := ?oi11) (v := .int .i64 (m : Int)) ?hi11 (by kernel_rfl) (by kernel_rfl) (by kernel_rfl) ?hQ11 ?hy11 ?rest11
      case hi11 => simp only [zge]; rfl
      case hQ11 => exact fun _ _ _ h => h
      case hy11 => exact Or.inl ⟨by rfl, by intro w; go_simp⟩
      try simp only [zpt]
      refine wpAny_take (i := 4) (oi := ?oi12) (v := .pointer (some ⟨w.heap.size + 1, m, none⟩)) ?hi12 (by kernel_rfl) (by kernel_rfl) (by kernel_rfl) ?hQ12 ?hy12 ?rest12
      case hi12 => simp only [zge]; rfl
      case hQ12 => exact fun _ _ _ h => h
      case hy12 => exact Or.inl ⟨by rfl, by intro w; go_simp⟩
      try simp only [zpt]
      refine phaseL (fun i => if i = 6 then [2, 5] else []) (fun d a w' => ∃ x11 x14 x15 : Value, a = { tmps := #[.agg AL.toArray, .agg BL.toArray, .pointer (some ⟨w.heap.size, 0, none⟩), .pointer (some ⟨w.heap.size + 1, 0, none⟩), u4, .int .i64 (m : Int), .int .i64 (m : Int), .bool true, .int .i64 (m : Int), .int .i64 (m : Int), .pointer (some ⟨w.heap.size, m, none⟩), x11, .int .i64 (m : Int), .pointer (some ⟨w.heap.size + 1, m, none⟩), x14, x15, u16, u17, u18, u19, u20, u21, u22, u23, u24, u25, u26, u27], defers := [] } ∧ Hid (Below wd.heap.size wd w') ∧ (d 2 = true → x11 = .int .u8 xa) ∧ (d 5 = true → x14 = .int .u8 xb) ∧ (d 6 = true → x15 = .bool true)) [2, 5, 6] ?step13 0 3 [2, 5, 6] _ _ _ rfl (by decide) (fun _ h => h) (Fits.of (by kernel_rfl)) ?init13 ?fin13
      case init13 => refine ⟨_, _, _, rfl, Below.refl _ _, ?_, ?_, ?_⟩ <;> (intro h; exact absurd h (by decide))
      case step13 =>
        intro i hi d a v13 hI hdi hdeps
        obtain ⟨x11, x14, x15, rfl, BW, h2, h5, h6⟩ := hI
        have hsw := BW.out.size
        simp only [List.mem_cons, List.not_mem_nil, or_false] at hi
        rcases hi with rfl | rfl | rfl
        · have c0 : v13.cell? ⟨w.heap.size, m, none⟩ = some (.int .u8 xa) := ((BA.out.below BW.out BA.out.lt).cell m).trans HXA.out
          refine wpOp_step (o := ?os14) ?hos14 (fun K hK => ?_)
          case hos14 => simp only [zge]; rfl
          go_simp
          refine hK _ _ ?_
          clear hK K
          try simp only [zpt]
          exact ⟨_, _, _, rfl, BW, fun _ => rfl, fun a => by first | exact h5 (by simpa using a) | rfl, fun a => by first | exact h6 (by simpa using a) | rfl⟩
        · have c0 : v13.cell? ⟨w.heap.size + 1, m, none⟩ = some (.int .u8 xb) := ((BB.out.below BW.out BB.out.lt).cell m).trans HXB.out
          refine wpOp_step (o := ?os15) ?hos15 (fun K hK => ?_)
          case hos15 => simp only [zge]; rfl
          go_simp
          refine hK _ _ ?_
          clear hK K
          try simp only [zpt]
          exact ⟨_, _, _, rfl, BW, fun a => by first | exact h2 (by simpa using a) | rfl, fun _ => rfl, fun a => by first | exact h6 (by simpa using a) | rfl⟩
        · obtain rfl := h2 (hdeps 2 (by simp))
          obtain rfl := h5 (hdeps 5 (by simp))
          refine wpOp_step (o := ?os16) ?hos16 (fun K hK => ?_)
          case hos16 => simp only [zge]; rfl
          go_simp
          refine hK _ _ ?_
          clear hK K
          try simp only [zpt]
          exact ⟨_, _, _, rfl, BW, fun a => by first | exact h2 (by simpa using a) | rfl, fun a => by first | exact h5 (by simpa using a) | rfl, fun _ => rfl⟩
      case fin13 =>
        intro a v13 hI
        obtain ⟨x11, x14, x15, rfl, BW, h2, h5, h6⟩ := hI
        obtain rfl := h2 (by decide)
        obtain rfl := h5 (by decide)
        obtain rfl := h6 (by decide)
        have BA4 := Lib.hid (BA.out.below BW.out BA.out.lt)
        have BB4 := Lib.hid (BB.out.below BW.out BB.out.lt)
        have W4 := Lib.hid (W1.out.trans (BW.out.mono W1.out.size))
        clear BA BB W1 BW
        try dsimp only
        refine wpAny_done (by kernel_rfl) ?_ _
        go_upto_region 5 with (fail)
        replace BA4 := Lib.hid BA4.out.drew
        replace BB4 := Lib.hid BB4.out.drew
        replace W4 := Lib.hid W4.out.drew
        refine wp_region_any (by kernel_rfl) ?_
        change wpAny _ _ _ _ _ _ _ (World.drew _)
        generalize v13.drew = we at *
        refine wpAny_take (i := 0) (oi := ?oi17) (v := .int .i64 (m : Int)) ?hi17 (by kernel_rfl) (by kernel_rfl) (by kernel_rfl) ?hQ17 ?hy17 ?rest17
        case hi17 => simp only [zge]; rfl
        case hQ17 => exact fun _ _ _ h => h
        case hy17 => exact Or.inl ⟨by rfl, by intro w; go_simp⟩
        try simp only [zpt]
        refine wpAny_take (i := 1) (oi := ?oi18) (v := .int .i64 (8 * (m : Int))) ?hi18 (by kernel_rfl) (by kernel_rfl) (by kernel_rfl) ?hQ18 ?hy18 ?rest18
        case hi18 => simp only [zge]; rfl
        case hQ18 => exact fun _ _ _ h => h
        case hy18 => exact Or.inl ⟨by rfl, by intro w; go_simp⟩
        try simp only [zpt]
        refine wpAny_take (i := 2) (oi := ?oi19) (v := .int .i64 (m : Int)) ?hi19 (by kernel_rfl) (by kernel_rfl) (by kernel_rfl) ?hQ19 ?hy19 ?rest19
        case hi19 => simp only [zge]; rfl
        case hQ19 => exact fun _ _ _ h => h
        case hy19 => exact Or.inl ⟨by rfl, by intro w; go_simp⟩
        try simp only [zpt]
        refine wpAny_take (i := 3) (oi := ?oi20) (v := .pointer (some ⟨w.heap.size, m, none⟩)) ?hi20 (by kernel_rfl) (by kernel_rfl) (by kernel_rfl) ?hQ20 ?hy20 ?rest20
        case hi20 => simp only [zge]; rfl
        case hQ20 => exact fun _ _ _ h => h
        case hy20 => exact Or.inl ⟨by rfl, by intro w; go_simp⟩
        try simp only [zpt]
        refine wpAny_take (i := 5) (oi := ?oi21) (v := .int .i64 (m : Int)) ?hi21 (by kernel_rfl) (by kernel_rfl) (by kernel_rfl) ?hQ21 ?hy21 ?rest21
        case hi21 => simp only [zge]; rfl
        case hQ21 => exact fun _ _ _ h => h
        case hy21 => exact Or.inl ⟨by rfl, by intro w; go_simp⟩
        try simp only [zpt]
        refine wpAny_take (i := 6) (oi := ?oi22) (v := .pointer (some ⟨w.heap.size + 1, m, none⟩)) ?hi22 (by kernel_rfl) (by kernel_rfl) (by kernel_rfl) ?hQ22 ?hy22 ?rest22
        case hi22 => simp only [zge]; rfl
        case hQ22 => exact fun _ _ _ h => h
        case hy22 => exact Or.inl ⟨by rfl, by intro w; go_simp⟩
        try simp only [zpt]
        refine phaseL (fun i => if i = 8 then [4, 7] else []) (fun d a w' => ∃ x20 x23 x24 : Value, a = { tmps := #[.agg AL.toArray, .agg BL.toArray, .pointer (some ⟨w.heap.size, 0, none⟩), .pointer (some ⟨w.heap.size + 1, 0, none⟩), u4, .int .i64 (m : Int), .int .i64 (m : Int), .bool true, .int .i64 (m : Int), .int .i64 (m : Int), .pointer (some ⟨w.heap.size, m, none⟩), .int .u8 xa, .int .i64 (m : Int), .pointer (some ⟨w.heap.size + 1, m, none⟩), .int .u8 xb, .bool true, .int .i64 (m : Int), .int .i64 (8 * (m : Int)), .int .i64 (m : Int), .pointer (some ⟨w.heap.size, m, none⟩), x20, .int .i64 (m : Int), .pointer (some ⟨w.heap.size + 1, m, none⟩), x23, x24, u25, u26, u27], defers := [] } ∧ Hid (Below we.heap.size we w') ∧ (d 4 = true → x20 = .int .u8 xa) ∧ (d 7 = true → x23 = .int .u8 xb) ∧ (d 8 = true → x24 = .int .u8 (bits .xor .u8 xa xb))) [4, 7, 8] ?step23 3 3 [4, 7, 8] _ _ _ rfl (by decide) (fun _ h => h) (Fits.of (by kernel_rfl)) ?init23 ?fin23
        case init23 => refine ⟨_, _, _, rfl, Below.refl _ _, ?_, ?_, ?_⟩ <;> (intro h; exact absurd h (by decide))
        case step23 =>
          intro i hi d a v23 hI hdi hdeps
          obtain ⟨x20, x23, x24, rfl, BW, h4, h7, h8⟩ := hI
          have hsw := BW.out.size
          simp only [List.mem_cons, List.not_mem_nil, or_false] at hi
          rcases hi with rfl | rfl | rfl
          · have c0 : v23.cell? ⟨w.heap.size, m, none⟩ = some (.int .u8 xa) := ((BA4.out.below BW.out BA4.out.lt).cell m).trans HXA.out
            refine wpOp_step (o := ?os24) ?hos24 (fun K hK => ?_)
            case hos24 => simp only [zge]; rfl
            go_simp
            refine hK _ _ ?_
            clear hK K
            try simp only [zpt]
            exact ⟨_, _, _, rfl, BW, fun _ => rfl, fun a => by first | exact h7 (by simpa using a) | rfl, fun a => by first | exact h8 (by simpa using a) | rfl⟩
          · have c0 : v23.cell? ⟨w.heap.size + 1, m, none⟩ = some (.int .u8 xb) := ((BB4.out.below BW.out BB4.out.lt).cell m).trans HXB.out
            refine wpOp_step (o := ?os25) ?hos25 (fun K hK => ?_)
            case hos25 => simp only [zge]; rfl
            go_simp
            refine hK _ _ ?_
            clear hK K
            try simp only [zpt]
            exact ⟨_, _, _, rfl, BW, fun a => by first | exact h4 (by simpa using a) | rfl, fun _ => rfl, fun a => by first | exact h8 (by simpa using a) | rfl⟩
          · obtain rfl := h4 (hdeps 4 (by simp))
            obtain rfl := h7 (hdeps 7 (by simp))
            refine wpOp_step (o := ?os26) ?hos26 (fun K hK => ?_)
            case hos26 => simp only [zge]; rfl
            go_simp
            refine hK _ _ ?_
            clear hK K
            try simp only [zpt]
            exact ⟨_, _, _, rfl, BW, fun a => by first | exact h4 (by simpa using a) | rfl, fun a => by first | exact h7 (by simpa using a) | rfl, fun _ => rfl⟩
        case fin23 =>
          intro a v23 hI
          obtain ⟨x20, x23, x24, rfl, BW, h4, h7, h8⟩ := hI
          obtain rfl := h4 (by decide)
          obtain rfl := h7 (by decide)
          obtain rfl := h8 (by decide)
          have W5 := Lib.hid (W4.out.trans (BW.out.mono W4.out.size))
          clear BA4 BB4 W4 BW
          try dsimp only
          refine wpAny_ready (rs := [9]) (by kernel_rfl) (by simp) ?_
          refine AllReady.cons (o := ?p27) ?q27 (fun K hK => ?_) AllReady.nil
          case q27 => simp only [zge]; rfl
          go_simp
          refine (CZ.out v23).mono ?_
          rintro e w5 ⟨rfl, rfl⟩
          refine hK _ _ ?_
          clear hK K
          try simp only [zpt]
          refine wpAny_take (i := 10) (oi := ?oi28) (v := .int .i64 (8 * (m : Int) + (z : Int))) ?hi28 (by kernel_rfl) (by kernel_rfl) (by kernel_rfl) ?hQ28 ?hy28 ?rest28
          case hi28 => simp only [zge]; rfl
          case hQ28 => exact fun _ _ _ h => h
          case hy28 => exact Or.inl ⟨by rfl, by intro w; go_simp⟩
          try simp only [zpt]
          refine wpAny_take (i := 11) (oi := ?oi29) (v := .int .i64 (8 * (m : Int) + (z : Int))) ?hi29 (by kernel_rfl) (by kernel_rfl) (by kernel_rfl) ?hQ29 ?hy29 ?rest29
          case hi29 => simp only [zge]; rfl
          case hQ29 => exact fun _ _ _ h => h
          case hy29 => exact Or.inl ⟨by rfl, by intro w; go_simp⟩
          try simp only [zpt]
          refine wpAny_done (by kernel_rfl) ?_ _
          go_wp2_with fail
          go_ret
          exact ⟨ret_int (by rw [HLZ.out HNE.out]; omega), W5.out⟩
end Go.Proofs.YtmidbpjdpakkoaaDoor
