import Derived.Test.YtnfbkimkdnbohaaGreatDoorSRec
import Derived.Lib.AppendStr
import Derived.Test.YtnfbkimkdnbohaaGreatDoorSDoc
import Derived.Test.YtnfbkimkdnbohaaGreatDoorSPhase
namespace Go.Proofs.YtnfbkimkdnbohaaGreatDoor
set_option linter.unusedVariables false
set_option linter.unusedSimpArgs false
set_option maxRecDepth 100000
open Go.RowKit
set_option maxRecDepth 100000 in
set_option maxHeartbeats 2000000 in
theorem rmr_any (r : Rc.R) (w : World) : Calls Tryz.prog 12 #[recV r] w fun e w' => e = .returned (.bool (Rc.may r)) ∧ Below w.heap.size w w' := by
  obtain ⟨v, g, l⟩ := r
  have hsz : (⟨l.toArray⟩ : ByteArray).size = l.length := by show l.toArray.size = _; simp
  have hem : ((⟨l.toArray⟩ : ByteArray) = ⟨#[]⟩) = (l = []) := by simp
  obtain ⟨res, hres⟩ : ∃ b, b = Rc.may ⟨v, g, l⟩ := ⟨_, rfl⟩
  rw [← hres]
  have HR := Lib.hid hres
  have X0 := Lib.hid (alloc_below w (.cells (recL ⟨v, g, l⟩).toArray 23))
  have B0 := Lib.hid (Blk.new w 23 (recL ⟨v, g, l⟩))
  clear hres
  unfold recV
  go_enter Tryz.func12, Tryz.ntmps12
  go_upto_region 1 with (fail)
  generalize w.alloc (.cells (recL ⟨v, g, l⟩).toArray 23) = w1 at *
  have c0 : w1.cell? ⟨w.heap.size, 0, none⟩ = some (.int .i64 v) := B0.out.cell 0
  have c1 : w1.cell? ⟨w.heap.size, 1, none⟩ = some (.bool g) := B0.out.cell 1
  have c2 : w1.cell? ⟨w.heap.size, 2, none⟩ = some (.string ⟨l.toArray⟩) := B0.out.cell 2
  by_cases h1 : v < 1
  · obtain rfl : res = false := by rw [HR.out]; simp [Rc.may]; omega
    have d1 : decide (1 ≤ v) = false := by simp; omega
    go_wp2_with fail
    go_ret
    exact ⟨rfl, X0.out⟩
  · have d1 : decide (1 ≤ v) = true := by simp; omega
    by_cases h2 : 1099511627776 < v
    · obtain rfl : res = false := by rw [HR.out]; simp [Rc.may]; omega
      have d2 : decide (v ≤ 1099511627776) = false := by simp; omega
      go_wp2_with fail
      go_ret
      exact ⟨rfl, X0.out⟩
    · have d2 : decide (v ≤ 1099511627776) = true := by simp; omega
      by_cases h3 : 1000 < l.length
      · obtain rfl : res = false := by rw [HR.out]; simp [Rc.may]; omega
        have d3 : decide ((l.length : Int) ≤ 1000) = false := by simp; omega
        go_wp2_with fail
        go_ret
        exact ⟨rfl, X0.out⟩
      · have d3 : decide ((l.length : Int) ≤ 1000) = true := by simp; omega
        cases g with
        | false =>
          obtain rfl : res = true := by rw [HR.out]; simp [Rc.may]; omega
          go_wp2_with fail
          go_ret
          exact ⟨rfl, X0.out⟩
        | true =>
          by_cases h5 : l = []
          · obtain rfl : res = true := by rw [HR.out]; simp [Rc.may, h5]; omega
            subst h5
            go_wp2_with fail
            go_ret
            exact ⟨rfl, X0.out⟩
          · obtain rfl : res = false := by rw [HR.out]; simp [Rc.may, h5]
            have h6 : l.isEmpty = false := by simpa using h5
            go_wp2_with fail
            go_ret
            exact ⟨rfl, X0.out⟩
set_option maxRecDepth 100000 in
theorem cut_eq {l : List UInt8} {w : World} (n : Nat) (hm : l.length ≤ 9223372036854775807) (hn : n ≤ 2000) :
    Calls Tryz.prog 7 #[.string ⟨l.toArray⟩, .int .i64 n] w fun e w' => e = .returned (.string ⟨(l.take n).toArray⟩) ∧ w = w' := by
  have hsz : (⟨l.toArray⟩ : ByteArray).size = l.length := by show l.toArray.size = _; simp
  have hex : (⟨l.toArray⟩ : ByteArray).extract 0 n = ⟨(l.take n).toArray⟩ := by
    apply ByteArray.ext
    simp [ByteArray.data_extract]
  by_cases h : n < l.length
  · have h1 : (n : Int) < (l.length : Int) := by omega
    go_enter Tryz.func7, Tryz.ntmps7
    go_wp2
    go_ret
    exact ⟨rfl, rfl⟩
  · have h1 : ¬ (n : Int) < (l.length : Int) := by omega
    rw [List.take_of_length_le (by omega)]
    go_enter Tryz.func7, Tryz.ntmps7
    go_wp2
    go_ret
    exact ⟨rfl, rfl⟩
end Go.Proofs.YtnfbkimkdnbohaaGreatDoor
namespace Go.Proofs.YtnfbkimkdnbohaaGreatDoor
set_option linter.unusedVariables false
set_option linter.unusedSimpArgs false
set_option maxRecDepth 100000
open Go.RowKit
theorem eight_take (v : Int) (j : Nat) (h : j < 8) : (Rc.eight v).take (j + 1) = (Rc.eight v).take j ++ [UInt8.ofNat (v.toNat / 256 ^ (7 - j) % 256)] := by
  rw [List.take_succ_eq_append_getElem (by rw [Rc.eight_length]; exact h)]
  simp [Rc.eight]
theorem eight_byte (n p : Nat) : ((n : Int) / 2 ^ (8 * p)) % 256 = ((UInt8.ofNat (n / 256 ^ p % 256)).toNat : Int) := by
  rw [UInt8.toNat_ofNat', show (256 : Nat) ^ p = 2 ^ (8 * p) by rw [Nat.pow_mul]]
  have : (2 : Int) ^ (8 * p) = ((2 ^ (8 * p) : Nat) : Int) := by simp
  rw [this]
  omega
theorem spush_law {ops : Array Oper} {rest : List Oper} {o : Oper} {a : Act} {Q : Exit → Act → World → Prop} {wr w0 : World} {B : Nat} {v : Value} {l k : List UInt8} (hgd : o.guard = none) (s x : Operand)
    (ho : o.op = .call { callee := .builtin .append, args := #[s, x], argTypes := #[24, 9] }) (hs : a.eval s = v) (hx : a.eval x = .string ⟨k.toArray⟩) (hown : Ow wr B v l)
    (hlen : l.length + k.length ≤ 140737488355328) (hB : B ≤ wr.heap.size) (hbel : Below B w0 wr)
    (h : ∀ v' w', Hid (Ow w' B v' (l ++ k)) → Hid (Below B w0 w') → wpList Tryz.prog ops Q rest (a.put o.dst v') w') : wpList Tryz.prog ops Q (o :: rest) a wr := by
  obtain ⟨i0, hi, hz0, hz1, hz2⟩ := info_parts info5
  have hsz : (⟨k.toArray⟩ : ByteArray).size = k.length := by show k.toArray.size = _; simp
  refine Lib.wpList_append_own_string _ hgd s x 24 9 ho B 5 i0 Tryz.underlying24 Tryz.underlying9 hi hz0 hz1 hz2 v l.length (l.map cellOf) hs hown ⟨k.toArray⟩ hx (by unfold maxLen; omega) (by rw [hsz]; exact hlen) hB ?_
  intro v' w' h2 h3 _
  have e : Lib.strCells ⟨k.toArray⟩ = k.map cellOf := by show k.toArray.toList.map cellOf = _; simp
  rw [e, hsz] at h2
  refine h v' w' (by unfold Hid Ow; simpa using h2) ?_
  exact hbel.grown h3 hB fun k hk => (World.ownsRow.lt hown k hk).1
theorem Ow.lower {w : World} {b b' : Nat} {v : Value} {l : List UInt8} (h : Ow w b v l) (hb : b' ≤ b) : Ow w b' v l :=
  ⟨h.1, h.2.imp id fun h => by obtain ⟨g, cap, cur, e, h1, h2⟩ := h; exact ⟨g, cap, cur, e, Nat.le_trans hb h1, h2⟩⟩
set_option maxRecDepth 100000 in
set_option maxHeartbeats 2000000 in
theorem rpad_own {w : World} {A : Option Addr} {n c : Nat} {b : List UInt8} (hr : Rd w A n c b) (hlen : b.length ≤ 2046) :
    Calls Tryz.prog 31 #[.slice A n c] w fun e w' => ∃ v, e = .returned (.tuple #[v, .int .i64 0]) ∧ Ow w' w.heap.size v (Rc.pad b) ∧ Below w.heap.size w w' := by
  have HR := Lib.hid hr
  have hl := hr.len
  have hm : n ≤ 9223372036854775807 := by have h1 := hr.cap; have h2 := hr.max; unfold maxLen at h2; omega
  have CS := Lib.hid (rsize_any (n : Int) w (by omega) (by omega))
  clear hr
  obtain ⟨ul, hul⟩ : ∃ ul, ul = Rc.pad b := ⟨_, rfl⟩
  rw [← hul]
  obtain ⟨z, hz⟩ : ∃ z, z = Rc.size (n : Int) := ⟨_, rfl⟩
  rw [← hz] at CS
  have h : n ≤ 2046 := by omega
  have hz2 : n + 2 ≤ z ∧ z ≤ 2048 := by rw [hz]; exact Rc.size_room h
  have hz0 : ¬ ((z : Int) = 0) := by omega
  obtain ⟨x, hx⟩ : ∃ x, x = UInt8.ofNat (n / 256) := ⟨_, rfl⟩
  obtain ⟨y, hy⟩ : ∃ y, y = UInt8.ofNat n := ⟨_, rfl⟩
  have ex : (n : Int) / 256 = (x.toNat : Int) := by rw [hx, UInt8.toNat_ofNat']; omega
  have ex2 : (n : Int).tdiv 256 = (x.toNat : Int) := by rw [Int.tdiv_eq_ediv_of_nonneg (by omega)]; exact ex
  have ey : (n : Int) % 256 = (y.toNat : Int) := by rw [hy, UInt8.toNat_ofNat']; omega
  have ey2 : (n : Int).tmod 256 = (y.toNat : Int) := by rw [Int.tmod_eq_emod_of_nonneg (by omega)]; exact ey
  have hx8 := x.toNat_lt
  have hy8 := y.toNat_lt
  have HP : Hid (ul = [x, y] ++ b ++ List.replicate (z - (2 + n)) 0) := by unfold Hid; rw [hul]; unfold Rc.pad Rc.two; rw [hl, ← hz, hx, hy]
  have HL := Lib.hid hl
  clear hz hl hx hy hul
  go_enter Tryz.func31, Tryz.ntmps31
  go_wp2_with fail
  refine CS.out.mono ?_
  rintro e w1 ⟨rfl, hX⟩
  have X1 := Lib.hid hX
  have R1 := Lib.hid ((HR.out.below hX).below (alloc_below w1 (.cells #[.int .u8 (x.toNat : Int), .int .u8 (y.toNat : Int)] 5)))
  have O1 := Lib.hid (own_two w1 x y)
  clear hX HR
  go_upto_region 5 with (first | (at_builtin; refine onto_law rfl (.tmp 19) (.tmp 20) rfl rfl rfl R1.out O1.out (by simp; omega) (by simp) (alloc_below w1 _) ?_; intro v2 w2 O2 X2))
  obtain ⟨A2, c2, rfl, hr2, _⟩ := O2.out.value
  have e2 : ([x, y] ++ b).length = n + 2 := by simp [HL.out]
  have O2' := Lib.hid O2.out
  rw [e2] at O2'
  rw [e2]
  have hzn : (z : Int) - ((n : Int) + 2) = ((z - (2 + n) : Nat) : Int) := by omega
  have LN : Hid (([x, y] ++ b).length + (z - (2 + n)) ≤ 1000000) := by unfold Hid; rw [e2]; omega
  have hs2 := X2.out.size
  clear hr2 O2 O1 R1 e2
  go_wp2_with (first | (at_builtin; refine zeros_law rfl (.tmp 22) (.tmp 26) rfl rfl rfl O2'.out LN.out hs2 X2.out ?_; intro v3 w3 O3 X3))
  rw [← HP.out] at O3
  go_ret2
  exact ⟨v3, rfl, Ow.lower O3.out X1.out.size, X1.out.trans (X3.out.mono X1.out.size)⟩
set_option maxRecDepth 100000 in
set_option maxHeartbeats 4000000 in
theorem rrput_no (r : Rc.R) (w : World) (hm : Rc.may r = false) : Calls Tryz.prog 10 #[recV r] w (RetE w [] 1) := by
  have CM := Lib.hid (rmr_any r)
  rw [hm] at CM
  obtain ⟨L, hL⟩ : ∃ L, L = recL r := ⟨_, rfl⟩
  have IR : Hid ((Tryz.prog.info? 23).map (·.size) = some L.length) := by unfold Hid; rw [hL]; kernel_rfl
  have CMM : Hid (∀ W : World, Calls Tryz.prog 12 #[.agg L.toArray] W fun e w' => e = .returned (.bool false) ∧ Below W.heap.size W w') := by unfold Hid; rw [hL]; exact CM.out
  unfold recV
  rw [← hL]
  clear hL hm CM
  go_enter Tryz.func10, Tryz.ntmps10
  go_upto_region 1 with (fail)
  have X0 := Lib.hid (alloc_below w (.cells L.toArray 23))
  have B0 := Lib.hid (Blk.new w 23 L)
  generalize w.alloc (.cells L.toArray 23) = w1 at *
  go_wp2_with (with_reducible refine load_law rfl 23 (.tmp 1) rfl w.heap.size 0 rfl L _ Tryz.underlying23 rfl IR.out B0.out.cells ?_)
  refine (CMM.out w1).mono ?_
  rintro e w2 ⟨rfl, hX⟩
  have W2 := Lib.hid (X0.out.trans (hX.mono X0.out.size))
  clear hX
  go_wp2_with fail
  go_ret2
  exact ⟨none, 0, 0, rfl, Rd.nil _ _ _ (by unfold maxLen; omega), W2.out, fun x hx => by cases hx⟩
set_option maxRecDepth 100000 in
set_option maxHeartbeats 4000000 in
theorem rrput_may (r : Rc.R) (w : World) (hm : Rc.may r = true) : Calls Tryz.prog 10 #[recV r] w fun e w' => ∃ v, e = .returned (.tuple #[v, .int .i64 0]) ∧ Ow w' w.heap.size v (Rc.put r) ∧ Below w.heap.size w w' := by
  have CM := Lib.hid (rmr_any r)
  rw [hm] at CM
  obtain ⟨v, g, k⟩ := r
  have hv : 1 ≤ v ∧ v ≤ 1099511627776 ∧ k.length ≤ 1000 := by
    simp [Rc.may] at hm
    exact ⟨hm.1.1.1, hm.1.1.2, hm.1.2⟩
  obtain ⟨N, rfl⟩ := Int.eq_ofNat_of_zero_le (show 0 ≤ v by omega)
  obtain ⟨ev, hev⟩ : ∃ l, l = Rc.eight (N : Int) := ⟨_, rfl⟩
  have HEV := Lib.hid hev
  have HPUT : Hid (Rc.put ⟨N, g, k⟩ = Rc.pad (ev ++ [Rc.mark g] ++ k)) := by unfold Hid; rw [hev, Rc.put, Rc.within]; simp
  have HEL : Hid (ev.length = 8) := by unfold Hid; rw [hev, Rc.eight_length]
  obtain ⟨L, hL⟩ : ∃ L, L = recL ⟨N, g, k⟩ := ⟨_, rfl⟩
  have HLC : Hid (L = [.int .i64 (N : Int), .bool g, .string ⟨k.toArray⟩]) := by unfold Hid; rw [hL]; rfl
  have IR : Hid ((Tryz.prog.info? 23).map (·.size) = some L.length) := by unfold Hid; rw [hL]; kernel_rfl
  have CMM : Hid (∀ W : World, Calls Tryz.prog 12 #[.agg L.toArray] W fun e w' => e = .returned (.bool true) ∧ Below W.heap.size W w') := by unfold Hid; rw [hL]; exact CM.out
  unfold recV
  rw [← hL, HPUT.out]
  clear hL CM hev hm
  go_enter Tryz.func10, Tryz.ntmps10
  go_upto_region 1 with (fail)
  have X0 := Lib.hid (alloc_below w (.cells L.toArray 23))
  have B0 := Lib.hid (Blk.new w 23 L)
  generalize w.alloc (.cells L.toArray 23) = w1 at *
  go_wp2_with (with_reducible refine load_law rfl 23 (.tmp 1) rfl w.heap.size 0 rfl L _ Tryz.underlying23 rfl IR.out B0.out.cells ?_)
  refine (CMM.out w1).mono ?_
  rintro e w2 ⟨rfl, hX⟩
  have W2 := Lib.hid (X0.out.trans (hX.mono X0.out.size))
  have B2 := Lib.hid (B0.out.below hX B0.out.lt)
  have hs2 : w.heap.size + 1 ≤ w2.heap.size := B2.out.lt
  clear hX X0 B0 CMM
  go_wp2_with fail
  go_loopw [4, 5] (fun u i wr => ∃ q : Nat, q ≤ 8 ∧ i = .int .i64 ((q : Int) - 1) ∧ Hid (Ow wr (w.heap.size + 1) u (ev.take (8 - q))) ∧ Hid (Below (w.heap.size + 1) w2 wr)) (fun _ i _ => (intOf i + 1).toNat)
  case atStart => exact ⟨8, by omega, rfl, Ow.empty _ _, Below.refl _ _⟩
  case round =>
    obtain ⟨q, hq, rfl, HO, HB⟩ := hrel
    have BR := Lib.hid (B2.out.below HB.out (Nat.lt_succ_self _))
    have hsr : w.heap.size + 1 ≤ wr.heap.size := Nat.le_trans hs2 HB.out.size
    rcases Nat.eq_zero_or_pos q with h0 | h0
    · subst h0
      have e0 : ((0 : Nat) : Int) - 1 = -1 := rfl
      rw [e0]
      have O0 := HO.out
      rw [show ev.take (8 - 0) = ev from List.take_of_length_le (by rw [HEL.out]; omega)] at O0
      have O0 := Lib.hid O0
      have c1 : wr.cell? ⟨w.heap.size, 1, none⟩ = some (.bool g) := by rw [BR.out.cell 1, HLC.out]; rfl
      clear HO
      cases g with
      | false =>
        go_upto_region 11 with (first | (at_builtin; refine push_law rfl (.tmp 28) (.tmp 29) rfl rfl rfl (0 : UInt8) O0.out rfl (by rw [HEL.out]; omega) hsr HB.out ?_; intro v3 w3 O3 X3))
        have B3 := Lib.hid (B2.out.below X3.out (Nat.lt_succ_self _))
        have c2 : w3.cell? ⟨w.heap.size, 2, none⟩ = some (.string ⟨k.toArray⟩) := by rw [B3.out.cell 2, HLC.out]; rfl
        have hs3 : w.heap.size + 1 ≤ w3.heap.size := Nat.le_trans hs2 X3.out.size
        clear c1 BR HB O0 hsr
        go_wp2_with (first | (at_builtin; refine spush_law rfl (.tmp 31) (.tmp 33) rfl rfl rfl O3.out (by simp [HEL.out]; omega) hs3 X3.out ?_; intro v4 w4 O4 X4))
        obtain ⟨A4, c4, rfl, hR4, _⟩ := O4.out.value
        have W4 := Lib.hid (W2.out.trans (X4.out.mono (Nat.le_succ _)))
        refine (rpad_own hR4 (by simp [HEL.out]; omega)).mono ?_
        rintro e w5 ⟨v5, rfl, hO, hX⟩
        have O5 := Lib.hid (Ow.lower hO W4.out.size)
        have W5 := Lib.hid (W4.out.trans (hX.mono W4.out.size))
        clear hO hX hR4
        go_wp2_with fail
        go_ret2
        exact ⟨_, rfl, O5.out, W5.out⟩
      | true =>
        go_upto_region 11 with (first | (at_builtin; refine push_law rfl (.tmp 25) (.tmp 26) rfl rfl rfl (1 : UInt8) O0.out rfl (by rw [HEL.out]; omega) hsr HB.out ?_; intro v3 w3 O3 X3))
        have B3 := Lib.hid (B2.out.below X3.out (Nat.lt_succ_self _))
        have c2 : w3.cell? ⟨w.heap.size, 2, none⟩ = some (.string ⟨k.toArray⟩) := by rw [B3.out.cell 2, HLC.out]; rfl
        have hs3 : w.heap.size + 1 ≤ w3.heap.size := Nat.le_trans hs2 X3.out.size
        clear c1 BR HB O0 hsr
        go_wp2_with (first | (at_builtin; refine spush_law rfl (.tmp 31) (.tmp 33) rfl rfl rfl O3.out (by simp [HEL.out]; omega) hs3 X3.out ?_; intro v4 w4 O4 X4))
        obtain ⟨A4, c4, rfl, hR4, _⟩ := O4.out.value
        have W4 := Lib.hid (W2.out.trans (X4.out.mono (Nat.le_succ _)))
        refine (rpad_own hR4 (by simp [HEL.out]; omega)).mono ?_
        rintro e w5 ⟨v5, rfl, hO, hX⟩
        have O5 := Lib.hid (Ow.lower hO W4.out.size)
        have W5 := Lib.hid (W4.out.trans (hX.mono W4.out.size))
        clear hO hX hR4
        go_wp2_with fail
        go_ret2
        exact ⟨_, rfl, O5.out, W5.out⟩
    · obtain ⟨p, rfl⟩ : ∃ p, q = p + 1 := ⟨q - 1, by omega⟩
      have e0 : ((p + 1 : Nat) : Int) - 1 = (p : Int) := by omega
      rw [e0]
      have c0 : wr.cell? ⟨w.heap.size, 0, none⟩ = some (.int .i64 (N : Int)) := by rw [BR.out.cell 0, HLC.out]; rfl
      obtain ⟨y, hy⟩ : ∃ y, y = UInt8.ofNat (N / 256 ^ p % 256) := ⟨_, rfl⟩
      have hb : (N : Int) / 2 ^ (8 * p) % 256 = (y.toNat : Int) := by rw [hy]; exact eight_byte N p
      have HT : Hid (ev.take (8 - (p + 1)) ++ [y] = ev.take (8 - p)) := by
        unfold Hid
        rw [HEV.out, hy, show 8 - p = 8 - (p + 1) + 1 by omega, eight_take _ _ (by omega), show 7 - (8 - (p + 1)) = p by omega]
        rfl
      have HTL : Hid ((ev.take (8 - (p + 1))).length ≤ 8) := by unfold Hid; rw [List.length_take, HEL.out]; omega
      clear hy e0
      go_wp2_with (first | (at_builtin; refine push_law rfl (.tmp 13) (.tmp 21) rfl rfl rfl y HO.out rfl (by have := HTL.out; omega) hsr HB.out ?_; intro v3 w3 O3 X3))
      rw [HT.out] at O3
      go_roundw
      case rel => exact ⟨p, by omega, rfl, O3, X3⟩
      case measure => simp [intOf]
theorem rrput_any (r : Rc.R) (w : World) : Calls Tryz.prog 10 #[recV r] w (RetE w (if Rc.may r then Rc.put r else []) (if Rc.may r then 0 else 1)) := by
  by_cases h : Rc.may r = true
  · rw [if_pos h, if_pos h]
    refine (rrput_may r w h).mono ?_
    rintro e w' ⟨v, rfl, hO, hX⟩
    obtain ⟨A, c, rfl, hR, hg⟩ := hO.value
    exact ⟨A, _, c, rfl, hR, hX, fun x hx h0 => by obtain ⟨g', rfl, hg'⟩ := hg h0; injection hx with hx; subst hx; exact hg'⟩
  · rw [if_neg h, if_neg h]
    exact rrput_no r w (by simpa using h)
end Go.Proofs.YtnfbkimkdnbohaaGreatDoor
namespace Go.Proofs.YtnfbkimkdnbohaaGreatDoor
set_option linter.unusedVariables false
set_option linter.unusedSimpArgs false
set_option maxRecDepth 100000
open Go.RowKit
theorem big_ge : ∀ (l : List UInt8) (n : Nat), n * 256 ^ l.length ≤ Rc.big l n
  | [], n => by simp [Rc.big]
  | c :: l, n => by
    have h := big_ge l (n * 256 + c.toNat)
    have h2 : n * 256 * 256 ^ l.length ≤ (n * 256 + c.toNat) * 256 ^ l.length := Nat.mul_le_mul_right _ (by omega)
    rw [List.length_cons, Nat.pow_succ, Nat.mul_comm (256 ^ l.length) 256, ← Nat.mul_assoc]
    exact Nat.le_trans h2 h
theorem took_neg {m : List UInt8} (h9 : 9 ≤ m.length) (hx : 127 < (m.getD 0 0).toNat) : Rc.may (Rc.took m) = false := by
  match m, h9, hx with
  | c :: l, h9, hx =>
    have e : Rc.big ((c :: l).take 8) 0 = Rc.big (l.take 7) c.toNat := by show Rc.big (l.take 7) (0 * 256 + c.toNat) = _; rw [Nat.zero_mul, Nat.zero_add]
    have hl : (l.take 7).length = 7 := by simp at h9; simp; omega
    have lo := big_ge (l.take 7) c.toNat
    have hi := big_lt (l.take 7) c.toNat
    rw [hl] at lo hi
    have hc := c.toNat_lt
    have hx2 : 128 ≤ c.toNat := hx
    have hv : (Rc.took (c :: l)).ver < 1 := by
      show Rc.sgn (Rc.big ((c :: l).take 8) 0) < 1
      rw [e]
      unfold Rc.sgn
      split <;> omega
    unfold Rc.may
    rw [decide_eq_false (show ¬ 1 ≤ (Rc.took (c :: l)).ver by omega)]
    rfl
set_option maxRecDepth 100000 in
set_option maxHeartbeats 4000000 in
theorem rrget_any {w : World} {A : Option Addr} {n c : Nat} {b : List UInt8} (hr : Rd w A n c b) :
    Calls Tryz.prog 32 #[.slice A n c] w fun e w' => e = .returned (.tuple #[recV (Rc.got b), .int .i64 (if Rc.gets b then 0 else 1)]) ∧ Below w.heap.size w w' := by
  have CU := Lib.hid (fun w' (hR : Rd w' A n c b) => runpad_any hR)
  have HR := Lib.hid hr
  obtain ⟨z, hz⟩ : ∃ r, r = recV (Rc.got b) := ⟨_, rfl⟩
  obtain ⟨er, her⟩ : ∃ er : Int, er = if Rc.gets b then 0 else 1 := ⟨_, rfl⟩
  rw [← hz, ← her]
  have HZ := Lib.hid hz
  have HER := Lib.hid her
  clear hr hz her
  obtain ⟨Z0, hZ0⟩ : ∃ l, l = recL ⟨0, false, []⟩ := ⟨_, rfl⟩
  have HZ0 := Lib.hid hZ0
  have IZ : Hid ((Tryz.prog.info? 23).map (·.size) = some Z0.length) := by unfold Hid; rw [hZ0]; kernel_rfl
  have OZ : Hid (∀ v ∈ Z0, v.oneCell' = true) := by unfold Hid; rw [hZ0]; simp [recL, Value.oneCell']
  have BZ : Hid (Tryz.prog.built 23 [] = some Z0.toArray) := by unfold Hid; rw [hZ0]; kernel_rfl
  clear hZ0
  go_enter Tryz.func32, Tryz.ntmps32
  go_upto_region 1 with (fail)
  obtain ⟨w1, hw1⟩ : ∃ x, x = w.alloc (.cells #[.int .i64 0, .bool false, .string ⟨#[]⟩] 23) := ⟨_, rfl⟩
  have B1 : Blk w1 w.heap.size 23 Z0 := by rw [hw1, HZ0.out]; exact Blk.at_new _ _ 23 _ _ rfl rfl
  have W1 : Below w.heap.size w w1 := by rw [hw1]; exact alloc_below _ _
  rw [← hw1]
  clear hw1
  have hs1 : w.heap.size < w1.heap.size := B1.lt
  have CU1 := Lib.hid (CU.out w1 (HR.out.below W1))
  have ZE : Hid (Rc.gets b = false → z = .agg Z0.toArray ∧ er = 1) := fun h => by
    constructor
    · rw [HZ.out, Rc.got, h, HZ0.out]; rfl
    · rw [HER.out, h]; rfl
  by_cases hf : Rc.fits b = true
  · rw [hf, if_pos rfl] at CU1
    obtain ⟨m, hm⟩ : ∃ m, m = Rc.unpad b := ⟨_, rfl⟩
    rw [← hm] at CU1
    have HF := Lib.hid hf
    have HM := Lib.hid hm
    clear hf hm CU
    go_wp2_with fail
    refine CU1.out.mono ?_
    rintro e w2 ⟨A1, n1, c1, rfl, hR, hX, _⟩
    have W2 := Lib.hid (W1.trans (hX.mono W1.size))
    have B2 := Lib.hid (B1.below hX hs1)
    have R2 := Lib.hid hR
    have HML := Lib.hid hR.len
    have hn1 : n1 ≤ 9223372036854775807 := by have h1 := hR.cap; have h2 := hR.max; unfold maxLen at h2; omega
    clear hX hR B1 W1 CU1
    by_cases h9 : n1 < 9
    · obtain ⟨rfl, rfl⟩ := ZE.out (by unfold Rc.gets; rw [← HM.out, HML.out, decide_eq_false (show ¬ 9 ≤ n1 by omega)]; simp)
      have h9i : (n1 : Int) < 9 := by omega
      go_wp2_with (first
        | (with_reducible refine build_law rfl 23 #[] rfl Z0 (by simp only [List.map_toArray, List.map_nil]; exact BZ.out) ?_)
        | ((with_reducible refine storeGen_law rfl 23 (.tmp 2) (.tmp 32) rfl w.heap.size rfl Z0 rfl 23 Z0 IZ.out rfl OZ.out w.heap.size w B2.out W2.out (Nat.le_refl _) ?_); intro w8 B8 W8))
      exact bodyPost_ret (results_row_tmp rfl _ _ w.heap.size 23 Z0.toArray (0, 0) _ _ rfl rfl B8.out Tryz.underlying23 rfl (by rw [IZ.out]; simp)) rfl ⟨rfl, W8.out⟩
    · obtain ⟨g, off, rfl, hblt, hcell⟩ := R2.out.at_ (by omega)
      obtain ⟨y, hy⟩ : ∃ y, y = m.getD 8 0 := ⟨_, rfl⟩
      obtain ⟨x, hx⟩ : ∃ x, x = m.getD 0 0 := ⟨_, rfl⟩
      have c8 : w2.cell? ⟨g, off + 8, none⟩ = some (.int .u8 (y.toNat : Int)) := by rw [hy]; exact hcell 8 (by omega)
      have d0 : w2.cell? ⟨g, off, none⟩ = some (.int .u8 (x.toNat : Int)) := by rw [hx]; exact hcell 0 (by omega)
      have hy8 := y.toNat_lt
      have hx8 := x.toNat_lt
      have h9i : ¬ (n1 : Int) < 9 := by omega
      have HY := Lib.hid hy
      have HXX := Lib.hid hx
      have HC := Lib.hid hcell
      clear hcell hy hx
      by_cases hy1 : y ≤ 1
      · have hyi : ¬ (1 : Int) < (y.toNat : Int) := by have : y.toNat ≤ 1 := hy1; omega
        have HGE : Hid (Rc.gets b = Rc.may (Rc.took m)) := by unfold Hid Rc.gets; rw [HF.out, ← HM.out, ← HY.out, HML.out, decide_eq_true (show 9 ≤ n1 by omega), decide_eq_true hy1]; rfl
        by_cases hx1 : x.toNat ≤ 127
        · have hxi : ¬ (127 : Int) < (x.toNat : Int) := by omega
          obtain ⟨gb, hgb⟩ : ∃ b : Bool, b = decide (y = 1) := ⟨_, rfl⟩
          have hq1 : ((y.toNat : Int) == 1) = gb := by
            rw [hgb]
            rcases (show y.toNat = 0 ∨ y.toNat = 1 by have : y.toNat ≤ 1 := hy1; omega) with h | h
            · rw [h, show y = 0 from UInt8.toNat_inj.1 h]; rfl
            · rw [h, show y = 1 from UInt8.toNat_inj.1 h]; rfl
          have hq2 : decide ((y.toNat : Int) = 1) = gb := hq1
          have hsl9 : ∀ W : World, (Instr.slice 24 (.slice (some ⟨g, off, none⟩) n1 c1) (some (.int .i64 9)) none none).run Tryz.prog W = .ok (.slice (cutA (some ⟨g, off, none⟩) c1 9) (n1 - 9) (c1 - 9)) W := slice_l (some ⟨g, off, none⟩) n1 c1 9 (by omega)
          have R9 := Lib.hid (R2.out.cut (k := 9) (e := n1) (by omega) (Nat.le_refl _))
          obtain ⟨B9, hB9⟩ : ∃ x, x = cutA (some ⟨g, off, none⟩) c1 9 := ⟨_, rfl⟩
          simp only [← hB9] at hsl9 R9
          rw [List.take_of_length_le (by have := HML.out; simp; omega)] at R9
          obtain ⟨l9, hl9⟩ : ∃ l, l = m.drop 9 := ⟨_, rfl⟩
          rw [← hl9] at R9
          obtain ⟨L0, hL0⟩ : ∃ l : List Value, l = [.int .i64 0, .bool gb, .string ⟨l9.toArray⟩] := ⟨_, rfl⟩
          have HL0 := Lib.hid hL0
          have BL : Hid (Tryz.prog.built 23 [(1, .bool gb), (2, .string ⟨l9.toArray⟩)] = some L0.toArray) := by unfold Hid; rw [hL0]; kernel_rfl
          have IL : Hid ((Tryz.prog.info? 23).map (·.size) = some L0.length) := by unfold Hid; rw [hL0]; kernel_rfl
          have LL : Hid (Z0.length = L0.length) := by unfold Hid; rw [hL0, HZ0.out]; rfl
          have OL : Hid (∀ v ∈ L0, v.oneCell' = true) := by unfold Hid; rw [hL0]; simp [Value.oneCell']
          have HTK : Hid (recL (Rc.took m) = [.int .i64 (Rc.sgn (Rc.big (m.take 8) 0)), .bool gb, .string ⟨l9.toArray⟩]) := by unfold Hid; rw [hgb, HY.out, hl9]; rfl
          clear hgb hl9 hL0 hB9
          go_upto_region 4 with (fail)
          have hs2 := B2.out.lt
          replace W2 := Lib.hid W2.out.drew
          replace B2 := Lib.hid B2.out.drew
          replace R9 := Lib.hid R9.out.drew
          replace HC : Hid (∀ j, j < n1 → w2.drew.cell? ⟨g, off + j, none⟩ = some (.int .u8 ((m.getD j 0).toNat : Int))) := HC.out
          replace c8 : w2.drew.cell? ⟨g, off + 8, none⟩ = some (.int .u8 (y.toNat : Int)) := c8
          replace hblt : g < w2.drew.heap.size := hblt
          clear d0 R2
          refine wp_region_any (by kernel_rfl) ?_
          change wpAny _ _ _ _ _ _ _ (World.drew _)
          generalize w2.drew = w3 at *
          refine wpAny_take (i := 0) (oi := ?oi1) (v := .slice (some ⟨g, off, none⟩) n1 c1) ?hi1 (by kernel_rfl) (by kernel_rfl) (by kernel_rfl) ?hQ1 ?hy1 ?rest1
          case hi1 => simp only [zge]; rfl
          case hQ1 => exact fun _ _ _ h => h
          case hy1 => exact Or.inl ⟨by rfl, by intro w; go_simp⟩
          try simp only [zpt]
          refine wpAny_take (i := 1) (oi := ?oi2) (v := .pointer (some ⟨g, off + 8, none⟩)) ?hi2 (by kernel_rfl) (by kernel_rfl) (by kernel_rfl) ?hQ2 ?hy2 ?rest2
          case hi2 => simp only [zge]; rfl
          case hQ2 => exact fun _ _ _ h => h
          case hy2 => exact Or.inl ⟨by rfl, by intro w; go_simp⟩
          try simp only [zpt]
          refine wpAny_take (i := 4) (oi := ?oi3) (v := .slice (some ⟨g, off, none⟩) n1 c1) ?hi3 (by kernel_rfl) (by kernel_rfl) (by kernel_rfl) ?hQ3 ?hy3 ?rest3
          case hi3 => simp only [zge]; rfl
          case hQ3 => exact fun _ _ _ h => h
          case hy3 => exact Or.inl ⟨by rfl, by intro w; go_simp⟩
          try simp only [zpt]
          refine wpAny_take (i := 5) (oi := ?oi4) (v := .slice B9 (n1 - 9) (c1 - 9)) ?hi4 (by kernel_rfl) (by kernel_rfl) (by kernel_rfl) ?hQ4 ?hy4 ?rest4
          case hi4 => simp only [zge]; rfl
          case hQ4 => exact fun _ _ _ h => h
          case hy4 => exact Or.inl ⟨by rfl, by intro w; go_simp⟩
          try simp only [zpt]
          refine phaseL (fun i => if i = 3 then [2] else if i = 7 then [3, 6] else []) (fun d a w' => ∃ x35 x36 x39 x40 x6 : Value, a = { tmps := #[.slice A n c, undef, .pointer (some ⟨w.heap.size, 0, none⟩), .int .i64 0, .slice (some ⟨g, off, none⟩) n1 c1, .int .i64 0, x6, undef, .tuple #[.slice (some ⟨g, off, none⟩) n1 c1, .int .i64 0], .slice A n c, .tuple #[.slice (some ⟨g, off, none⟩) n1 c1, .int .i64 0], .slice (some ⟨g, off, none⟩) n1 c1, .int .i64 0, .int .i64 0, .bool false, .bool false, .slice (some ⟨g, off, none⟩) n1 c1, .int .i64 (n1 : Int), .bool (decide ((n1 : Int) < 9)), .bool (decide ((n1 : Int) < 9)), .bool (decide ((n1 : Int) < 9)), .slice (some ⟨g, off, none⟩) n1 c1, .pointer (some ⟨g, off + 8, none⟩), .int .u8 (y.toNat : Int), .bool (decide ((1 : Int) < (y.toNat : Int))), .bool (decide ((n1 : Int) < 9) || decide ((1 : Int) < (y.toNat : Int))), .bool (decide ((n1 : Int) < 9) || decide ((1 : Int) < (y.toNat : Int))), .slice (some ⟨g, off, none⟩) n1 c1, .pointer (some ⟨g, off, none⟩), .int .u8 (x.toNat : Int), .bool (decide ((127 : Int) < (x.toNat : Int))), .bool (decide ((n1 : Int) < 9) || decide ((1 : Int) < (y.toNat : Int)) || decide ((127 : Int) < (x.toNat : Int))), undef, .slice (some ⟨g, off, none⟩) n1 c1, .pointer (some ⟨g, off + 8, none⟩), x35, x36, .slice (some ⟨g, off, none⟩) n1 c1, .slice B9 (n1 - 9) (c1 - 9), x39, x40, undef, undef, undef, undef, undef, undef, undef, undef, undef, undef, undef, undef, undef, undef, undef, undef, undef, undef, undef], defers := [] } ∧ Hid (Below w3.heap.size w3 w') ∧ (d 2 = true → x35 = .int .u8 (y.toNat : Int)) ∧ (d 3 = true → x36 = .bool gb) ∧ (d 6 = true → x39 = .string ⟨l9.toArray⟩) ∧ (d 7 = true → x40 = .agg L0.toArray) ∧ (d 8 = true → Hid (NewB w' w3.heap.size x6 23 Z0))) [2, 3, 6, 7, 8] ?step5 1 5 [2, 3, 6, 7, 8] _ _ _ rfl (by decide) (fun _ h => h) (Fits.of (by kernel_rfl)) ?init5 ?fin5
          case init5 => refine ⟨_, _, _, _, _, rfl, Below.refl _ _, ?_, ?_, ?_, ?_, ?_⟩ <;> (intro h; exact absurd h (by decide))
          case step5 =>
            intro i hi d a v5 hI hdi hdeps
            obtain ⟨x35, x36, x39, x40, x6, rfl, BW, h2, h3, h6, h7, h8⟩ := hI
            have hsw := BW.out.size
            simp only [List.mem_cons, List.not_mem_nil, or_false] at hi
            rcases hi with rfl | rfl | rfl | rfl | rfl
            · have c0 : v5.cell? ⟨g, off + 8, none⟩ = some (.int .u8 (y.toNat : Int)) := (bel_cell BW.out ⟨g, off + 8, none⟩ hblt).trans c8
              refine wpOp_step (o := ?os6) ?hos6 (fun K hK => ?_)
              case hos6 => simp only [zge]; rfl
              go_simp
              refine hK _ _ ?_
              clear hK K
              try simp only [zpt]
              exact ⟨_, _, _, _, _, rfl, BW, fun _ => rfl, fun a => by first | exact h3 (by simpa using a) | rfl, fun a => by first | exact h6 (by simpa using a) | rfl, fun a => by first | exact h7 (by simpa using a) | rfl, fun a => h8 (by simpa using a)⟩
            · obtain rfl := h2 (hdeps 2 (by simp))
              refine wpOp_step (o := ?os7) ?hos7 (fun K hK => ?_)
              case hos7 => simp only [zge]; rfl
              go_simp
              refine hK _ _ ?_
              clear hK K
              try simp only [zpt]
              exact ⟨_, _, _, _, _, rfl, BW, fun a => by first | exact h2 (by simpa using a) | rfl, fun _ => rfl, fun a => by first | exact h6 (by simpa using a) | rfl, fun a => by first | exact h7 (by simpa using a) | rfl, fun a => h8 (by simpa using a)⟩
            · have hcv := conv_bytes (R9.out.below BW.out)
              refine wpOp_step (o := ?os8) ?hos8 (fun K hK => ?_)
              case hos8 => simp only [zge]; rfl
              go_simp
              refine hK _ _ ?_
              clear hK K
              try simp only [zpt]
              exact ⟨_, _, _, _, _, rfl, BW, fun a => by first | exact h2 (by simpa using a) | rfl, fun a => by first | exact h3 (by simpa using a) | rfl, fun _ => rfl, fun a => by first | exact h7 (by simpa using a) | rfl, fun a => h8 (by simpa using a)⟩
            · obtain rfl := h3 (hdeps 3 (by simp))
              obtain rfl := h6 (hdeps 6 (by simp))
              refine wpOp_step (o := ?os9) ?hos9 (fun K hK => ?_)
              case hos9 => simp only [zge]; rfl
              refine step_build rfl 23 #[(1, .tmp 36), (2, .tmp 39)] rfl L0 (by simp only [List.map_toArray, List.map_cons, List.map_nil]; exact BL.out) (hK _ _ ?_)
              clear hK K
              try simp only [zpt]
              exact ⟨_, _, _, _, _, rfl, BW, fun a => by first | exact h2 (by simpa using a) | rfl, fun a => by first | exact h3 (by simpa using a) | rfl, fun a => by first | exact h6 (by simpa using a) | rfl, fun _ => rfl, fun a => h8 (by simpa using a)⟩
            · have hX := alloc_below v5 (.cells #[.int .i64 0, .bool false, .string ⟨#[]⟩] 23)
              refine wpOp_step (o := ?os10) ?hos10 (fun K hK => ?_)
              case hos10 => simp only [zge]; rfl
              go_simp
              refine hK _ _ ?_
              clear hK K
              try simp only [zpt]
              exact ⟨_, _, _, _, _, rfl, BW.out.trans (hX.mono hsw), fun a => by first | exact h2 (by simpa using a) | rfl, fun a => by first | exact h3 (by simpa using a) | rfl, fun a => by first | exact h6 (by simpa using a) | rfl, fun a => by first | exact h7 (by simpa using a) | rfl, fun _ => ⟨_, rfl, hsw, Blk.at_new _ _ 23 Z0 _ (by rw [HZ0.out]; rfl) rfl⟩⟩
          case fin5 =>
            intro a v5 hI
            obtain ⟨x35, x36, x39, x40, x6, rfl, BW, h2, h3, h6, h7, h8⟩ := hI
            obtain rfl := h2 (by decide)
            obtain rfl := h3 (by decide)
            obtain rfl := h6 (by decide)
            obtain rfl := h7 (by decide)
            obtain ⟨g6, rfl, hg6, hB6⟩ := (h8 (by decide)).out
            have B6 := Lib.hid hB6
            have hs3 := W2.out.size
            have hs3' := B2.out.lt
            have hs4 := BW.out.size
            have B3 := Lib.hid (B2.out.below BW.out B2.out.lt)
            have W3 := Lib.hid (W2.out.trans (BW.out.mono W2.out.size))
            have HC4 : Hid (∀ j, j < n1 → v5.cell? ⟨g, off + j, none⟩ = some (.int .u8 ((m.getD j 0).toNat : Int))) := fun j hj => (bel_cell BW.out ⟨g, off + j, none⟩ hblt).trans (HC.out j hj)
            clear h8 hB6 BW R9 B2 W2 HC c8
            try dsimp only
            refine wpAny_ready (rs := [9]) (by kernel_rfl) (by simp) ?_
            refine AllReady.cons (o := ?p11) ?q11 (fun K hK => ?_) AllReady.nil
            case q11 => simp only [zge]; rfl
            refine step_storeAll rfl 23 (.tmp 6) (.tmp 40) rfl g6 rfl L0 rfl 23 Z0 B6.out IL.out LL.out OL.out (hK _ _ ?_)
            clear hK K
            try simp only [zpt]
            have K4 := Lib.hid (B6.out.row (cs' := L0))
            have B4 := Lib.hid (B3.out.rowFar (show w.heap.size ≠ g6 by omega) L0.toArray)
            have W4 := Lib.hid (below_setRow W3.out (show w.heap.size ≤ g6 by omega) L0.toArray)
            have HC5 : Hid (∀ j, j < n1 → (v5.setRow g6 L0.toArray).cell? ⟨g, off + j, none⟩ = some (.int .u8 ((m.getD j 0).toNat : Int))) := fun j hj => (World.cell?_of_block (a := ⟨g, off + j, none⟩) (setRow_other _ _ _ _ (show g ≠ g6 by omega))).trans (HC4.out j hj)
            have hgw : g < g6 := by omega
            have hww : w.heap.size < g6 := by omega
            refine wpAny_done (by kernel_rfl) ?_ _
            generalize v5.setRow g6 L0.toArray = w4 at *
            have hg4 := K4.out.lt
            clear B6 B3 W3 HC4 hblt hs2 hs3 hs3' hs4 hg6
            have HB0 : Hid (L0 = [.int .i64 (Rc.sgn (Rc.big (m.take 0) 0)), .bool gb, .string ⟨l9.toArray⟩]) := by unfold Hid; rw [HL0.out]; rfl
            go_wp2_with fail
            go_loopw [7] (fun i wr => ∃ (k : Nat), k ≤ 8 ∧ i = .int .i64 k ∧ Hid (Blk wr g6 23 [.int .i64 (Rc.sgn (Rc.big (m.take k) 0)), .bool gb, .string ⟨l9.toArray⟩]) ∧ Hid (Below g6 w4 wr)) (fun i _ => 8 - (intOf i).toNat)
            case atStart => exact ⟨0, by omega, rfl, by unfold Hid; rw [← HB0.out]; exact K4.out, Below.refl _ _⟩
            case round =>
              obtain ⟨k, hk, rfl, HK, HB⟩ := hrel
              by_cases hlt : k < 8
              · have hlb : (k : Int) < 8 := by omega
                have hkn : (k : Int) < (n1 : Int) := by omega
                obtain ⟨M, hM⟩ : ∃ M, M = Rc.big (m.take k) 0 := ⟨_, rfl⟩
                have hM56 : M < 72057594037927936 := by
                  have h1 := big_lt (m.take k) 0
                  rw [← hM, List.length_take, Nat.min_eq_left (by have := HML.out; omega)] at h1
                  have h2 : 256 ^ k ≤ 256 ^ 7 := Nat.pow_le_pow_right (by omega) (by omega)
                  omega
                have hs : Rc.sgn M = (M : Int) := by unfold Rc.sgn; rw [if_pos (by omega)]
                obtain ⟨q, hq⟩ : ∃ q, q = m.getD k 0 := ⟨_, rfl⟩
                have hq8 := q.toNat_lt
                have HN : Hid (M * 256 + q.toNat = Rc.big (m.take (k + 1)) 0) := by
                  unfold Hid
                  have hkl : k < m.length := by have := HML.out; omega
                  rw [show m.take (k + 1) = m.take k ++ [m.getD k 0] by rw [List.take_succ_eq_append_getElem hkl]; simp [List.getD_eq_getElem?_getD, List.getElem?_eq_getElem hkl], big_snoc, hM, hq]
                have hor : bits .or .i64 (wrap64 ((M : Int) * 256)) (q.toNat : Int) = Rc.sgn (M * 256 + q.toNat) := or_sgn64 M q hM56
                have C0 : Hid (wr.cell? ⟨g6, 0, none⟩ = some (.int .i64 (M : Int))) := by have := HK.out.cell 0; rw [← hM, hs] at this; exact this
                have CQ : Hid (wr.cell? ⟨g, off + k, none⟩ = some (.int .u8 (q.toNat : Int))) := by rw [hq]; exact (bel_cell HB.out ⟨g, off + k, none⟩ hgw).trans (HC5.out k (by omega))
                have K5 : Hid (Blk wr g6 23 [.int .i64 (Rc.sgn M), .bool gb, .string ⟨l9.toArray⟩]) := by unfold Hid; rw [hM]; exact HK.out
                obtain ⟨vn, hvn⟩ : ∃ v, v = Rc.sgn (M * 256 + q.toNat) := ⟨_, rfl⟩
                rw [← hvn] at hor
                have hwq : IntKind.i64.wrap (q.toNat : Int) = (q.toNat : Int) := by rw [IntKind.wrap_i64]; omega
                have hor2 : bits .or .i64 (IntKind.i64.wrap ((M : Int) * 256)) (q.toNat : Int) = vn := by rw [hvn]; exact or_sgn M q hM56
                have hor3 : bits .or .i64 (IntKind.i64.wrap ((M : Int) * 256)) (IntKind.i64.wrap (q.toNat : Int)) = vn := by rw [hwq]; exact hor2
                have HVN : Hid (vn = Rc.sgn (Rc.big (m.take (k + 1)) 0)) := by unfold Hid; rw [hvn, HN.out]
                clear hM hM56 hs hq HN HK hvn
                go_upto_region 8 with (fail)
                replace C0 : Hid (wr.drew.cell? ⟨g6, 0, none⟩ = some (.int .i64 (M : Int))) := C0
                replace CQ : Hid (wr.drew.cell? ⟨g, off + k, none⟩ = some (.int .u8 (q.toNat : Int))) := CQ
                replace K5 := Lib.hid K5.out.drew
                replace HB := Lib.hid HB.out.drew
                refine wp_region_any (by kernel_rfl) ?_
                change wpAny _ _ _ _ _ _ _ (World.drew _)
                generalize wr.drew = w5 at *
                refine wpAny_take (i := 0) (oi := ?oi12) (v := .pointer (some ⟨g6, 0, none⟩)) ?hi12 (by kernel_rfl) (by kernel_rfl) (by kernel_rfl) ?hQ12 ?hy12 ?rest12
                case hi12 => simp only [zge]; rfl
                case hQ12 => exact fun _ _ _ h => h
                case hy12 => exact Or.inl ⟨by rfl, by intro w; go_simp⟩
                try simp only [zpt]
                refine wpAny_take (i := 3) (oi := ?oi13) (v := .slice (some ⟨g, off, none⟩) n1 c1) ?hi13 (by kernel_rfl) (by kernel_rfl) (by kernel_rfl) ?hQ13 ?hy13 ?rest13
                case hi13 => simp only [zge]; rfl
                case hQ13 => exact fun _ _ _ h => h
                case hy13 => exact Or.inl ⟨by rfl, by intro w; go_simp⟩
                try simp only [zpt]
                refine wpAny_take (i := 4) (oi := ?oi14) (v := .int .i64 (k : Int)) ?hi14 (by kernel_rfl) (by kernel_rfl) (by kernel_rfl) ?hQ14 ?hy14 ?rest14
                case hi14 => simp only [zge]; rfl
                case hQ14 => exact fun _ _ _ h => h
                case hy14 => exact Or.inl ⟨by rfl, by intro w; go_simp⟩
                try simp only [zpt]
                refine wpAny_take (i := 5) (oi := ?oi15) (v := .pointer (some ⟨g, off + k, none⟩)) ?hi15 (by kernel_rfl) (by kernel_rfl) (by kernel_rfl) ?hQ15 ?hy15 ?rest15
                case hi15 => simp only [zge]; rfl
                case hQ15 => exact fun _ _ _ h => h
                case hy15 => exact Or.inl ⟨by rfl, by intro w; go_simp⟩
                try simp only [zpt]
                refine phaseL (fun i => if i = 2 then [1] else if i = 7 then [6] else if i = 8 then [2, 7] else []) (fun d a w' => ∃ x46 x47 x51 x52 x53 : Value, a = { tmps := #[.slice A n c, undef, .pointer (some ⟨w.heap.size, 0, none⟩), .int .i64 0, .slice (some ⟨g, off, none⟩) n1 c1, .int .i64 0, .pointer (some ⟨g6, 0, none⟩), .int .i64 (k : Int), .tuple #[.slice (some ⟨g, off, none⟩) n1 c1, .int .i64 0], .slice A n c, .tuple #[.slice (some ⟨g, off, none⟩) n1 c1, .int .i64 0], .slice (some ⟨g, off, none⟩) n1 c1, .int .i64 0, .int .i64 0, .bool false, .bool false, .slice (some ⟨g, off, none⟩) n1 c1, .int .i64 (n1 : Int), .bool (decide ((n1 : Int) < 9)), .bool (decide ((n1 : Int) < 9)), .bool (decide ((n1 : Int) < 9)), .slice (some ⟨g, off, none⟩) n1 c1, .pointer (some ⟨g, off + 8, none⟩), .int .u8 (y.toNat : Int), .bool (decide ((1 : Int) < (y.toNat : Int))), .bool (decide ((n1 : Int) < 9) || decide ((1 : Int) < (y.toNat : Int))), .bool (decide ((n1 : Int) < 9) || decide ((1 : Int) < (y.toNat : Int))), .slice (some ⟨g, off, none⟩) n1 c1, .pointer (some ⟨g, off, none⟩), .int .u8 (x.toNat : Int), .bool (decide ((127 : Int) < (x.toNat : Int))), .bool (decide ((n1 : Int) < 9) || decide ((1 : Int) < (y.toNat : Int)) || decide ((127 : Int) < (x.toNat : Int))), undef, .slice (some ⟨g, off, none⟩) n1 c1, .pointer (some ⟨g, off + 8, none⟩), .int .u8 (y.toNat : Int), .bool gb, .slice (some ⟨g, off, none⟩) n1 c1, .slice B9 (n1 - 9) (c1 - 9), .string ⟨l9.toArray⟩, .agg L0.toArray, .int .i64 (k : Int), .bool true, u43, u44, .pointer (some ⟨g6, 0, none⟩), x46, x47, .slice (some ⟨g, off, none⟩) n1 c1, .int .i64 (k : Int), .pointer (some ⟨g, off + k, none⟩), x51, x52, x53, u54, undef, undef, undef, undef, undef], defers := [] } ∧ Hid (Below w5.heap.size w5 w') ∧ (d 1 = true → x46 = .int .i64 (M : Int)) ∧ (d 2 = true → x47 = .int .i64 (IntKind.i64.wrap ((M : Int) * 256))) ∧ (d 6 = true → x51 = .int .u8 (q.toNat : Int)) ∧ (d 7 = true → x52 = .int .i64 (q.toNat : Int)) ∧ (d 8 = true → x53 = .int .i64 vn)) [1, 2, 6, 7, 8] ?step16 2 5 [1, 2, 6, 7, 8] _ _ _ rfl (by decide) (fun _ h => h) (Fits.of (by kernel_rfl)) ?init16 ?fin16
                case init16 => refine ⟨_, _, _, _, _, rfl, Below.refl _ _, ?_, ?_, ?_, ?_, ?_⟩ <;> (intro h; exact absurd h (by decide))
                case step16 =>
                  intro i hi d a v16 hI hdi hdeps
                  obtain ⟨x46, x47, x51, x52, x53, rfl, BW, h1, h2, h6, h7, h8⟩ := hI
                  have hsw := BW.out.size
                  simp only [List.mem_cons, List.not_mem_nil, or_false] at hi
                  rcases hi with rfl | rfl | rfl | rfl | rfl
                  · have c0 : v16.cell? ⟨g6, 0, none⟩ = some (.int .i64 (M : Int)) := (bel_cell BW.out ⟨g6, 0, none⟩ K5.out.lt).trans C0.out
                    refine wpOp_step (o := ?os17) ?hos17 (fun K hK => ?_)
                    case hos17 => simp only [zge]; rfl
                    go_simp
                    refine hK _ _ ?_
                    clear hK K
                    try simp only [zpt]
                    exact ⟨_, _, _, _, _, rfl, BW, fun _ => rfl, fun a => by first | exact h2 (by simpa using a) | rfl, fun a => by first | exact h6 (by simpa using a) | rfl, fun a => by first | exact h7 (by simpa using a) | rfl, fun a => by first | exact h8 (by simpa using a) | rfl⟩
                  · obtain rfl := h1 (hdeps 1 (by simp))
                    refine wpOp_step (o := ?os18) ?hos18 (fun K hK => ?_)
                    case hos18 => simp only [zge]; rfl
                    go_simp
                    refine hK _ _ ?_
                    clear hK K
                    try simp only [zpt]
                    exact ⟨_, _, _, _, _, rfl, BW, fun a => by first | exact h1 (by simpa using a) | rfl, fun _ => rfl, fun a => by first | exact h6 (by simpa using a) | rfl, fun a => by first | exact h7 (by simpa using a) | rfl, fun a => by first | exact h8 (by simpa using a) | rfl⟩
                  · have c0 : v16.cell? ⟨g, off + k, none⟩ = some (.int .u8 (q.toNat : Int)) := (bel_cell BW.out ⟨g, off + k, none⟩ (Nat.lt_trans hgw K5.out.lt)).trans CQ.out
                    refine wpOp_step (o := ?os19) ?hos19 (fun K hK => ?_)
                    case hos19 => simp only [zge]; rfl
                    go_simp
                    refine hK _ _ ?_
                    clear hK K
                    try simp only [zpt]
                    exact ⟨_, _, _, _, _, rfl, BW, fun a => by first | exact h1 (by simpa using a) | rfl, fun a => by first | exact h2 (by simpa using a) | rfl, fun _ => rfl, fun a => by first | exact h7 (by simpa using a) | rfl, fun a => by first | exact h8 (by simpa using a) | rfl⟩
                  · obtain rfl := h6 (hdeps 6 (by simp))
                    refine wpOp_step (o := ?os20) ?hos20 (fun K hK => ?_)
                    case hos20 => simp only [zge]; rfl
                    go_simp
                    refine hK _ _ ?_
                    clear hK K
                    try simp only [zpt]
                    exact ⟨_, _, _, _, _, rfl, BW, fun a => by first | exact h1 (by simpa using a) | rfl, fun a => by first | exact h2 (by simpa using a) | rfl, fun a => by first | exact h6 (by simpa using a) | rfl, fun _ => rfl, fun a => by first | exact h8 (by simpa using a) | rfl⟩
                  · obtain rfl := h2 (hdeps 2 (by simp))
                    obtain rfl := h7 (hdeps 7 (by simp))
                    refine wpOp_step (o := ?os21) ?hos21 (fun K hK => ?_)
                    case hos21 => simp only [zge]; rfl
                    go_simp
                    refine hK _ _ ?_
                    clear hK K
                    try simp only [zpt]
                    exact ⟨_, _, _, _, _, rfl, BW, fun a => by first | exact h1 (by simpa using a) | rfl, fun a => by first | exact h2 (by simpa using a) | rfl, fun a => by first | exact h6 (by simpa using a) | rfl, fun a => by first | exact h7 (by simpa using a) | rfl, fun _ => rfl⟩
                case fin16 =>
                  intro a v16 hI
                  obtain ⟨x46, x47, x51, x52, x53, rfl, BW, h1, h2, h6, h7, h8⟩ := hI
                  obtain rfl := h1 (by decide)
                  obtain rfl := h2 (by decide)
                  obtain rfl := h6 (by decide)
                  obtain rfl := h7 (by decide)
                  obtain rfl := h8 (by decide)
                  have K6 := Lib.hid (K5.out.below BW.out K5.out.lt)
                  have HB6 := Lib.hid (HB.out.trans (BW.out.mono (Nat.le_trans (Nat.le_of_lt hg4) HB.out.size)))
                  have c0 : v16.cell? ⟨g6, 0, none⟩ = some (.int .i64 (M : Int)) := (bel_cell BW.out ⟨g6, 0, none⟩ K5.out.lt).trans C0.out
                  have f0 : v16.frozen? ⟨g6, 0, none⟩ = false := K6.out.frozen 0
                  clear BW K5 HB C0 CQ
                  try dsimp only
                  refine wpAny_take (i := 9) (oi := ?oi22) (v := .pointer (some ⟨g6, 0, none⟩)) ?hi22 (by kernel_rfl) (by kernel_rfl) (by kernel_rfl) ?hQ22 ?hy22 ?rest22
                  case hi22 => simp only [zge]; rfl
                  case hQ22 => exact fun _ _ _ h => h
                  case hy22 => exact Or.inl ⟨by rfl, by intro w; go_simp⟩
                  try simp only [zpt]
                  refine wpAny_ready (rs := [10]) (by kernel_rfl) (by simp) ?_
                  refine AllReady.cons (o := ?p23) ?q23 (fun K hK => ?_) AllReady.nil
                  case q23 => simp only [zge]; rfl
                  go_simp
                  refine hK _ _ ?_
                  clear hK K
                  try simp only [zpt]
                  refine wpAny_done (by kernel_rfl) ?_ _
                  have K7 : Hid (Blk (v16.setCell ⟨g6, 0, none⟩ (.int .i64 vn)) g6 23 [.int .i64 (Rc.sgn (Rc.big (m.take (k + 1)) 0)), .bool gb, .string ⟨l9.toArray⟩]) := by have := K6.out.set_ 0 (.int .i64 vn); rw [HVN.out] at this ⊢; exact this
                  have HB7 : Hid (Below g6 w4 (v16.setCell ⟨g6, 0, none⟩ (.int .i64 vn))) := HB6.out.setCell (Nat.le_refl _) _
                  go_wp2_with fail
                  go_roundw
                  case rel => exact ⟨k + 1, by omega, by go_num, K7, HB7⟩
                  case measure => simp [intOf]; omega
              · obtain rfl : k = 8 := by omega
                obtain ⟨L, hL⟩ : ∃ l, l = recL (Rc.took m) := ⟨_, rfl⟩
                have K6 : Hid (Blk wr g6 23 L) := by unfold Hid; rw [hL, HTK.out]; exact HK.out
                have HLR := Lib.hid hL
                have ILL : Hid ((Tryz.prog.info? 23).map (·.size) = some L.length) := by unfold Hid; rw [hL]; kernel_rfl
                have LLL : Hid (Z0.length = L.length) := by unfold Hid; rw [hL, HZ0.out]; rfl
                have OLL : Hid (∀ v ∈ L, v.oneCell' = true) := by unfold Hid; rw [hL]; simp [recL, Value.oneCell']
                have CM : Hid (∀ W : World, Calls Tryz.prog 12 #[.agg L.toArray] W fun e w' => e = .returned (.bool (Rc.may (Rc.took m))) ∧ Below W.heap.size W w') := fun W => by rw [hL]; exact rmr_any _ W
                have B6 := Lib.hid (B4.out.below HB.out hww)
                have W6 := Lib.hid (W4.out.trans (HB.out.mono (Nat.le_of_lt hww)))
                clear hL HK HB HC5 B4 W4
                go_wp2_with (first | (with_reducible refine load_law rfl 23 (.tmp 6) rfl g6 0 rfl L _ Tryz.underlying23 rfl ILL.out K6.out.cells ?_))
                refine (CM.out wr).mono ?_
                rintro e w7 ⟨rfl, hX⟩
                have B7 := Lib.hid (B6.out.below hX B6.out.lt)
                have K7 := Lib.hid (K6.out.below hX K6.out.lt)
                have W7 := Lib.hid (W6.out.trans (hX.mono W6.out.size))
                clear hX B6 K6 W6 CM
                by_cases hmay : Rc.may (Rc.took m) = true
                · have hget : Rc.gets b = true := by rw [HGE.out, hmay]
                  obtain rfl : z = .agg L.toArray := by rw [HZ.out, Rc.got, hget, if_pos rfl, ← HM.out, HLR.out]; rfl
                  obtain rfl : er = 0 := by rw [HER.out, hget]; rfl
                  rw [hmay]
                  go_wp2_with (first
                    | (with_reducible refine load_law rfl 23 (.tmp 6) rfl g6 0 rfl L _ Tryz.underlying23 rfl ILL.out K7.out.cells ?_)
                    | ((with_reducible refine storeGen_law rfl 23 (.tmp 2) (.tmp 59) rfl w.heap.size rfl L rfl 23 Z0 ILL.out LLL.out OLL.out w.heap.size w B7.out W7.out (Nat.le_refl _) ?_); intro w8 B8 W8))
                  exact bodyPost_ret (results_row_tmp rfl _ _ w.heap.size 23 L.toArray (0, 0) _ _ rfl rfl B8.out Tryz.underlying23 rfl (by rw [ILL.out]; simp)) rfl ⟨rfl, W8.out⟩
                · have hmay : Rc.may (Rc.took m) = false := by simpa using hmay
                  obtain ⟨rfl, rfl⟩ := ZE.out (by rw [HGE.out, hmay])
                  rw [hmay]
                  go_wp2_with (first
                    | (with_reducible refine build_law rfl 23 #[] rfl Z0 (by simp only [List.map_toArray, List.map_nil]; exact BZ.out) ?_)
                    | ((with_reducible refine storeGen_law rfl 23 (.tmp 2) (.tmp 58) rfl w.heap.size rfl Z0 rfl 23 Z0 IZ.out rfl OZ.out w.heap.size w B7.out W7.out (Nat.le_refl _) ?_); intro w8 B8 W8))
                  exact bodyPost_ret (results_row_tmp rfl _ _ w.heap.size 23 Z0.toArray (0, 0) _ _ rfl rfl B8.out Tryz.underlying23 rfl (by rw [IZ.out]; simp)) rfl ⟨rfl, W8.out⟩
        · have hxi : (127 : Int) < (x.toNat : Int) := by omega
          obtain ⟨rfl, rfl⟩ := ZE.out (by rw [HGE.out]; exact took_neg (by rw [HML.out]; omega) (by rw [← HXX.out]; omega))
          go_wp2_with (first
            | (with_reducible refine build_law rfl 23 #[] rfl Z0 (by simp only [List.map_toArray, List.map_nil]; exact BZ.out) ?_)
            | ((with_reducible refine storeGen_law rfl 23 (.tmp 2) (.tmp 32) rfl w.heap.size rfl Z0 rfl 23 Z0 IZ.out rfl OZ.out w.heap.size w B2.out W2.out (Nat.le_refl _) ?_); intro w8 B8 W8))
          exact bodyPost_ret (results_row_tmp rfl _ _ w.heap.size 23 Z0.toArray (0, 0) _ _ rfl rfl B8.out Tryz.underlying23 rfl (by rw [IZ.out]; simp)) rfl ⟨rfl, W8.out⟩
      · obtain ⟨rfl, rfl⟩ := ZE.out (by unfold Rc.gets; rw [← HM.out, ← HY.out, decide_eq_false hy1]; simp)
        have hyi : (1 : Int) < (y.toNat : Int) := by have : ¬ y.toNat ≤ 1 := hy1; omega
        go_wp2_with (first
          | (with_reducible refine build_law rfl 23 #[] rfl Z0 (by simp only [List.map_toArray, List.map_nil]; exact BZ.out) ?_)
          | ((with_reducible refine storeGen_law rfl 23 (.tmp 2) (.tmp 32) rfl w.heap.size rfl Z0 rfl 23 Z0 IZ.out rfl OZ.out w.heap.size w B2.out W2.out (Nat.le_refl _) ?_); intro w8 B8 W8))
        exact bodyPost_ret (results_row_tmp rfl _ _ w.heap.size 23 Z0.toArray (0, 0) _ _ rfl rfl B8.out Tryz.underlying23 rfl (by rw [IZ.out]; simp)) rfl ⟨rfl, W8.out⟩
  · have hf : Rc.fits b = false := by simpa using hf
    rw [hf] at CU1
    obtain ⟨rfl, rfl⟩ := ZE.out (by unfold Rc.gets; rw [hf]; rfl)
    clear hf CU
    go_wp2_with fail
    refine CU1.out.mono ?_
    rintro e w2 ⟨A1, n1, c1, rfl, hR, hX, _⟩
    have W2 := Lib.hid (W1.trans (hX.mono W1.size))
    have B2 := Lib.hid (B1.below hX hs1)
    clear hX hR B1 W1 CU1
    go_wp2_with (first
      | (with_reducible refine build_law rfl 23 #[] rfl Z0 (by simp only [List.map_toArray, List.map_nil]; exact BZ.out) ?_)
      | ((with_reducible refine storeGen_law rfl 23 (.tmp 2) (.tmp 32) rfl w.heap.size rfl Z0 rfl 23 Z0 IZ.out rfl OZ.out w.heap.size w B2.out W2.out (Nat.le_refl _) ?_); intro w8 B8 W8))
    exact bodyPost_ret (results_row_tmp rfl _ _ w.heap.size 23 Z0.toArray (0, 0) _ _ rfl rfl B8.out Tryz.underlying23 rfl (by rw [IZ.out]; simp)) rfl ⟨rfl, W8.out⟩
end Go.Proofs.YtnfbkimkdnbohaaGreatDoor
