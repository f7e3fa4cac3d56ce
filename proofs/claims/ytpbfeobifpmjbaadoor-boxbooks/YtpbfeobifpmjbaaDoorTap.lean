/- A tape of bytes as a function on numbers; the contract of the document's Tape. -/
import Derived.Test.YtpbfeobifpmjbaaDoorNput
import Derived.Test.YtpbfeobifpmjbaaDoorRefSum
namespace Go.Proofs.YtpbfeobifpmjbaaDoor.Tap
set_option linter.unusedVariables false
set_option linter.unusedSimpArgs false
set_option maxRecDepth 100000

/-- The sum of number j. -/
def blk (s : Int) (j : Nat) : List UInt8 := Sha.sum (Num.enc (Num.zig s) ++ Num.enc (Num.zig (j : Int)))
theorem blk_length (s : Int) (j : Nat) : (blk s j).length = 32 := Sha.sum_length _
/-- Byte k of the tape. -/
def byte (s : Int) (k : Nat) : UInt8 := (blk s (k / 32)).getD (k % 32) 0
/-- n bytes from byte a on. -/
def tape (s : Int) (a n : Nat) : List UInt8 := (List.range' a n).map (byte s)

theorem tape_length (s : Int) (a n : Nat) : (tape s a n).length = n := by simp [tape]
theorem tape_zero (s : Int) (a : Nat) : tape s a 0 = [] := rfl
theorem tape_add (s : Int) (a n m : Nat) : tape s a (n + m) = tape s a n ++ tape s (a + n) m := by
  unfold tape
  rw [← List.map_append]
  congr 1
  have := List.range'_append (s := a) (m := n) (n := m) (step := 1)
  rw [Nat.one_mul] at this
  exact this.symm
theorem tape_cut (s : Int) (a n k m : Nat) (h : k + m ≤ n) : ((tape s a n).drop k).take m = tape s (a + k) m := by
  obtain ⟨r, rfl⟩ : ∃ r, n = k + (m + r) := ⟨n - k - m, by omega⟩
  rw [tape_add, List.drop_left' (tape_length s a k), tape_add, List.take_left' (tape_length s _ m)]
theorem tape_front (s : Int) (a n m : Nat) (h : m ≤ n) : (tape s a n).take m = tape s a m := by
  have := tape_cut s a n 0 m (by omega)
  simpa using this
theorem tape_back (s : Int) (a n k : Nat) (h : k ≤ n) : (tape s a n).drop k = tape s (a + k) (n - k) := by
  have := tape_cut s a n k (n - k) (by omega)
  rw [List.take_of_length_le (by rw [List.length_drop, tape_length]; exact Nat.le_refl _)] at this
  exact this
theorem blk_tape (s : Int) (j : Nat) : blk s j = tape s (32 * j) 32 := by
  apply List.ext_getElem
  · rw [blk_length, tape_length]
  · intro i h1 h2
    rw [blk_length] at h1
    have e1 : (32 * j + i) / 32 = j := by omega
    have e2 : (32 * j + i) % 32 = i := by omega
    simp only [tape, List.getElem_map, List.getElem_range', byte, Nat.one_mul, e1, e2]
    rw [List.getD_eq_getElem?_getD, List.getElem?_eq_getElem (by rw [blk_length]; exact h1)]
    rfl
/-- One sum more. -/
theorem tape_blk (s : Int) (j k : Nat) : tape s (32 * j) (32 * (k + 1)) = tape s (32 * j) (32 * k) ++ blk s (j + k) := by
  rw [show 32 * (k + 1) = 32 * k + 32 from rfl, tape_add, blk_tape]
  congr 2
  omega
/-- How long a slice is. -/
def vlen : Value → Nat
  | .slice _ n _ => n
  | _ => 0
theorem hash_rd {w : World} {g : Nat} {t : TypeId} {T : List Value} {m : List UInt8} (hb : Blk w g t T) (hT : T = m.map cellOf) (hl : m.length = 32) : Rd w (some ⟨g, 0, none⟩) 32 32 m := by
  subst hT
  exact Rd.of_block hb hl (Nat.le_refl _) (by unfold maxLen; omega) (fun j hj => by
    rw [Nat.zero_add]
    simp [cellOf, List.getD_eq_getElem?_getD, List.getElem?_eq_getElem (show j < m.length by omega)])
end Go.Proofs.YtpbfeobifpmjbaaDoor.Tap
namespace Go.Proofs.YtpbfeobifpmjbaaDoor
set_option linter.unusedVariables false
set_option linter.unusedSimpArgs false
set_option maxRecDepth 100000
open Go.RowKit

set_option maxRecDepth 100000 in
set_option maxHeartbeats 4000000 in
theorem rtape_any (s : Int) (a n : Nat) (w : World) (hs1 : -9223372036854775808 ≤ s) (hs2 : s ≤ 9223372036854775807) (ha : a ≤ 1000000) (hn : n ≤ 1000000) :
    Calls Tryd.prog 17 #[.int .i64 s, .int .i64 (a : Int), .int .i64 (n : Int)] w fun e w' => ∃ A c, e = .returned (.slice A n c) ∧ Rd w' A n c (Tap.tape s a n) ∧ Below w.heap.size w w' := by
  have CP := Lib.hid (fun W => rput_any s W hs1 hs2)
  obtain ⟨q, hq⟩ : ∃ q, q = a / 32 := ⟨_, rfl⟩
  obtain ⟨r, hr⟩ : ∃ r, r = a % 32 := ⟨_, rfl⟩
  have eq1 : (a : Int) / 32 = (q : Int) := by omega
  have er1 : (a : Int) % 32 = (r : Int) := by omega
  have eqt : (a : Int).tdiv 32 = (q : Int) := by rw [Int.tdiv_eq_ediv_of_nonneg (by omega)]; exact eq1
  have ert : (a : Int).tmod 32 = (r : Int) := by rw [Int.tmod_eq_emod_of_nonneg (by omega)]; exact er1
  have hqr : Hid (a = 32 * q + r) := by unfold Hid; omega
  have hq6 : q ≤ 31250 := by omega
  have hr32 : r < 32 := by omega
  have hz10 : (Num.enc (Num.zig s)).length ≤ 10 := Num.enc_len10 (Num.zig_lt s hs1 hs2)
  obtain ⟨es, hes⟩ : ∃ l, l = Num.enc (Num.zig s) := ⟨_, rfl⟩
  rw [← hes] at CP hz10
  have HES := Lib.hid hes
  clear hq hr hes
  go_enter Tryd.func17, Tryd.ntmps17
  go_wp2_with fail
  clear eq1 eqt
  go_loopw [7, 8] (fun v i wr => ∃ (k m : Nat) (A : Option Addr) (c : Nat), i = .int .i64 ((q : Int) + (k : Int)) ∧ v = .slice A m c ∧ m < r + n + 32 ∧ Hid (m = 32 * k) ∧ Hid (Ow wr w.heap.size (.slice A m c) (Tap.tape s (32 * q) m)) ∧ Hid (Below w.heap.size w wr)) (fun v _ _ => r + n + 32 - Tap.vlen v)
  case atStart => exact ⟨0, 0, none, 0, by simp, rfl, by omega, by unfold Hid; rfl, Ow.empty _ _, Below.refl _ _⟩
  case round =>
    obtain ⟨k, m, A, c, rfl, rfl, hm, HM, OW, BW⟩ := hrel
    by_cases hlt : m < r + n
    · have hlb : decide ((m : Int) < (r : Int) + (n : Int)) = true := by simp; omega
      have hk6 : k ≤ 1000000 := by have := HM.out; omega
      obtain ⟨j, hj⟩ : ∃ j, j = q + k := ⟨_, rfl⟩
      have ej : (q : Int) + (k : Int) = (j : Int) := by omega
      rw [ej]
      have CJ := Lib.hid (fun W => rput_any (j : Int) W (by omega) (by omega))
      have hz2 : (Num.enc (Num.zig (j : Int))).length ≤ 10 := Num.enc_len10 (Num.zig_lt _ (by omega) (by omega))
      obtain ⟨el, hel⟩ : ∃ l, l = Num.enc (Num.zig (j : Int)) := ⟨_, rfl⟩
      rw [← hel] at CJ hz2
      have HB : Hid (Sha.sum (es ++ el) = Tap.blk s j) := by unfold Hid Tap.blk; rw [hel, HES.out]
      have HT : Hid (Tap.tape s (32 * q) (m + 32) = Tap.tape s (32 * q) m ++ Tap.blk s j) := by unfold Hid; rw [HM.out, hj]; exact Tap.tape_blk s q k
      have HJ := Lib.hid hj
      clear hel hj
      go_wp2_with fail
      refine (CP.out wr).mono ?_
      rintro e w1 ⟨v1, rfl, hO1, hX1⟩
      have O1 := Lib.hid hO1
      have X1 := Lib.hid hX1
      clear hO1 hX1
      go_wp2_with fail
      refine (CJ.out w1).mono ?_
      rintro e w2 ⟨v2, rfl, hO2, hX2⟩
      obtain ⟨A2, c2, rfl, hR2, _⟩ := hO2.value
      have R2 := Lib.hid hR2
      have O12 := Lib.hid (O1.out.keep hX2)
      have X12 := Lib.hid (X1.out.trans (hX2.mono X1.out.size))
      have LN : Hid (es.length + el.length ≤ 140737488355328) := by unfold Hid; omega
      clear hO2 hX2 hR2 O1 X1 CJ
      go_wp2_with (first
        | (at_builtin; refine onto_law rfl (.tmp 22) (.tmp 24) rfl rfl rfl R2.out O12.out LN.out X12.out.size X12.out ?_; intro v3 w3 O3 X3))
      obtain ⟨A3, c3, rfl, hR3, _⟩ := O3.out.value
      refine (rsum_any hR3 (by rw [List.length_append]; omega)).mono ?_
      rintro e w4 ⟨D, rfl, hS, hX4⟩
      have hDl := hS.len
      have HS : Hid (D = (Tap.blk s j).map cellOf) := by unfold Hid; rw [hS, HB.out]
      have ID := Lib.hid hS.info
      have LD : Hid ((List.replicate 32 (Value.int .u8 0)).length = D.length) := by unfold Hid; rw [hDl]; rfl
      have OD := Lib.hid hS.one
      have X4 := Lib.hid (X3.out.trans (hX4.mono X3.out.size))
      clear hR3 hS hX4 hDl O3 X3 O12 X12 R2
      go_upto_region 6 with (first
        | ((with_reducible refine storeGen_law rfl 34 (.tmp 9) (.tmp 26) rfl w4.heap.size rfl D rfl 34 (List.replicate 32 (.int .u8 0)) ID.out LD.out OD.out w4.heap.size w4 ?_ ?_ (Nat.le_refl _) ?_)
           · exact Blk.at_new _ _ 34 _ _ (by rfl) rfl
           · exact (Below.refl _ _).alloc (Nat.le_refl _) _
           intro w5 B5 X5))
      have X5' := Lib.hid (X4.out.trans (X5.out.mono X4.out.size))
      have O5 := Lib.hid (OW.out.keep X5'.out)
      have W5 := Lib.hid (BW.out.trans (X5'.out.mono BW.out.size))
      have R5 := Lib.hid (Tap.hash_rd B5.out HS.out (Tap.blk_length s j))
      have LN2 : Hid ((Tap.tape s (32 * q) m).length + 32 ≤ 140737488355328) := by unfold Hid; rw [Tap.tape_length]; omega
      have hsl := fun W => sliceAt_all 34 32 Tryd.underlying34 w4.heap.size 0 W
      clear X4 X5 B5 X5' OW BW
      go_wp2_with (first
        | (at_builtin; refine onto_law rfl (.tmp 27) (.tmp 28) rfl rfl rfl R5.out O5.out LN2.out W5.out.size W5.out ?_; intro v6 w6 O6 X6))
      rw [← HT.out] at O6
      obtain ⟨A6, c6, rfl, _, _⟩ := O6.out.value
      rw [Tap.tape_length] at O6
      rw [Tap.tape_length]
      clear hsl hlb
      go_roundw
      case rel => exact ⟨k + 1, m + 32, A6, c6, by have := HJ.out; congr 1; omega, rfl, by omega, by unfold Hid; rw [HM.out]; omega, O6, X6⟩
      case measure => simp [Tap.vlen]; omega
    · have hlb : decide ((m : Int) < (r : Int) + (n : Int)) = false := by simp; omega
      have RO := OW.out.rdv (Tap.tape_length _ _ _)
      have hcap := RO.cap
      have hcut : ∀ W, (Instr.slice 28 (.slice A m c) (some (.int .i64 (r : Int))) (some (.int .i64 ((r : Int) + (n : Int)))) none).run Tryd.prog W = .ok (.slice (cutA A c r) n (c - r)) W := fun W => by
        have := slice_lh A m c r (r + n) (by omega) (by omega) W
        rw [show r + n - r = n by omega, show ((r + n : Nat) : Int) = (r : Int) + (n : Int) by omega] at this
        exact this
      have RC : Hid (Rd wr (cutA A c r) n (c - r) (Tap.tape s a n)) := by
        have := RO.cut (k := r) (e := r + n) (by omega) (by omega)
        rw [show r + n - r = n by omega, Tap.tape_cut s (32 * q) m r n (by omega), ← hqr.out] at this
        exact this
      clear RO OW
      go_wp2_with fail
      go_ret
      exact ⟨_, _, rfl, RC.out, BW.out⟩
end Go.Proofs.YtpbfeobifpmjbaaDoor
