/- The contract of words. -/
import Derived.Test.YtbepofmkfloajaaDoorBase
import Derived.StillTailTactics
import Derived.Deep.QuietTactic
import Derived.BigQuiet
namespace Go.Proofs.YtbepofmkfloajaaDoor
set_option linter.unusedVariables false
set_option linter.unusedSimpArgs false
open Go.RowKit

theorem zeros56 : (Array.replicate 64 (Value.int .u32 0)).toList = List.replicate 64 (wd 0) := by simp [wd]

/-- The cells of a schedule of which the first words stand. -/
def fill (l : List Int) : List Value := l.map wd ++ List.replicate (64 - l.length) (wd 0)
theorem fill_length (l : List Int) (h : l.length ≤ 64) : (fill l).length = 64 := by simp [fill]; omega
theorem fill_get (l : List Int) (j : Nat) (h : j < l.length) : (fill l)[j]? = some (wd (l.getD j 0)) := by
  unfold fill
  rw [List.getElem?_append_left (by simpa using h)]
  simp [List.getD_eq_getElem?_getD, List.getElem?_eq_getElem h]
theorem fill_at (l : List Int) (h : l.length < 64) : (fill l)[l.length]? = some (wd 0) := by
  unfold fill
  rw [List.getElem?_append_right (by simp), List.length_map, Nat.sub_self]
  exact List.getElem?_replicate_of_lt (by omega)
theorem fill_set (l : List Int) (x : Int) (h : l.length < 64) : (fill l).set l.length (wd x) = fill (l ++ [x]) := by
  unfold fill
  obtain ⟨k, hk⟩ : ∃ k, 64 - l.length = k + 1 := ⟨63 - l.length, by omega⟩
  have hk' : 64 - (l ++ [x]).length = k := by simp; omega
  rw [hk, hk', List.set_append_right _ _ (by simp)]
  simp [List.replicate_succ]

theorem firsts_drop (b : List UInt8) (k : Nat) (h : 4 * k + 3 < b.length) :
    Sha.firsts (b.drop (4 * k)) = Sha.wordOf (b.getD (4 * k) 0) (b.getD (4 * k + 1) 0) (b.getD (4 * k + 2) 0) (b.getD (4 * k + 3) 0) :: Sha.firsts (b.drop (4 * (k + 1))) := by
  have e : b.drop (4 * k) = b.getD (4 * k) 0 :: b.getD (4 * k + 1) 0 :: b.getD (4 * k + 2) 0 :: b.getD (4 * k + 3) 0 :: b.drop (4 * (k + 1)) := by
    rw [List.drop_eq_getElem_cons (show 4 * k < b.length by omega), List.drop_eq_getElem_cons (show 4 * k + 1 < b.length by omega), List.drop_eq_getElem_cons (show 4 * k + 1 + 1 < b.length by omega), List.drop_eq_getElem_cons (show 4 * k + 1 + 1 + 1 < b.length by omega)]
    simp only [List.getD_eq_getElem?_getD]
    rw [List.getElem?_eq_getElem (show 4 * k < b.length by omega), List.getElem?_eq_getElem (show 4 * k + 1 < b.length by omega), List.getElem?_eq_getElem (show 4 * k + 2 < b.length by omega), List.getElem?_eq_getElem (show 4 * k + 3 < b.length by omega)]
    rfl
  rw [e, Sha.firsts_cons]
theorem word_form (x0 x1 x2 x3 : UInt8) :
    bits BinOp.or IntKind.u32 (bits BinOp.or IntKind.u32 (bits BinOp.or IntKind.u32 ((x0.toNat : Int) % 4294967296 * 16777216 % 4294967296) ((x1.toNat : Int) % 4294967296 * 65536 % 4294967296)) ((x2.toNat : Int) % 4294967296 * 256 % 4294967296)) ((x3.toNat : Int) % 4294967296) = Sha.wordOf x0 x1 x2 x3 := by
  have h0 := x0.toNat_lt
  have h1 := x1.toNat_lt
  have h2 := x2.toNat_lt
  have h3 := x3.toNat_lt
  have e0 : (x0.toNat : Int) % 4294967296 * 16777216 % 4294967296 = (x0.toNat : Int) * 16777216 := by omega
  have e1 : (x1.toNat : Int) % 4294967296 * 65536 % 4294967296 = (x1.toNat : Int) * 65536 := by omega
  have e2 : (x2.toNat : Int) % 4294967296 * 256 % 4294967296 = (x2.toNat : Int) * 256 := by omega
  have e3 : (x3.toNat : Int) % 4294967296 = (x3.toNat : Int) := by omega
  rw [e0, e1, e2, e3]
  rfl
theorem turn_still (x : Int) (n : Nat) (w : World) (h1 : 1 ≤ n) (h2 : n < 32) :
    Calls Tryd.prog 36 #[.int .u32 x, .int .i64 (n : Int)] w fun e w' => e = .returned (.int .u32 (Sha.rot x n)) ∧ w' = w := (turn_any x n w h1 h2).mono fun _ _ h => ⟨h.1, h.2.symm⟩
theorem turn_lit (x n : Int) (w : World) (h1 : 1 ≤ n) (h2 : n < 32) :
    Calls Tryd.prog 36 #[.int .u32 x, .int .i64 n] w fun e w' => e = .returned (.int .u32 (Sha.rot x n.toNat)) ∧ w' = w := by
  obtain ⟨m, rfl⟩ := Int.eq_ofNat_of_zero_le (show 0 ≤ n by omega)
  exact turn_still x m w (by omega) (by omega)
theorem next_form (a b x y : Int) : (a + b + bits BinOp.xor IntKind.u32 (bits BinOp.xor IntKind.u32 (Sha.rot x 7) (Sha.rot x 18)) (x / 8) + bits BinOp.xor IntKind.u32 (bits BinOp.xor IntKind.u32 (Sha.rot y 17) (Sha.rot y 19)) (y / 1024)) % 4294967296 = Sha.nextW a b (Sha.sm0 x) (Sha.sm1 y) := by
  show (a + b + Sha.sm0 x + Sha.sm1 y) % 4294967296 = _
  unfold Sha.nextW Sha.add
  simp only [IntKind.wrap_u32']
  omega
theorem bytes_at (b : List UInt8) (j : Nat) (h : j < b.length) : (b.map cellOf)[j]? = some (.int .u8 ((b.getD j 0).toNat : Int)) := by
  simp [cellOf, List.getD_eq_getElem?_getD, List.getElem?_eq_getElem h]

set_option maxRecDepth 100000 in
set_option maxHeartbeats 4000000 in
theorem words_any (b : List UInt8) (w : World) (hb : b.length = 64) :
    Calls Tryd.prog 31 #[.agg (b.map cellOf).toArray] w fun e w' => e = .returned (.agg ((Sha.sched b).map wd).toArray) ∧ Below w.heap.size w w' := by
  obtain ⟨cs, hcs⟩ : ∃ cs, cs = b.map cellOf := ⟨_, rfl⟩
  rw [← hcs]
  have HC := Lib.hid hcs
  have HL := Lib.hid hb
  clear hcs hb
  go_enter Tryd.func31, Tryd.ntmps31
  go_wp2
  go_loopw [8] (fun i wr => ∃ (k : Nat) (l : List Int), k ≤ 16 ∧ i = .int .i64 k ∧ Hid (l.length = k) ∧ Hid (l ++ Sha.firsts (b.drop (4 * k)) = Sha.firsts b) ∧ Hid (Blk wr w.heap.size 51 cs) ∧ Hid (Blk wr (w.heap.size + 1) 56 (fill [])) ∧ Hid (Blk wr (w.heap.size + 1 + 1) 56 (fill l)) ∧ Hid (Below w.heap.size w wr)) (fun i _ => 16 - (intOf i).toNat)
  case atStart =>
    refine ⟨0, [], by omega, rfl, rfl, rfl, ?_, ?_, ?_, ?_⟩
    · exact ((Blk.new w 51 cs).alloc _).alloc _
    · exact (Blk.at_new _ _ 56 _ _ (by rfl) (by simp)).alloc _
    · exact Blk.at_new _ _ 56 _ _ (by rfl) (by simp)
    · exact (((Below.refl _ _).alloc (Nat.le_refl _) _).alloc (by simp) _).alloc (by simp; omega) _
  case round =>
    obtain ⟨k, l, hk, rfl, HK, HE, HB0, HB1, HB2, HW⟩ := hrel
    by_cases hlt : k < 16
    · have hcell : ∀ j, j < 64 → wr.cell? ⟨w.heap.size, j, none⟩ = some (.int .u8 ((b.getD j 0).toNat : Int)) := fun j hj => by
        rw [HB0.out.cell, HC.out]; exact bytes_at b j (by rw [HL.out]; exact hj)
      have c0 := hcell (4 * k) (by omega)
      have c1 := hcell (4 * k + 1) (by omega)
      have c2 := hcell (4 * k + 2) (by omega)
      have c3 := hcell (4 * k + 3) (by omega)
      have HF := Lib.hid (firsts_drop b k (by rw [HL.out]; omega))
      clear hcell
      generalize b.getD (4 * k) 0 = x0 at c0 HF
      generalize b.getD (4 * k + 1) 0 = x1 at c1 HF
      generalize b.getD (4 * k + 2) 0 = x2 at c2 HF
      generalize b.getD (4 * k + 3) 0 = x3 at c3 HF
      have f2 : wr.drew.frozen? ⟨w.heap.size + 1 + 1, k, none⟩ = false := HB2.out.frozen k
      have c4 : wr.drew.cell? ⟨w.heap.size + 1 + 1, k, none⟩ = some (.int .u32 0) := by
        rw [HB2.out.drew.cell, ← HK.out]; exact fill_at l (by rw [HK.out]; omega)
      replace c0 : wr.drew.cell? ⟨w.heap.size, 4 * k, none⟩ = some (.int .u8 (x0.toNat : Int)) := c0
      replace c1 : wr.drew.cell? ⟨w.heap.size, 4 * k + 1, none⟩ = some (.int .u8 (x1.toNat : Int)) := c1
      replace c2 : wr.drew.cell? ⟨w.heap.size, 4 * k + 2, none⟩ = some (.int .u8 (x2.toNat : Int)) := c2
      replace c3 : wr.drew.cell? ⟨w.heap.size, 4 * k + 3, none⟩ = some (.int .u8 (x3.toNat : Int)) := c3
      have B0 := Lib.hid HB0.out.drew
      have B1 := Lib.hid HB1.out.drew
      have B2 := Lib.hid HB2.out.drew
      have BW := Lib.hid HW.out.drew
      clear HB0 HB1 HB2 HW
      obtain ⟨j0, hj0⟩ : ∃ j, j = 4 * k := ⟨_, rfl⟩
      obtain ⟨j1, hj1⟩ : ∃ j, j = j0 + 1 := ⟨_, rfl⟩
      obtain ⟨j2, hj2⟩ : ∃ j, j = j0 + 2 := ⟨_, rfl⟩
      obtain ⟨j3, hj3⟩ : ∃ j, j = j0 + 3 := ⟨_, rfl⟩
      rw [← hj0] at c0 c1 c2 c3
      rw [← hj1] at c1
      rw [← hj2] at c2
      rw [← hj3] at c3
      have e0 : IntKind.i64.wrap (4 * (k : Int)) = (j0 : Int) := by rw [IntKind.wrap_i64]; omega
      have e1 : IntKind.i64.wrap ((j0 : Int) + 1) = (j1 : Int) := by rw [IntKind.wrap_i64]; omega
      have e2 : IntKind.i64.wrap ((j0 : Int) + 2) = (j2 : Int) := by rw [IntKind.wrap_i64]; omega
      have e3 : IntKind.i64.wrap ((j0 : Int) + 3) = (j3 : Int) := by rw [IntKind.wrap_i64]; omega
      have b0 : (j0 : Int) < 64 := by omega
      have b1 : (j1 : Int) < 64 := by omega
      have b2 : (j2 : Int) < 64 := by omega
      have b3 : (j3 : Int) < 64 := by omega
      have bk : (k : Int) < 64 := by omega
      clear hj0 hj1 hj2 hj3
      go_wp2_with fail
      refine wp_region_still_tail 31 (by kernel_rfl) (by kernel_rfl) ?_
      simp only [List.take_succ_cons, List.take_zero, List.drop_succ_cons, List.drop_zero]
      change wpStill Tryd.prog _ wr.drew (fun a' => wpList Tryd.prog _ _ _ a' wr.drew) _ _
      generalize wr.drew = w2 at *
      repeat still_step
      refine wpStill_nil ?_
      go_wp2
      go_roundw
      case rel => exact ⟨k + 1, l ++ [Sha.wordOf x0 x1 x2 x3], by omega, by go_num, by unfold Hid; simp [HK.out], by unfold Hid; rw [List.append_assoc, ← HE.out, HF.out]; rfl, B0.out.far (by show w.heap.size ≠ w.heap.size + 1 + 1; omega) _, B1.out.far (by show w.heap.size + 1 ≠ w.heap.size + 1 + 1; omega) _, by
        have := B2.out.set_ k (wd (Sha.wordOf x0 x1 x2 x3))
        rw [show k = l.length from HK.out.symm, fill_set l _ (by rw [HK.out]; omega)] at this
        rw [word_form]
        rw [HK.out] at this
        exact this, BW.out.setCell (by show w.heap.size ≤ w.heap.size + 1 + 1; omega) _⟩
      case measure => simp [intOf]; omega
    · obtain rfl : k = 16 := by omega
      have HE2 : Hid (Sha.ext (64 - 16) l = Sha.sched b) := by
        unfold Hid Sha.sched
        rw [← HE.out, List.drop_of_length_le (by rw [HL.out]; omega)]
        simp [Sha.firsts]
      clear HE HL hk hlt HC
      obtain ⟨S, hS⟩ : ∃ S, S = Sha.sched b := ⟨_, rfl⟩
      rw [← hS] at HE2
      have HSb := Lib.hid hS
      clear hS
      go_wp2_with fail
      have e16 : ((16 : Nat) : Int) = 16 := rfl
      rw [e16]
      clear e16
      go_loopw [5] (fun i wr => ∃ (k : Nat) (l : List Int), 16 ≤ k ∧ k ≤ 64 ∧ i = .int .i64 k ∧ Hid (l.length = k) ∧ Hid (Sha.ext (64 - k) l = S) ∧ Hid (Blk wr (w.heap.size + 1) 56 (fill [])) ∧ Hid (Blk wr (w.heap.size + 1 + 1) 56 (fill l)) ∧ Hid (Below w.heap.size w wr)) (fun i _ => 64 - (intOf i).toNat)
      case atStart => exact ⟨16, l, by omega, by omega, rfl, HK, HE2, HB1, HB2, HW⟩
      case round =>
        clear HE2 HB1 HB2 HW HK HB0 l
        obtain ⟨k, l, hk0, hk, rfl, HK, HE, HB1, HB2, HW⟩ := hrel
        by_cases hlt : k < 64
        · have hcell : ∀ j, j < k → wr.drew.cell? ⟨w.heap.size + 1 + 1, j, none⟩ = some (.int .u32 (l.getD j 0)) := fun j hj => by
            rw [HB2.out.drew.cell]; exact fill_get l j (by rw [HK.out]; exact hj)
          have c15 := hcell (k - 15) (by omega)
          have c2 := hcell (k - 2) (by omega)
          have c16 := hcell (k - 16) (by omega)
          have c7 := hcell (k - 7) (by omega)
          have f2 : wr.drew.frozen? ⟨w.heap.size + 1 + 1, k, none⟩ = false := HB2.out.frozen k
          have c4 : wr.drew.cell? ⟨w.heap.size + 1 + 1, k, none⟩ = some (.int .u32 0) := by
            rw [HB2.out.drew.cell, ← HK.out]; exact fill_at l (by rw [HK.out]; omega)
          have HN : Hid (Sha.nx l = Sha.nextW (l.getD (k - 16) 0) (l.getD (k - 7) 0) (Sha.sm0 (l.getD (k - 15) 0)) (Sha.sm1 (l.getD (k - 2) 0))) := by
            unfold Hid Sha.nx; rw [HK.out]
          have HX : Hid (Sha.ext (64 - (k + 1)) (l ++ [Sha.nx l]) = S) := by
            unfold Hid; rw [← HE.out, show 64 - k = (64 - (k + 1)) + 1 by omega, Sha.ext_succ]
          clear hcell HE
          generalize l.getD (k - 16) 0 = y16 at c16 HN
          generalize l.getD (k - 7) 0 = y7 at c7 HN
          generalize l.getD (k - 15) 0 = y15 at c15 HN
          generalize l.getD (k - 2) 0 = y2 at c2 HN
          have B1 := Lib.hid HB1.out.drew
          have B2 := Lib.hid HB2.out.drew
          have BW := Lib.hid HW.out.drew
          clear HB1 HB2 HW
          obtain ⟨j16, hj16⟩ : ∃ j, j = k - 16 := ⟨_, rfl⟩
          obtain ⟨j15, hj15⟩ : ∃ j, j = k - 15 := ⟨_, rfl⟩
          obtain ⟨j7, hj7⟩ : ∃ j, j = k - 7 := ⟨_, rfl⟩
          obtain ⟨j2, hj2⟩ : ∃ j, j = k - 2 := ⟨_, rfl⟩
          rw [← hj16] at c16
          rw [← hj15] at c15
          rw [← hj7] at c7
          rw [← hj2] at c2
          have e16 : IntKind.i64.wrap ((k : Int) - 16) = (j16 : Int) := by rw [IntKind.wrap_i64]; omega
          have e15 : IntKind.i64.wrap ((k : Int) - 15) = (j15 : Int) := by rw [IntKind.wrap_i64]; omega
          have e7 : IntKind.i64.wrap ((k : Int) - 7) = (j7 : Int) := by rw [IntKind.wrap_i64]; omega
          have e2 : IntKind.i64.wrap ((k : Int) - 2) = (j2 : Int) := by rw [IntKind.wrap_i64]; omega
          have b16 : (j16 : Int) < 64 := by omega
          have b15 : (j15 : Int) < 64 := by omega
          have b7 : (j7 : Int) < 64 := by omega
          have b2 : (j2 : Int) < 64 := by omega
          have bk : (k : Int) < 64 := by omega
          clear hj16 hj15 hj7 hj2
          go_wp2_with fail
          refine wp_region_still_lit (by kernel_rfl) (by kernel_rfl) ?_
          have hD : ({ wr with drawn := wr.drawn + 1 } : World) = wr.drew := rfl
          rw [hD]
          clear hD
          generalize wr.drew = w2 at *
          repeat still_step
          refine wpStill_nil ?_
          go_wp2_with fail
          refine wp_region_still_tail 29 (by kernel_rfl) (by kernel_rfl) ?_
          simp only [List.take_succ_cons, List.take_zero, List.drop_succ_cons, List.drop_zero]
          replace c16 : w2.drew.cell? ⟨w.heap.size + 1 + 1, j16, none⟩ = some (.int .u32 y16) := c16
          replace c7 : w2.drew.cell? ⟨w.heap.size + 1 + 1, j7, none⟩ = some (.int .u32 y7) := c7
          replace c4 : w2.drew.cell? ⟨w.heap.size + 1 + 1, k, none⟩ = some (.int .u32 0) := c4
          replace f2 : w2.drew.frozen? ⟨w.heap.size + 1 + 1, k, none⟩ = false := f2
          replace B1 := Lib.hid B1.out.drew
          replace B2 := Lib.hid B2.out.drew
          replace BW := Lib.hid BW.out.drew
          clear c15 c2
          have hD : ({ w2 with drawn := w2.drawn + 1 } : World) = w2.drew := rfl
          rw [hD]
          clear hD
          generalize w2.drew = w3 at *
          repeat (first | still_step | still_call (turn_lit _ _ _ (by omega) (by omega)))
          refine wpStill_nil ?_
          go_wp2
          go_roundw
          case rel => exact ⟨k + 1, l ++ [Sha.nx l], by omega, by omega, by go_num, by unfold Hid; simp [HK.out], HX, B1.out.far (by show w.heap.size + 1 ≠ w.heap.size + 1 + 1; omega) _, by
            rw [next_form, ← HN.out]
            have := B2.out.set_ k (wd (Sha.nx l))
            rw [show k = l.length from HK.out.symm, fill_set l _ (by rw [HK.out]; omega)] at this
            rw [HK.out] at this
            exact this, BW.out.setCell (by show w.heap.size ≤ w.heap.size + 1 + 1; omega) _⟩
          case measure => simp [intOf]; omega
        · obtain rfl : k = 64 := by omega
          have HZ : Hid (l = S) := HE.out
          clear HE
          obtain ⟨C, hC⟩ : ∃ C, C = l.map wd := ⟨_, rfl⟩
          have hCl : C.length = 64 := by rw [hC, List.length_map, HK.out]
          have hfl : fill l = C := by unfold fill; rw [HK.out, hC]; simp
          have HB3 := HB2.out
          rw [hfl] at HB3
          have HN := Lib.hid (HB1.out.row (cs' := C))
          have HB4 := Lib.hid (below_setRow HW.out (show w.heap.size ≤ w.heap.size + 1 by omega) C.toArray)
          have HV : Hid (C = S.map wd) := by unfold Hid; rw [hC, HZ.out]
          have H1 : Hid (∀ v ∈ C, v.oneCell' = true) := by unfold Hid; rw [hC]; exact cells_wd l
          have HC := Lib.hid hCl
          have HD := Lib.hid HB3
          have HF0 : Hid ((fill []).length = C.length) := (fill_length [] (by decide)).trans hCl.symm
          have HI : Hid ((Tryd.prog.info? 56).map (·.size) = some C.length) := by unfold Hid; rw [hCl]; kernel_rfl
          clear hfl HB3 hC HB2 HK HZ hCl
          go_wp2_with (first
            | (with_reducible refine load_law rfl 56 (.tmp 3) rfl (w.heap.size + 1 + 1) 0 rfl C _ Tryd.underlying56 rfl HI.out HD.out.cells ?_)
            | (with_reducible refine storeAll_law rfl 56 (.tmp 2) (.tmp 84) rfl (w.heap.size + 1) rfl C rfl 56 (fill []) HB1.out HI.out HF0.out H1.out ?_))
          refine bodyPost_ret (results_cell_row rfl _ _ (w.heap.size + 1) 56 C.toArray (0, 0) _ rfl HN.out Tryd.underlying56 rfl (by rw [HI.out]; simp)) rfl ⟨?_, HB4.out⟩
          rw [HV.out, HSb.out]
end Go.Proofs.YtbepofmkfloajaaDoor
