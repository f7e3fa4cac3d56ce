import Derived.Test.YtmidbpjdpakkoaaDoorSGrow
import Derived.Test.YtmidbpjdpakkoaaDoorSPhase
import Derived.Test.YtmidbpjdpakkoaaDoorSTm
namespace Go.Proofs.YtmidbpjdpakkoaaDoor
set_option linter.unusedVariables false
set_option linter.unusedSimpArgs false
set_option maxRecDepth 100000
open Go.RowKit
def hv (h : List UInt8) : Value := .agg (h.map cellOf).toArray
theorem hash_info {h : List UInt8} (hl : h.length = 32) : (Tryd.prog.info? 30).map (·.size) = some (h.map cellOf).length := by rw [List.length_map, hl]; kernel_rfl
theorem hash_rd {w : World} {g : Nat} {h : List UInt8} {L : List Value} (hb : Blk w g 30 L) (hL : L = h.map cellOf) (hl : h.length = 32) : Rd w (some ⟨g, 0, none⟩) 32 32 h :=
  Rd.of_block hb hl (Nat.le_refl _) (by unfold maxLen; omega) fun j hj => by
    rw [hL, Nat.zero_add, List.getElem?_map, List.getD_eq_getElem?_getD, List.getElem?_eq_getElem (by omega)]
    rfl
theorem Rd.low {w w' : World} {B g : Nat} {n c : Nat} {l : List UInt8} (h : Rd w (some ⟨g, 0, none⟩) n c l) (hb : Below B w w') (hg : g < B := by omega) : Rd w' (some ⟨g, 0, none⟩) n c l :=
  h.keep hb.size fun b off e h0 _ => by injection e with e; injection e with e1 e2; subst e1; exact hb.block _ hg
theorem own_lit1 (w : World) (x : UInt8) (c : Value) (hc : c = cellOf x) : Ow (w.alloc (.cells #[c] 5)) w.heap.size (.slice (some ⟨w.heap.size, 0, none⟩) 1 1) [x] ∧ w.heap.size < (w.alloc (.cells #[c] 5)).heap.size := by
  subst hc
  exact ⟨World.ownsRow_lit w #[cellOf x] 1 (Nat.le_refl _) (by unfold maxLen; omega) rfl, by simp⟩
def bitI (h : List UInt8) (d : Nat) : Int := if Tm.bit h d then 1 else 0
theorem bitI_eq (h : List UInt8) (d : Nat) : bitI h d = (((h.getD (d / 8) 0).toNat / 2 ^ (7 - d % 8) % 2 : Nat) : Int) := by
  unfold bitI Tm.bit
  rcases Nat.mod_two_eq_zero_or_one ((h.getD (d / 8) 0).toNat / 2 ^ (7 - d % 8)) with e | e <;> rw [e] <;> rfl
theorem and_one8 (x : Int) (h : 0 ≤ x ∧ x < 256) : bits .and .u8 x 1 = x % 2 := by
  obtain ⟨n, rfl⟩ := Int.eq_ofNat_of_zero_le h.1
  have : ∀ n : Fin 256, bits .and .u8 (n.val : Int) 1 = (n.val : Int) % 2 := by decide
  exact this ⟨n, by omega⟩
theorem and_one64 (x : Int) (h : 0 ≤ x ∧ x < 256) : bits .and .i64 x 1 = x % 2 := by
  obtain ⟨n, rfl⟩ := Int.eq_ofNat_of_zero_le h.1
  have : ∀ n : Fin 256, bits .and .i64 (n.val : Int) 1 = (n.val : Int) % 2 := by decide
  exact this ⟨n, by omega⟩
theorem shr_byte (y : UInt8) (k : Nat) : 0 ≤ (y.toNat : Int) / 2 ^ k ∧ (y.toNat : Int) / 2 ^ k < 256 ∧ ((y.toNat / 2 ^ k : Nat) : Int) = (y.toNat : Int) / 2 ^ k := by
  have e : ((y.toNat / 2 ^ k : Nat) : Int) = (y.toNat : Int) / 2 ^ k := by simp
  have h1 : y.toNat / 2 ^ k ≤ y.toNat := Nat.div_le_self _ _
  have h2 := y.toNat_lt
  rw [← e]
  have h0 := Int.natCast_nonneg (y.toNat / 2 ^ k)
  exact ⟨h0, by omega, rfl⟩
set_option maxRecDepth 100000 in
theorem bit_any {h : List UInt8} (hl : h.length = 32) {d : Nat} (hd : d < 256) (w : World) : Calls Tryd.prog 41 #[hv h, .int .i64 (d : Int)] w fun e w' => e = .returned (.int .i64 (bitI h d)) ∧ Below w.heap.size w w' := by
  have hi := bitI_eq h d
  obtain ⟨y, hy⟩ : ∃ y, y = h.getD (d / 8) 0 := ⟨_, rfl⟩
  rw [← hy] at hi
  unfold hv
  obtain ⟨L, hL⟩ : ∃ L, L = h.map cellOf := ⟨_, rfl⟩
  rw [← hL]
  have hc : L[d / 8]? = some (.int .u8 (y.toNat : Int)) := by
    rw [hL, List.getElem?_map, hy, List.getD_eq_getElem?_getD, List.getElem?_eq_getElem (by omega)]
    rfl
  have X0 := Lib.hid (alloc_below w (.cells L.toArray 30))
  have B0 := Lib.hid (Blk.new w 30 L)
  have hyl := y.toNat_lt
  obtain ⟨hs1, hs2, hs3⟩ := shr_byte y (7 - d % 8)
  have HI : Hid (bitI h d = (y.toNat : Int) / 2 ^ (7 - d % 8) % 2) := by unfold Hid; rw [hi]; omega
  clear hL hy hi hs3
  go_enter Tryd.func41, Tryd.ntmps41
  go_upto_region 1 with (fail)
  generalize w.alloc (.cells L.toArray 30) = w1 at *
  have c0 : w1.cell? ⟨w.heap.size, d / 8, none⟩ = some (.int .u8 (y.toNat : Int)) := by rw [B0.out.cell]; exact hc
  go_wp2_with fail
  go_ret
  exact ⟨ret_int (by rw [HI.out]; rw [and_one8 _ ⟨hs1, hs2⟩]; unfold wrap64; omega), X0.out⟩
set_option maxRecDepth 100000 in
theorem rbit_any {h : List UInt8} (hl : h.length = 32) {d : Nat} (hd : d < 256) (w : World) : Calls Tryd.prog 42 #[hv h, .int .i64 (d : Int)] w fun e w' => e = .returned (.int .i64 (bitI h d)) ∧ Below w.heap.size w w' := by
  have hi := bitI_eq h d
  obtain ⟨y, hy⟩ : ∃ y, y = h.getD (d / 8) 0 := ⟨_, rfl⟩
  rw [← hy] at hi
  unfold hv
  obtain ⟨L, hL⟩ : ∃ L, L = h.map cellOf := ⟨_, rfl⟩
  rw [← hL]
  have hc : L[d / 8]? = some (.int .u8 (y.toNat : Int)) := by
    rw [hL, List.getElem?_map, hy, List.getD_eq_getElem?_getD, List.getElem?_eq_getElem (by omega)]
    rfl
  have X0 := Lib.hid (alloc_below w (.cells L.toArray 30))
  have B0 := Lib.hid (Blk.new w 30 L)
  have hyl := y.toNat_lt
  obtain ⟨hs1, hs2, hs3⟩ := shr_byte y (7 - d % 8)
  have HI : Hid (bitI h d = (y.toNat : Int) / 2 ^ (7 - d % 8) % 2) := by unfold Hid; rw [hi]; omega
  clear hL hy hi hs3
  go_enter Tryd.func42, Tryd.ntmps42
  go_upto_region 1 with (fail)
  generalize w.alloc (.cells L.toArray 30) = w1 at *
  have c0 : w1.cell? ⟨w.heap.size, d / 8, none⟩ = some (.int .u8 (y.toNat : Int)) := by rw [B0.out.cell]; exact hc
  go_wp2_with fail
  go_ret
  exact ⟨ret_int (by rw [HI.out]; rw [and_one64 _ ⟨hs1, hs2⟩]), X0.out⟩
end Go.Proofs.YtmidbpjdpakkoaaDoor
