/- Gref2: RefE RefF RefT Zeros. -/
import Derived.Test.YtpbfeobifpmjbaaDoorGref1
import Derived.Deep.LoopGhost
import Derived.Test.YtpbfeobifpmjbaaDoorGpol
import Derived.Test.YtpbfeobifpmjbaaDoorGrow
import Derived.Lib.AppendStr
/- The contract of the document's fold. -/
namespace Go.Proofs.YtpbfeobifpmjbaaDoor
set_option linter.unusedVariables false
set_option linter.unusedSimpArgs false
set_option maxRecDepth 100000
open Go.RowKit

theorem loF_lt (l : List Int) (k : Nat) (h : k < 16) : Pol.loF l (k + 1) = Pol.loF l k ++ [l.getD k 0] := by
  unfold Pol.loF
  rw [Nat.min_eq_left (by omega), Nat.min_eq_left (by omega), List.range_succ, List.map_append, List.map_cons, List.map_nil, if_pos h]
theorem loF_eq (l : List Int) (k : Nat) (h : k = 16) : Pol.loF l (k + 1) = Pol.loF l k ++ [l.getD k 0 % 4] := by
  subst h
  unfold Pol.loF
  rw [show min (16 + 1) 17 = 16 + 1 from rfl, show min 16 17 = 16 from rfl, List.range_succ, List.map_append, List.map_cons, List.map_nil, if_neg (by omega)]
theorem loF_gt (l : List Int) (k : Nat) (h : 16 < k) : Pol.loF l (k + 1) = Pol.loF l k := by
  unfold Pol.loF
  rw [Nat.min_eq_right (by omega), Nat.min_eq_right (by omega)]
theorem hiF_lt (l : List Int) (k : Nat) (h : k < 16) : Pol.hiF l (k + 1) = Pol.hiF l k := by
  unfold Pol.hiF
  rw [show k + 1 - 16 = 0 by omega, show k - 16 = 0 by omega]
theorem hiF_ge (l : List Int) (k : Nat) (h : 16 ≤ k) : Pol.hiF l (k + 1) = Pol.hiF l k ++ [l.getD k 0 / 4 + l.getD (k + 1) 0 % 4 * 64] := by
  unfold Pol.hiF
  rw [show k + 1 - 16 = (k - 16) + 1 by omega, List.range_succ, List.map_append, List.map_cons, List.map_nil, show 16 + (k - 16) = k by omega, show 17 + (k - 16) = k + 1 by omega]
theorem loF_len (l : List Int) (k : Nat) : (Pol.loF l k).length = min k 17 := by simp [Pol.loF]
theorem hiF_len (l : List Int) (k : Nat) : (Pol.hiF l k).length = k - 16 := by simp [Pol.hiF]
theorem all_zero (l : List Int) (h : Pol.In 256 l) : (l.all (· == 0)) = decide (Pol.D l = 0) := by
  induction l with
  | nil => rfl
  | cons x l ih =>
    have hx := h x (by simp)
    have hl : Pol.In 256 l := fun y hy => h y (by simp [hy])
    have hb := Pol.D_bound l hl
    rw [List.all_cons, ih hl, Pol.D]
    by_cases h0 : x = 0
    · subst h0
      by_cases h1 : Pol.D l = 0
      · simp [h1]
      · have h2 : ¬ (0 + 256 * Pol.D l = 0) := by omega
        simp [h1, h2]
    · have : ¬ (x + 256 * Pol.D l = 0) := by omega
      simp [h0, this]

/-- What fold gives: the same modulo 2^130 - 5, below 2^130. -/
def RetF (w : World) (v : Int) (e : Ending) (w' : World) : Prop := ∃ (m : Nat) (y : Int), RetI w (Pol.dg m y) e w' ∧ 1 ≤ m ∧ m ≤ 17 ∧ 0 ≤ y ∧ y < 1361129467683753853853498429727072845824 ∧ y < 256 ^ m ∧ y % Pol.p = v % Pol.p

theorem fold_end (n : Nat) (v : Int) (h1 : 1 ≤ n) (h0 : 0 ≤ v) (hv : v < 256 ^ n) (hz : v / 1361129467683753853853498429727072845824 = 0) : 1 ≤ min n 17 ∧ min n 17 ≤ 17 ∧ 0 ≤ v % 1361129467683753853853498429727072845824 ∧ v % 1361129467683753853853498429727072845824 < 1361129467683753853853498429727072845824 ∧ v % 1361129467683753853853498429727072845824 < 256 ^ (min n 17) ∧ (v % 1361129467683753853853498429727072845824) % Pol.p = v % Pol.p := by
  have e : v % 1361129467683753853853498429727072845824 = v := by omega
  rw [e]
  refine ⟨by omega, by omega, h0, by omega, ?_, rfl⟩
  rcases Nat.le_total n 17 with h | h
  · rw [Nat.min_eq_left h]; exact hv
  · rw [Nat.min_eq_right h, show (256 : Int) ^ 17 = 87112285931760246646623899502532662132736 from rfl]; omega
theorem fold_less (v : Int) (h0 : 0 ≤ v) (hz : ¬ v / 1361129467683753853853498429727072845824 = 0) : v % 1361129467683753853853498429727072845824 + v / 1361129467683753853853498429727072845824 * 5 < v := by omega

end Go.Proofs.YtpbfeobifpmjbaaDoor
/- What the document's Tag wants of mathematics: the masks, the last sum. -/
namespace Go.Proofs.YtpbfeobifpmjbaaDoor
set_option linter.unusedVariables false
set_option linter.unusedSimpArgs false
set_option maxRecDepth 100000
open Go.RowKit

set_option maxRecDepth 100000 in
theorem andI15_fin : ∀ n : Fin 256, bits .and .i64 (n.val : Int) 15 = (n.val : Int) % 16 := by decide
set_option maxRecDepth 100000 in
theorem andI252_fin : ∀ n : Fin 256, bits .and .i64 (n.val : Int) 252 = (n.val : Int) - (n.val : Int) % 4 := by decide
theorem andI15 (x : Int) (h : 0 ≤ x ∧ x < 256) : bits .and .i64 x 15 = x % 16 := by
  have := andI15_fin ⟨x.toNat, by omega⟩
  simp only [Int.toNat_of_nonneg h.1] at this
  exact this
theorem andI252 (x : Int) (h : 0 ≤ x ∧ x < 256) : bits .and .i64 x 252 = x - x % 4 := by
  have := andI252_fin ⟨x.toNat, by omega⟩
  simp only [Int.toNat_of_nonneg h.1] at this
  exact this
def m1 (l : List Int) : Nat → List Int
  | 0 => l
  | t + 1 => (m1 l t).set (4 * t + 3) ((m1 l t).getD (4 * t + 3) 0 % 16)
def m2 (l : List Int) : Nat → List Int
  | 0 => l
  | t + 1 => (m2 l t).set (4 * t + 4) ((m2 l t).getD (4 * t + 4) 0 - (m2 l t).getD (4 * t + 4) 0 % 4)
theorem in_set {m : Int} {l : List Int} (h : Pol.In m l) (j : Nat) (x : Int) (hx : 0 ≤ x ∧ x < m) : Pol.In m (l.set j x) := fun y hy => by
  rcases List.mem_or_eq_of_mem_set hy with h1 | h1
  · exact h y h1
  · rw [h1]; exact hx
theorem at_bd {l : List Int} (h : Pol.In 256 l) (j : Nat) : 0 ≤ l.getD j 0 ∧ l.getD j 0 < 256 := by
  rcases Nat.lt_or_ge j l.length with h1 | h1
  · exact Pol.in_at h j h1
  · rw [Pol.getD_ge h1]; omega
theorem m1_in {l : List Int} (h : Pol.In 256 l) : ∀ t, Pol.In 256 (m1 l t)
  | 0 => h
  | t + 1 => in_set (m1_in h t) _ _ (by have := at_bd (m1_in h t) (4 * t + 3); omega)
theorem m2_in {l : List Int} (h : Pol.In 256 l) : ∀ t, Pol.In 256 (m2 l t)
  | 0 => h
  | t + 1 => in_set (m2_in h t) _ _ (by have := at_bd (m2_in h t) (4 * t + 4); omega)
theorem m1_length (l : List Int) : ∀ t, (m1 l t).length = l.length
  | 0 => rfl
  | t + 1 => by rw [m1, List.length_set, m1_length l t]
theorem m2_length (l : List Int) : ∀ t, (m2 l t).length = l.length
  | 0 => rfl
  | t + 1 => by rw [m2, List.length_set, m2_length l t]
theorem by16 (b : UInt8) : ((Sha.by8 ((b.toNat : Int) % 16)).toNat : Int) = (b.toNat : Int) % 16 := by rw [Pol.by8_toNat]; omega
theorem by252 (b : UInt8) : ((Sha.by8 ((b.toNat : Int) - (b.toNat : Int) % 4)).toNat : Int) = (b.toNat : Int) - (b.toNat : Int) % 4 := by rw [Pol.by8_toNat]; have := b.toNat_lt; omega
set_option maxRecDepth 100000 in
theorem masks (l : List UInt8) (hl : l.length = 16) : m2 (m1 (l.map nat8) 4) 3 = (Pol.clamp l).map nat8 := by
  obtain ⟨y0, l0, rfl, g0⟩ := Pol.cons_of hl
  obtain ⟨y1, l1, rfl, g1⟩ := Pol.cons_of g0
  obtain ⟨y2, l2, rfl, g2⟩ := Pol.cons_of g1
  obtain ⟨y3, l3, rfl, g3⟩ := Pol.cons_of g2
  obtain ⟨y4, l4, rfl, g4⟩ := Pol.cons_of g3
  obtain ⟨y5, l5, rfl, g5⟩ := Pol.cons_of g4
  obtain ⟨y6, l6, rfl, g6⟩ := Pol.cons_of g5
  obtain ⟨y7, l7, rfl, g7⟩ := Pol.cons_of g6
  obtain ⟨y8, l8, rfl, g8⟩ := Pol.cons_of g7
  obtain ⟨y9, l9, rfl, g9⟩ := Pol.cons_of g8
  obtain ⟨y10, l10, rfl, g10⟩ := Pol.cons_of g9
  obtain ⟨y11, l11, rfl, g11⟩ := Pol.cons_of g10
  obtain ⟨y12, l12, rfl, g12⟩ := Pol.cons_of g11
  obtain ⟨y13, l13, rfl, g13⟩ := Pol.cons_of g12
  obtain ⟨y14, l14, rfl, g14⟩ := Pol.cons_of g13
  obtain ⟨y15, l15, rfl, g15⟩ := Pol.cons_of g14
  obtain rfl : l15 = [] := List.eq_nil_of_length_eq_zero g15
  simp [m1, m2, Pol.clamp, Pol.clampTo, Pol.cl, List.range, List.range.loop, nat8, by16, by252]
theorem nat8_in (b : List UInt8) : Pol.In 256 (b.map nat8) := by
  intro x hx
  obtain ⟨y, _, rfl⟩ := List.mem_map.1 hx
  have := y.toNat_lt
  unfold nat8
  omega
theorem nat8_D (b : List UInt8) : Pol.D (b.map nat8) = Pol.le b := (Pol.le_D b).symm
/-- One piece more, as the document has it. -/
theorem piece_D (b : List UInt8) : Pol.D (b.map nat8 ++ [1]) = Pol.le (b ++ [1]) := by
  rw [Pol.D_append, Pol.le_append, nat8_D]
  simp [Pol.D, Pol.le]
theorem step_ref (r a y : Int) (b : List UInt8) (k : Nat) (ha : a % Pol.p = Pol.steps r b k) (hy : y % Pol.p = ((a + Pol.piece b k) * r) % Pol.p) : y % Pol.p = Pol.steps r b (k + 1) := by
  rw [hy, Pol.steps, ← ha]
  rw [Int.mul_emod (a + Pol.piece b k), Int.mul_emod (a % Pol.p + Pol.piece b k), Int.emod_add_emod]
/-- What stands at the end, modulo 2^130 - 5. -/
theorem end_big (y : Int) (h0 : 0 ≤ y) (h1 : y < 1361129467683753853853498429727072845824) (h : 1361129467683753853853498429727072845824 ≤ y + 5) : (y + 5) % 1361129467683753853853498429727072845824 = y % Pol.p := by
  unfold Pol.p
  omega
theorem end_small (y : Int) (h0 : 0 ≤ y) (h : y + 5 < 1361129467683753853853498429727072845824) : y = y % Pol.p := by
  unfold Pol.p
  omega
end Go.Proofs.YtpbfeobifpmjbaaDoor
/- The contract of the document's Tag. -/
namespace Go.Proofs.YtpbfeobifpmjbaaDoor
set_option linter.unusedVariables false
set_option linter.unusedSimpArgs false
set_option maxRecDepth 100000
open Go.RowKit

/-- Ints of a block that a slice literal made. -/
theorem lit_ints (w : World) (l : List Int) (a : Array Value) (ha : a = (l.map iv).toArray) : Blk (w.alloc (.cells a 3)) w.heap.size 3 (l.map iv ++ []) := by
  rw [List.append_nil]
  exact Blk.at_new _ _ _ _ _ ha rfl

end Go.Proofs.YtpbfeobifpmjbaaDoor
/- 'append(x, make([]byte, n)...)': as many noughts behind. -/
namespace Go.Proofs.YtpbfeobifpmjbaaDoor
set_option linter.unusedVariables false
set_option linter.unusedSimpArgs false
set_option maxRecDepth 100000
open Go.RowKit

def zeroS (n : Nat) : ByteArray := ⟨(List.replicate n (0 : UInt8)).toArray⟩
theorem zeroS_size (n : Nat) : (zeroS n).size = n := by simp [zeroS, ByteArray.size]
theorem zero_cells (n : Nat) (w : World) : (Builtin.firstCells 1 n (.string (zeroS n))).run Tryd.prog w = .ok (Builtin.zeroCells #[.int .u8 0] n) w := by
  have h1 : (zeroS n).extract 0 n = zeroS n := by
    have := ByteArray.extract_zero_size (b := zeroS n)
    rw [zeroS_size] at this
    exact this
  simp [Builtin.firstCells, h1]
  apply Array.ext'
  simp [zeroS, Builtin.zeroCells]
  apply List.ext_getElem
  · simp
  · intro i h1 h2
    simp [Nat.mod_one]
theorem append_zeros (w : World) (ty : TypeId) (base : Option Addr) (sLen sCap : Nat) (n : Nat) (h : sLen + n ≤ 1000000) (hcap : sLen ≤ sCap) :
    (Builtin.append_ #[28, 3] ty #[.slice base sLen sCap, .int .i64 (n : Int)]).run Tryd.prog w = (Builtin.append_ #[28, 9] ty #[.slice base sLen sCap, .string (zeroS n)]).run Tryd.prog w := by
  obtain ⟨i0, hi, hz0, hz1, hz2⟩ := info_parts info5
  have h1 : IntKind.i64.wrap (n : Int) = (n : Int) := by rw [IntKind.wrap_i64]; omega
  have h2 : ¬ ((n : Int) < 0) := by omega
  have h3 : ¬ ((281474976710656 : Int) < (n : Int)) := by omega
  have h4 : ¬ ((9223372036854775807 : Int) < (sLen : Int) + (n : Int)) := by omega
  have hzc : (Value.int .u8 0).cells = #[.int .u8 0] := rfl
  rcases Nat.eq_zero_or_pos n with h0 | h0
  · subst h0
    have h5 : ¬ ((9223372036854775807 : Int) < (sLen : Int)) := by omega
    have h6 : IntKind.i64.wrap 0 = 0 := by decide
    have hzz := zero_cells 0
    simp [Builtin.zeroCells] at hzz
    simp [Builtin.append_, run_underlying Tryd.underlying28, run_underlying Tryd.underlying3, run_underlying Tryd.underlying9, sizeOf, typeInfo, hi, hz0, hz1, hz2, asInt, asIntOf, h6, h5, Builtin.lenOf, zeroS_size, hcap, hzz]
  · have h7 : ¬ n = 0 := by omega
    by_cases hroom : sLen + n ≤ sCap
    · simp [Builtin.append_, run_underlying Tryd.underlying28, run_underlying Tryd.underlying3, run_underlying Tryd.underlying9, sizeOf, typeInfo, zeroValue, hi, hz0, hz1, hz2, asInt, asIntOf, h1, h2, h3, h4, h7, Builtin.lenOf, zeroS_size, hroom, zero_cells, hzc]
    · have h8 : ¬ 281474976710656 < Builtin.nextslicecap (sLen + n) sCap := by
        have := growslice_fits (need := sLen + n) (old := sCap) (bytes := 1) (by omega) (by omega)
        omega
      simp [Builtin.append_, run_underlying Tryd.underlying28, run_underlying Tryd.underlying3, run_underlying Tryd.underlying9, sizeOf, typeInfo, zeroValue, hi, hz0, hz1, hz2, asInt, asIntOf, h1, h2, h3, h4, h7, h8, Builtin.lenOf, zeroS_size, hroom, zero_cells, hzc]
theorem zero_bytes (n : Nat) : Lib.strCells (zeroS n) = (List.replicate n (0 : UInt8)).map cellOf := by
  simp [Lib.strCells, zeroS, cellOf]
/-- 'append(x, make([]byte, n)...)', x the call's own or nil. -/
theorem run_zeros {wr : World} {B : Nat} {v : Value} {l : List UInt8} (ty : TypeId) (n : Nat) (hown : Ow wr B v l) (hlen : l.length + n ≤ 1000000) (hB : B ≤ wr.heap.size) :
    ∃ v' w', (Builtin.append_ #[28, 3] ty #[v, .int .i64 (n : Int)]).run Tryd.prog wr = .ok v' w' ∧ Ow w' B v' (l ++ List.replicate n 0) ∧ wr.grownBy w' v.ownBlock := by
  obtain ⟨i0, hi, hz0, hz1, hz2⟩ := info_parts info5
  obtain ⟨v', w', hrun, h2, h3, _⟩ := Lib.run_append_own_string (P := Tryd.prog) wr B 28 9 ty 5 i0 Tryd.underlying28 Tryd.underlying9 hi hz0 hz1 hz2 v l.length (l.map cellOf) hown (zeroS n) (by rw [zeroS_size]; unfold maxLen; omega) (by rw [zeroS_size]; omega) hB
  rw [zeroS_size, zero_bytes, ← List.map_append] at h2
  refine ⟨v', w', ?_, by unfold Ow; simpa using h2, h3⟩
  rw [← hrun]
  rcases hown.2 with ⟨rfl, h0⟩ | ⟨g, cap, cur, rfl, _, _, hnc, _⟩
  · exact append_zeros wr ty none 0 0 n (by omega) (Nat.le_refl _)
  · exact append_zeros wr ty _ _ _ n (by omega) hnc
theorem zeros_law {ops : Array Oper} {rest : List Oper} {o : Oper} {a : Act} {Q : Exit → Act → World → Prop} {wr w0 : World} {B : Nat} {v : Value} {l : List UInt8} {n : Nat} (hgd : o.guard = none) (s x : Operand)
    (ho : o.op = .call { callee := .builtin .append, args := #[s, x], argTypes := #[28, 3] }) (hs : a.eval s = v) (hx : a.eval x = .int .i64 (n : Int)) (hown : Ow wr B v l)
    (hlen : l.length + n ≤ 1000000) (hB : B ≤ wr.heap.size) (hbel : Below B w0 wr)
    (h : ∀ v' w', Hid (Ow w' B v' (l ++ List.replicate n 0)) → Hid (Below B w0 w') → wpList Tryd.prog ops Q rest (a.put o.dst v') w') : wpList Tryd.prog ops Q (o :: rest) a wr := by
  obtain ⟨v', w', hrun, h2, h3⟩ := run_zeros o.type n hown hlen hB
  refine wpList_plain hgd fun K hK => ?_
  unfold Oper.wp execOp
  simp only [ho, resolve, invoke, builtin, Sem.run_bind, Sem.run_pure, Result.andThen_ok, List.map_toArray, List.map_cons, List.map_nil, hs, hx, hrun]
  exact hK _ _ (h v' w' h2 (hbel.grown h3 hB fun k hk => (World.ownsRow.lt hown k hk).1))
end Go.Proofs.YtpbfeobifpmjbaaDoor
