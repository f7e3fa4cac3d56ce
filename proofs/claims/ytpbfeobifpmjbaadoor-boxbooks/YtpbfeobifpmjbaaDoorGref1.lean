/- Gref1: PolV IRow RefA RefB RefC RefD. -/
import Derived.Test.YtpbfeobifpmjbaaDoorGpol
import Derived.Test.YtpbfeobifpmjbaaDoorGrow
import Derived.Test.YtpbfeobifpmjbaaDoorGphase
import Derived.StillTailTactics
/- Poly1305 by digits of eight bits, as the document has it: the mathematics. No program in it. -/
namespace Go.Proofs.YtpbfeobifpmjbaaDoor.Pol
set_option linter.unusedVariables false
set_option linter.unusedSimpArgs false
set_option maxRecDepth 100000
/- Numbers by digits of eight bits. -/
def D : List Int → Int
  | [] => 0
  | x :: l => x + 256 * D l
/-- n digits of a number. -/
def dg (n : Nat) (v : Int) : List Int := (List.range n).map fun j => v / 256 ^ j % 256
theorem dg_length (n : Nat) (v : Int) : (dg n v).length = n := by simp [dg]
theorem pow_pos (n : Nat) : (0 : Int) < 256 ^ n := Int.pow_pos (by omega)
theorem D_append : ∀ l m : List Int, D (l ++ m) = D l + 256 ^ l.length * D m
  | [], m => by simp [D]
  | b :: l, m => by
    simp only [List.cons_append, D, D_append l m, List.length_cons, Int.pow_succ]
    grind
theorem D_take (l : List Int) (k : Nat) (h : k < l.length) : D (l.take (k + 1)) = D (l.take k) + 256 ^ k * l.getD k 0 := by
  rw [List.take_succ_eq_append_getElem h, D_append, List.length_take, Nat.min_eq_left (by omega)]
  simp [D, List.getD_eq_getElem?_getD, List.getElem?_eq_getElem h]
theorem D_set : ∀ (l : List Int) (j : Nat) (x : Int), j < l.length → D (l.set j x) = D l + 256 ^ j * (x - l.getD j 0)
  | [], _, _, h => by simp at h
  | y :: l, 0, x, _ => by simp [D]; omega
  | y :: l, j + 1, x, h => by
    have := D_set l j x (by simpa using h)
    simp only [List.set_cons_succ, D, this, List.getD_cons_succ, Int.pow_succ]
    grind
theorem D_bound : ∀ l : List Int, In 256 l → 0 ≤ D l ∧ D l < 256 ^ l.length
  | [], _ => by simp [D]
  | x :: l, h => by
    have ih := D_bound l (fun y hy => h y (by simp [hy]))
    have hx := h x (by simp)
    simp only [D, List.length_cons, Int.pow_succ]
    omega
theorem D_nonneg : ∀ (m : Int) (l : List Int), In m l → 0 ≤ D l
  | _, [], _ => by simp [D]
  | m, x :: l, h => by
    have ih := D_nonneg m l (fun y hy => h y (by simp [hy]))
    have hx := h x (by simp)
    simp only [D]
    omega
theorem dg_succ (n : Nat) (v : Int) : dg (n + 1) v = v % 256 :: dg n (v / 256) := by
  unfold dg
  rw [List.range_succ_eq_map, List.map_cons, List.map_map]
  congr 1
  · simp
  · apply List.map_congr_left
    intro j _
    show v / 256 ^ (j + 1) % 256 = v / 256 / 256 ^ j % 256
    rw [Int.ediv_ediv_of_nonneg (show (0 : Int) ≤ 256 by omega), Int.pow_succ, Int.mul_comm]
theorem dg_D : ∀ l : List Int, In 256 l → dg l.length (D l) = l
  | [], _ => rfl
  | x :: l, h => by
    have hx := h x (by simp)
    rw [List.length_cons, dg_succ, D, show (x + 256 * D l) / 256 = D l by omega, show (x + 256 * D l) % 256 = x by omega, dg_D l (fun y hy => h y (by simp [hy]))]
theorem dg_in (n : Nat) (v : Int) : In 256 (dg n v) := by
  intro x hx
  obtain ⟨j, _, rfl⟩ := List.mem_map.1 hx
  omega
theorem D_dg : ∀ (n : Nat) (v : Int), 0 ≤ v → v < 256 ^ n → D (dg n v) = v
  | 0, v, h0, h1 => by simp at h1; simp [dg, D]; omega
  | n + 1, v, h0, h1 => by
    rw [Int.pow_succ] at h1
    rw [dg_succ, D, D_dg n (v / 256) (by omega) (by omega)]
    omega
theorem dg_at (n : Nat) (v : Int) (j : Nat) (h : j < n) : (dg n v).getD j 0 = v / 256 ^ j % 256 := by simp [dg, List.getD_eq_getElem?_getD, h]
theorem in_at {m : Int} {l : List Int} (h : In m l) (j : Nat) (hj : j < l.length) : 0 ≤ l.getD j 0 ∧ l.getD j 0 < m := by
  have : l.getD j 0 = l[j] := by simp [List.getD_eq_getElem?_getD, List.getElem?_eq_getElem hj]
  rw [this]
  exact h _ (List.getElem_mem hj)
theorem in_of {m : Int} {l : List Int} (h : ∀ j, j < l.length → 0 ≤ l.getD j 0 ∧ l.getD j 0 < m) : In m l := by
  intro x hx
  obtain ⟨j, hj, rfl⟩ := List.mem_iff_getElem.1 hx
  have := h j hj
  simpa [List.getD_eq_getElem?_getD, List.getElem?_eq_getElem hj] using this
theorem getD_set (l : List Int) (i j : Nat) (x : Int) : (l.set i x).getD j 0 = if i = j ∧ i < l.length then x else l.getD j 0 := by
  rw [List.getD_eq_getElem?_getD, List.getD_eq_getElem?_getD, List.getElem?_set]
  by_cases h : i = j
  · subst h
    by_cases h2 : i < l.length
    · simp [h2]
    · simp [h2]
  · simp [h]
theorem le_D (b : List UInt8) : le b = D (b.map fun x => (x.toNat : Int)) := by
  induction b with
  | nil => rfl
  | cons x b ih => simp only [le, List.map_cons, D, ih]
theorem bytes_in (b : List UInt8) : In 256 (b.map fun x => (x.toNat : Int)) := by
  intro x hx
  obtain ⟨y, _, rfl⟩ := List.mem_map.1 hx
  have := y.toNat_lt
  omega

/-- 'carry' at the digit k: the same number, the digits ahead in order. -/
structure Car (l m : List Int) (k : Nat) : Prop where
  len : m.length = l.length
  val : D m = D l
  lo : ∀ j, j < k → 0 ≤ m.getD j 0 ∧ m.getD j 0 < 256
  at_ : 0 ≤ m.getD k 0 ∧ m.getD k 0 < 2199023255552
  hi : ∀ j, k < j → m.getD j 0 = l.getD j 0
theorem getD_ge {l : List Int} {j : Nat} (h : l.length ≤ j) : l.getD j 0 = 0 := by rw [List.getD_eq_getElem?_getD, List.getElem?_eq_none h]; rfl
theorem Car.start {l : List Int} (h : In 1099511627776 l) : Car l l 0 := by
  refine ⟨rfl, rfl, fun j hj => absurd hj (by omega), ?_, fun _ _ => rfl⟩
  rcases Nat.lt_or_ge 0 l.length with h0 | h0
  · have := in_at h 0 h0; omega
  · rw [getD_ge h0]; omega
theorem Car.next {l m : List Int} {k : Nat} (h : In 1099511627776 l) (hc : Car l m k) (hk : k + 1 < l.length) : Car l ((m.set (k + 1) (m.getD (k + 1) 0 + m.getD k 0 / 256)).set k (m.getD k 0 % 256)) (k + 1) := by
  have hl := hc.len
  have hk1 := hc.hi (k + 1) (by omega)
  have hb := in_at h (k + 1) hk
  have ha := hc.at_
  refine ⟨by simp [hl], ?_, fun j hj => ?_, ?_, fun j hj => ?_⟩
  · rw [D_set _ _ _ (by simp; omega), D_set _ _ _ (by omega), hc.val, getD_set, if_neg (by omega), Int.pow_succ]
    have e := Int.emod_add_mul_ediv (m.getD k 0) 256
    generalize m.getD (k + 1) 0 = u at *
    generalize m.getD k 0 = v at *
    rw [show u + v / 256 - u = v / 256 by omega, show v % 256 - v = - (256 * (v / 256)) by omega]
    grind
  · rw [getD_set]
    by_cases hjk : k = j
    · rw [if_pos ⟨hjk, by simp; omega⟩]; omega
    · rw [if_neg (by omega), getD_set, if_neg (by omega)]; exact hc.lo j (by omega)
  · rw [getD_set, if_neg (by omega), getD_set, if_pos ⟨rfl, by omega⟩, hk1]; omega
  · rw [getD_set, if_neg (by omega), getD_set, if_neg (by omega)]; exact hc.hi j (by omega)
theorem Car.top {l m : List Int} {k : Nat} (hc : Car l m k) (hk : k + 1 = l.length) (hv : D l < 256 ^ l.length) : m.getD k 0 < 256 := by
  have hl := hc.len
  have h1 : D m = D (m.take k) + 256 ^ k * m.getD k 0 := by
    have := D_take m k (by omega)
    rw [List.take_of_length_le (by omega)] at this
    exact this
  have h2 : 0 ≤ D (m.take k) := D_nonneg 256 _ (fun x hx => by
    obtain ⟨j, hj, rfl⟩ := List.mem_iff_getElem.1 hx
    have hj' : j < k := by rw [List.length_take] at hj; omega
    have := hc.lo j hj'
    rw [List.getElem_take]
    simpa [List.getD_eq_getElem?_getD, List.getElem?_eq_getElem (show j < m.length by omega)] using this)
  rw [← hk, ← hc.val, h1, Int.pow_succ] at hv
  have hp := pow_pos k
  by_cases h : m.getD k 0 < 256
  · exact h
  · exfalso
    have : (256 : Int) ^ k * 256 ≤ 256 ^ k * m.getD k 0 := Int.mul_le_mul_of_nonneg_left (by omega) (by omega)
    omega
theorem Car.all {l m : List Int} {k : Nat} (hc : Car l m k) (hk : k + 1 = l.length) (hv : D l < 256 ^ l.length) : m = dg l.length (D l) := by
  have ht := hc.top hk hv
  have hin : In 256 m := in_of fun j hj => by
    rw [hc.len] at hj
    by_cases h : j < k
    · exact hc.lo j h
    · obtain rfl : j = k := by omega
      exact ⟨hc.at_.1, ht⟩
  rw [← dg_D m hin, hc.len, hc.val]

/-- 'times' behind k digits of one row. -/
structure Row (s b : List Int) (x : Int) (i k : Nat) (m : List Int) : Prop where
  len : m.length = s.length
  val : D m = D s + 256 ^ i * (x * D (b.take k))
  bd : ∀ j, 0 ≤ m.getD j 0 ∧ m.getD j 0 < 256 + 65536 * (k : Int)
theorem Row.start {s b : List Int} {x : Int} {i : Nat} (hs : In 256 s) : Row s b x i 0 s := by
  refine ⟨rfl, by simp [D], fun j => ?_⟩
  rcases Nat.lt_or_ge j s.length with h | h
  · have := in_at hs j h; omega
  · rw [getD_ge h]; omega
theorem prod_bd2 {x y : Int} (hx : 0 ≤ x ∧ x < 256) (hy : 0 ≤ y ∧ y < 256) : 0 ≤ x * y ∧ x * y < 65536 := by
  refine ⟨Int.mul_nonneg hx.1 hy.1, ?_⟩
  have : x * y ≤ 255 * y := Int.mul_le_mul_of_nonneg_right (by omega) hy.1
  omega
theorem Row.next {s b m : List Int} {x : Int} {i k : Nat} (hx : 0 ≤ x ∧ x < 256) (hb : In 256 b) (hr : Row s b x i k m) (hk : k < b.length) (hi : i + k < s.length) : Row s b x i (k + 1) (m.set (i + k) (m.getD (i + k) 0 + x * b.getD k 0)) := by
  have hl := hr.len
  have hp := prod_bd2 hx (in_at hb k hk)
  refine ⟨by simp [hl], ?_, fun j => ?_⟩
  · rw [D_set _ _ _ (by omega), hr.val, D_take b k hk, Int.pow_add]
    grind
  · rw [getD_set]
    have := hr.bd j
    by_cases h : i + k = j ∧ i + k < m.length
    · rw [if_pos h, h.1]; omega
    · rw [if_neg h]; omega

/-- 'plus' digit by digit. -/
def sumTo (a b : List Int) (k : Nat) : List Int := (List.range k).map fun j => a.getD j 0 + b.getD j 0
theorem sumTo_succ (a b : List Int) (k : Nat) : sumTo a b (k + 1) = sumTo a b k ++ [a.getD k 0 + b.getD k 0] := by simp [sumTo, List.range_succ]
theorem D_take' (l : List Int) (k : Nat) : D (l.take (k + 1)) = D (l.take k) + 256 ^ k * l.getD k 0 := by
  rcases Nat.lt_or_ge k l.length with h | h
  · exact D_take l k h
  · rw [getD_ge h, List.take_of_length_le (by omega), List.take_of_length_le h]; simp
theorem sumTo_D (a b : List Int) : ∀ k, D (sumTo a b k) = D (a.take k) + D (b.take k)
  | 0 => by simp [sumTo, D]
  | k + 1 => by
    rw [sumTo_succ, D_append, sumTo_D a b k, D_take' a, D_take' b]
    simp only [D, sumTo, List.length_map, List.length_range]
    grind
theorem sumTo_in (a b : List Int) (k : Nat) (ha : In 256 a) (hb : In 256 b) : In 511 (sumTo a b k) := by
  intro x hx
  obtain ⟨j, _, rfl⟩ := List.mem_map.1 hx
  have h1 : 0 ≤ a.getD j 0 ∧ a.getD j 0 < 256 := by
    rcases Nat.lt_or_ge j a.length with h | h
    · exact in_at ha j h
    · rw [getD_ge h]; omega
  have h2 : 0 ≤ b.getD j 0 ∧ b.getD j 0 < 256 := by
    rcases Nat.lt_or_ge j b.length with h | h
    · exact in_at hb j h
    · rw [getD_ge h]; omega
  omega

/-- 'fold': what stands below 130 bits, what stands above. -/
def loF (l : List Int) (i : Nat) : List Int := (List.range (min i 17)).map fun j => if j < 16 then l.getD j 0 else l.getD j 0 % 4
def hiF (l : List Int) (i : Nat) : List Int := (List.range (i - 16)).map fun j => l.getD (16 + j) 0 / 4 + l.getD (17 + j) 0 % 4 * 64
theorem loF_dg (n : Nat) (v : Int) (h0 : 0 ≤ v) (h1 : v < 256 ^ n) : loF (dg n v) n = dg (min n 17) (v % 1361129467683753853853498429727072845824) := by
  show (List.range (min n 17)).map _ = (List.range (min n 17)).map _
  apply List.map_congr_left
  intro j hj
  have hj' : j < min n 17 := by simpa using hj
  rw [dg_at n v j (by omega)]
  have hc : j = 0 ∨ j = 1 ∨ j = 2 ∨ j = 3 ∨ j = 4 ∨ j = 5 ∨ j = 6 ∨ j = 7 ∨ j = 8 ∨ j = 9 ∨ j = 10 ∨ j = 11 ∨ j = 12 ∨ j = 13 ∨ j = 14 ∨ j = 15 ∨ j = 16 := by omega
  rcases hc with rfl | rfl | rfl | rfl | rfl | rfl | rfl | rfl | rfl | rfl | rfl | rfl | rfl | rfl | rfl | rfl | rfl <;>
  · simp only [Int.reducePow, Nat.reduceLT, if_true, if_false, Nat.lt_irrefl]
    omega
theorem hiF_dg (n : Nat) (v : Int) (h0 : 0 ≤ v) (h1 : v < 256 ^ n) : hiF (dg n v) n = dg (n - 16) (v / 1361129467683753853853498429727072845824) := by
  show (List.range (n - 16)).map _ = (List.range (n - 16)).map _
  apply List.map_congr_left
  intro j hj
  have hj' : j < n - 16 := by simpa using hj
  rw [dg_at n v (16 + j) (by omega)]
  have e1 : (dg n v).getD (17 + j) 0 = v / 256 ^ (16 + j) / 256 % 256 := by
    rw [div_next]
    rcases Nat.lt_or_ge (17 + j) n with h | h
    · rw [dg_at n v _ h, show 16 + j + 1 = 17 + j by omega]
    · rw [getD_ge (by rw [dg_length]; omega)]
      have : v / 256 ^ (16 + j + 1) = 0 := Int.ediv_eq_zero_of_lt h0 (by rw [show 16 + j + 1 = n by omega]; exact h1)
      rw [this]; rfl
  rw [e1]
  have e2 : v / 1361129467683753853853498429727072845824 / 256 ^ j = v / 256 ^ (16 + j) / 4 := by
    rw [Int.ediv_ediv_of_nonneg (by omega), Int.ediv_ediv_of_nonneg (Int.pow_nonneg (by omega)), Int.pow_add]
    congr 1
    rw [show (256 : Int) ^ 16 = 340282366920938463463374607431768211456 from rfl]
    omega
  rw [e2]
  omega
theorem fold_mod (v : Int) : (v % 1361129467683753853853498429727072845824 + v / 1361129467683753853853498429727072845824 * 5) % p = v % p := by
  refine (emod_of (k := v / 1361129467683753853853498429727072845824) ?_).symm
  unfold p
  omega
end Go.Proofs.YtpbfeobifpmjbaaDoor.Pol
/- Rows of ints: what can be read, what a call owns. -/
namespace Go.Proofs.YtpbfeobifpmjbaaDoor
set_option linter.unusedVariables false
set_option linter.unusedSimpArgs false
set_option maxRecDepth 100000
open Go.RowKit

def iv (x : Int) : Value := .int .i64 x
theorem infoI : (Tryd.prog.info? 3).map (fun i => (i.zero, i.size, i.bytes)) = some (some (.int .i64 0), 1, 8) := by kernel_rfl
theorem cells_iv (l : List Int) : ∀ u ∈ l.map iv, u.oneCell' = true := by
  intro u hu
  obtain ⟨b, _, rfl⟩ := List.mem_map.1 hu
  rfl
/-- The slice value (A, n, c) reads as the ints l. -/
structure RdI (w : World) (A : Option Addr) (n : Nat) (l : List Int) : Prop where
  len : l.length = n
  at_ : 0 < n → ∃ b off, A = some ⟨b, off, none⟩ ∧ b < w.heap.size ∧ ∀ j, j < n → w.cell? ⟨b, off + j, none⟩ = some (.int .i64 (l.getD j 0))
theorem RdI.below {w w' : World} {A : Option Addr} {n : Nat} {l : List Int} (h : RdI w A n l) (hb : Below w.heap.size w w') : RdI w' A n l :=
  ⟨h.len, fun h0 => by
    obtain ⟨b, off, e, hlt, hc⟩ := h.at_ h0
    exact ⟨b, off, e, Nat.lt_of_lt_of_le hlt hb.size, fun j hj => (hb.cell (p := ⟨b, off + j, none⟩) hlt).trans (hc j hj)⟩⟩
theorem RdI.drew {w : World} {A : Option Addr} {n : Nat} {l : List Int} (h : RdI w A n l) : RdI w.drew A n l := ⟨h.len, h.at_⟩
theorem RdI.nil (w : World) (A : Option Addr) : RdI w A 0 [] := ⟨rfl, fun h => absurd h (by omega)⟩
theorem RdI.of_block {w : World} {g n : Nat} {t : TypeId} {l : List Int} {ex : List Value} (hb : Blk w g t (l.map iv ++ ex)) (hl : l.length = n) : RdI w (some ⟨g, 0, none⟩) n l :=
  ⟨hl, fun _ => ⟨g, 0, rfl, hb.lt, fun j hj => by
    rw [hb.cell, Nat.zero_add, List.getElem?_append_left (by simp; omega)]
    simp [iv, List.getD_eq_getElem?_getD, List.getElem?_eq_getElem (show j < l.length by omega)]⟩⟩

/-- The value v owns the ints l, in a row from block 'base' on. -/
def OwI (w : World) (base : Nat) (v : Value) (l : List Int) : Prop := w.ownsRow base 3 1 v l.length (l.map iv)
theorem OwI.empty (w : World) (B : Nat) : OwI w B (.slice none 0 0) [] := World.ownsRow_nil w B 3 1
theorem OwI.keep {w w' : World} {base : Nat} {v : Value} {l : List Int} (h : OwI w base v l) (hk : Below w.heap.size w w') : OwI w' base v l := by
  refine ⟨h.1, ?_⟩
  rcases h.2 with ⟨rfl, h2⟩ | ⟨g, cap, cur, rfl, hb, hg, h3⟩
  · exact .inl ⟨rfl, h2⟩
  · refine .inr ⟨g, cap, cur, rfl, hb, ?_, h3⟩
    rw [hk.block g ?_]
    · exact hg
    · rcases Nat.lt_or_ge g w.heap.size with hlt | hge
      · exact hlt
      · rw [Array.getElem?_eq_none hge] at hg; cases hg
theorem OwI.more {w : World} {B B' : Nat} {v : Value} {l : List Int} (h : OwI w B v l) (hB : B' ≤ B) : OwI w B' v l := by
  refine ⟨h.1, ?_⟩
  rcases h.2 with ⟨rfl, h2⟩ | ⟨g, cap, cur, rfl, hb, hg, h3⟩
  · exact .inl ⟨rfl, h2⟩
  · exact .inr ⟨g, cap, cur, rfl, Nat.le_trans hB hb, hg, h3⟩
theorem OwI.lit (w : World) (B : Nat) (l : List Int) (a : Array Value) (n : Nat) (ha : a = (l.map iv).toArray) (hn : l.length = n) (hm : n ≤ 1000000) (hB : B ≤ w.heap.size) : OwI (w.alloc (.cells a 3)) B (.slice (some ⟨w.heap.size, 0, none⟩) n n) l := by
  subst ha
  subst hn
  exact ⟨by simp, .inr ⟨w.heap.size, l.length, _, rfl, hB, heap_alloc_new w _, Nat.le_refl _, by unfold maxLen; omega, by simp, by rw [Nat.mul_one]; exact List.take_of_length_le (by simp)⟩⟩
theorem OwI.blk {w : World} {base : Nat} {v : Value} {l : List Int} (h : OwI w base v l) (h0 : 0 < l.length) : ∃ g c ex, v = .slice (some ⟨g, 0, none⟩) l.length c ∧ base ≤ g ∧ Blk w g 3 (l.map iv ++ ex) ∧ ex.length = c - l.length ∧ l.length ≤ c ∧ c ≤ maxLen := by
  rcases h.2 with ⟨rfl, hn⟩ | ⟨g, cap, cur, rfl, hb, hg, hnc, hcm, hcs, htake⟩
  · omega
  · have e : l.map iv ++ cur.toList.drop l.length = cur.toList := by
      rw [← htake, Nat.mul_one, List.take_append_drop]
    refine ⟨g, cap, cur.toList.drop l.length, rfl, hb, ?_, ?_, hnc, hcm⟩
    · rw [e]
      unfold Blk
      rw [Array.toArray_toList]
      exact hg
    · rw [List.length_drop, Array.length_toList, hcs, Nat.mul_one]
theorem OwI.of_blk {w : World} {base g c n : Nat} {l : List Int} {ex : List Value} (hb : Blk w g 3 (l.map iv ++ ex)) (hl : l.length = n) (he : ex.length = c - n) (hn : n ≤ c) (hc : c ≤ maxLen) (hg : base ≤ g) : OwI w base (.slice (some ⟨g, 0, none⟩) n c) l := by
  subst hl
  exact ⟨by simp, .inr ⟨g, c, (l.map iv ++ ex).toArray, rfl, hg, hb, hn, hc, by simp [he]; omega, by rw [Nat.mul_one]; simp⟩⟩
/-- What is owned can be read, nil too. -/
theorem OwI.value {w : World} {base : Nat} {v : Value} {l : List Int} (h : OwI w base v l) : ∃ A c, v = .slice A l.length c ∧ RdI w A l.length l := by
  rcases Nat.eq_zero_or_pos l.length with h0 | h0
  · have hl : l = [] := List.eq_nil_of_length_eq_zero h0
    subst hl
    rcases h.2 with ⟨rfl, _⟩ | ⟨g, cap, cur, rfl, _⟩
    · exact ⟨_, _, rfl, RdI.nil _ _⟩
    · exact ⟨_, _, rfl, RdI.nil _ _⟩
  · obtain ⟨g, c, ex, rfl, hb, hB, he, hn, hc⟩ := h.blk h0
    exact ⟨_, _, rfl, RdI.of_block hB rfl⟩
theorem int_at {w : World} {g j : Nat} {t : TypeId} {l : List Int} {ex : List Value} (hB : Blk w g t (l.map iv ++ ex)) (hj : j < l.length) : w.cell? ⟨g, j, none⟩ = some (.int .i64 (l.getD j 0)) := by
  rw [hB.cell, List.getElem?_append_left (by simpa using hj)]
  simp [iv, List.getD_eq_getElem?_getD, List.getElem?_eq_getElem hj]
theorem int_put {w : World} {g j : Nat} {t : TypeId} {l : List Int} {ex : List Value} (hB : Blk w g t (l.map iv ++ ex)) (hj : j < l.length) (x : Int) : Blk (w.setCell ⟨g, j, none⟩ (.int .i64 x)) g t ((l.set j x).map iv ++ ex) := by
  have := hB.set_ j (iv x)
  rw [List.set_append_left _ _ (by simpa using hj), ← List.map_set] at this
  exact this
def zI (n : Nat) : List Value := (List.replicate n (0 : Int)).map iv
/-- Two rows beside each other. -/
theorem OwI.lt_ {w : World} {B : Nat} {v : Value} {l : List Int} (h : OwI w B v l) : ∀ k, v.ownBlock = some k → B ≤ k ∧ k < w.heap.size := World.ownsRow.lt h
theorem OwI.kept {w w' : World} {B : Nat} {v : Value} {l : List Int} {row : Option Nat} (h : OwI w B v l) (hg : w.grownBy w' row) (hne : v.ownBlock = none ∨ v.ownBlock ≠ row) : OwI w' B v l := World.ownsRow.kept h hg hne
theorem OwI.alloc {w : World} {B : Nat} {v : Value} {l : List Int} (h : OwI w B v l) (o : Obj) : OwI (w.alloc o) B v l := World.ownsRow.alloc h o
theorem Apart.liesI {w : World} {B : Nat} {v v' u : Value} {l : List Int} (h : Apart u v) (hu : OwI w B u l) (hv : Lies w v v') : Apart u v' := by
  rcases hv with hv | ⟨q, hq, hge⟩
  · unfold Apart; rw [hv]; exact h
  · by_cases h0 : u.ownBlock = none
    · exact .inl h0
    · obtain ⟨k, hk⟩ := Option.ne_none_iff_exists'.1 h0
      have := (hu.lt_ k hk).2
      exact .inr (by rw [hk, hq]; intro e; injection e with e; omega)
end Go.Proofs.YtpbfeobifpmjbaaDoor
/- Contracts of the document's digits, zero and carry. -/
namespace Go.Proofs.YtpbfeobifpmjbaaDoor
set_option linter.unusedVariables false
set_option linter.unusedSimpArgs false
set_option maxRecDepth 100000
open Go.RowKit

/-- What a call gives: new ints. -/
def RetI (w : World) (l : List Int) (e : Ending) (w' : World) : Prop := ∃ v, e = .returned v ∧ OwI w' w.heap.size v l ∧ Below w.heap.size w w'
def nat8 (b : UInt8) : Int := (b.toNat : Int)
theorem nat8_take (b : List UInt8) (k : Nat) (h : k < b.length) : (b.take (k + 1)).map nat8 = (b.take k).map nat8 ++ [((b.getD k 0).toNat : Int)] := by
  rw [List.take_succ_eq_append_getElem h, List.map_append]
  simp [nat8, List.getD_eq_getElem?_getD, List.getElem?_eq_getElem h]

end Go.Proofs.YtpbfeobifpmjbaaDoor
/- The contract of the document's carry. -/
namespace Go.Proofs.YtpbfeobifpmjbaaDoor
set_option linter.unusedVariables false
set_option linter.unusedSimpArgs false
set_option maxRecDepth 100000
open Go.RowKit

end Go.Proofs.YtpbfeobifpmjbaaDoor
/- The contract of the document's plus. -/
namespace Go.Proofs.YtpbfeobifpmjbaaDoor
set_option linter.unusedVariables false
set_option linter.unusedSimpArgs false
set_option maxRecDepth 100000
open Go.RowKit

/-- N cells of which the first k hold sums. -/
def addC (a b : List Int) (N k : Nat) : List Int := Pol.sumTo a b k ++ List.replicate (N - k) 0
theorem sumTo_length (a b : List Int) (k : Nat) : (Pol.sumTo a b k).length = k := by simp [Pol.sumTo]
theorem addC_length (a b : List Int) (N k : Nat) (h : k ≤ N) : (addC a b N k).length = N := by simp [addC, sumTo_length]; omega
theorem addC_at (a b : List Int) (N k : Nat) (h : k < N) : (addC a b N k).getD k 0 = 0 := by
  rw [addC, List.getD_eq_getElem?_getD, List.getElem?_append_right (by rw [sumTo_length]; omega), sumTo_length, Nat.sub_self, List.getElem?_replicate_of_lt (by omega)]
  rfl
theorem addC_set (a b : List Int) (N k : Nat) (h : k < N) : (addC a b N k).set k (a.getD k 0 + b.getD k 0) = addC a b N (k + 1) := by
  rw [addC, List.set_append_right _ _ (by rw [sumTo_length]; omega), sumTo_length, Nat.sub_self, show N - k = (N - (k + 1)) + 1 by omega, List.replicate_succ, List.set_cons_zero, addC, Pol.sumTo_succ]
  simp
theorem addC_full (a b : List Int) (k : Nat) : addC a b k k = Pol.sumTo a b k := by simp [addC]
theorem sum_lt (a b : List Int) (na nb : Nat) (ha : a.length = na) (hb : b.length = nb) (ia : Pol.In 256 a) (ib : Pol.In 256 b) : Pol.D a + Pol.D b < 256 ^ (max na nb + 1) := by
  subst ha
  subst hb
  have h1 := Pol.D_bound a ia
  have h2 := Pol.D_bound b ib
  have h3 : (256 : Int) ^ a.length ≤ 256 ^ (max a.length b.length) := by
    have := Nat.pow_le_pow_right (show 0 < 256 by omega) (Nat.le_max_left a.length b.length)
    have e1 : ((256 ^ a.length : Nat) : Int) = (256 : Int) ^ a.length := by simp
    have e2 : ((256 ^ (max a.length b.length) : Nat) : Int) = (256 : Int) ^ (max a.length b.length) := by simp
    omega
  have h4 : (256 : Int) ^ b.length ≤ 256 ^ (max a.length b.length) := by
    have := Nat.pow_le_pow_right (show 0 < 256 by omega) (Nat.le_max_right a.length b.length)
    have e1 : ((256 ^ b.length : Nat) : Int) = (256 : Int) ^ b.length := by simp
    have e2 : ((256 ^ (max a.length b.length) : Nat) : Int) = (256 : Int) ^ (max a.length b.length) := by simp
    omega
  rw [Int.pow_succ]
  have := Pol.pow_pos (max a.length b.length)
  omega

end Go.Proofs.YtpbfeobifpmjbaaDoor
/- The contract of the document's times. -/
namespace Go.Proofs.YtpbfeobifpmjbaaDoor
set_option linter.unusedVariables false
set_option linter.unusedSimpArgs false
set_option maxRecDepth 100000
open Go.RowKit

theorem dg_zero (n : Nat) : Pol.dg n 0 = List.replicate n 0 := by
  apply List.ext_getElem
  · simp [Pol.dg]
  · intro i h1 h2
    simp [Pol.dg]
theorem powmono {m n : Nat} (h : m ≤ n) : (256 : Int) ^ m ≤ 256 ^ n := by
  have h1 := Nat.pow_le_pow_right (show 0 < 256 by omega) h
  have e1 : ((256 ^ m : Nat) : Int) = (256 : Int) ^ m := by simp
  have e2 : ((256 ^ n : Nat) : Int) = (256 : Int) ^ n := by simp
  omega
theorem in_take {m : Int} {l : List Int} (h : Pol.In m l) (k : Nat) : Pol.In m (l.take k) := fun x hx => h x (List.mem_of_mem_take hx)
theorem prod_lt (a b : List Int) (i N : Nat) (ia : Pol.In 256 a) (ib : Pol.In 256 b) (hN : i + b.length ≤ N) (hi : i ≤ a.length) : 0 ≤ Pol.D (a.take i) * Pol.D b ∧ Pol.D (a.take i) * Pol.D b < 256 ^ N := by
  have h1 := Pol.D_bound (a.take i) (in_take ia i)
  have h2 := Pol.D_bound b ib
  rw [List.length_take, Nat.min_eq_left hi] at h1
  refine ⟨Int.mul_nonneg h1.1 h2.1, ?_⟩
  have h3 : Pol.D (a.take i) * Pol.D b ≤ Pol.D (a.take i) * 256 ^ b.length := Int.mul_le_mul_of_nonneg_left (by omega) h1.1
  have h4 : Pol.D (a.take i) * 256 ^ b.length < 256 ^ i * 256 ^ b.length := Int.mul_lt_mul_of_pos_right h1.2 (Pol.pow_pos _)
  have h5 := powmono hN
  rw [Int.pow_add] at h5
  omega

theorem row_end {s a b m : List Int} {x : Int} {i k : Nat} (hr : Pol.Row s b x i k m) (hk : b.length ≤ k) (hs : Pol.D s = Pol.D (a.take i) * Pol.D b) (hx : x = a.getD i 0) : Pol.D m = Pol.D (a.take (i + 1)) * Pol.D b := by
  have e : b.take k = b := List.take_of_length_le hk
  have h := hr.val
  rw [hs, e, hx] at h
  rw [h, Pol.D_take' a i]
  generalize Pol.D (a.take i) = u
  generalize Pol.D b = v
  generalize a.getD i 0 = t
  generalize (256 : Int) ^ i = q
  clear h hr
  grind

end Go.Proofs.YtpbfeobifpmjbaaDoor
