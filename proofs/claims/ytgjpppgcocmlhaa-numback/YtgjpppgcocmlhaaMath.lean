/- Plain facts on numbers as bytes: seven bits a byte, the lowest first. No program here. -/
namespace Go.Proofs.Ytgjpppgcocmlhaa
namespace Num

/-- The bytes of a number that is not below 0. -/
def enc (u : Nat) : List UInt8 :=
  if u < 128 then [UInt8.ofNat u] else UInt8.ofNat (u % 128 + 128) :: enc (u / 128)
termination_by u
decreasing_by omega

theorem enc_lo {u : Nat} (h : u < 128) : enc u = [UInt8.ofNat u] := by rw [enc, if_pos h]
theorem enc_hi {u : Nat} (h : 128 ≤ u) : enc u = UInt8.ofNat (u % 128 + 128) :: enc (u / 128) := by rw [enc, if_neg (by omega)]

/-- 2 n, or -2 n - 1 below 0. -/
def zig (n : Int) : Nat := if n < 0 then (-2 * n - 1).toNat else (2 * n).toNat
/-- And back. -/
def zag (u : Nat) : Int := if u % 2 = 1 then -((u / 2 : Nat) : Int) - 1 else ((u / 2 : Nat) : Int)

theorem zag_zig (n : Int) : zag (zig n) = n := by
  unfold zag zig
  split <;> split <;> omega

theorem zig_lt (n : Int) (h1 : -9223372036854775808 ≤ n) (h2 : n ≤ 9223372036854775807) : zig n < 18446744073709551616 := by
  unfold zig
  split <;> omega

theorem zig_mono {a b : Int} (h0 : 0 ≤ a) (h : a ≤ b) : zig a ≤ zig b ∧ zig (-a) ≤ zig (-b) := by
  unfold zig
  constructor <;> (repeat' split) <;> omega

theorem enc_pos (u : Nat) : 0 < (enc u).length := by
  rcases Nat.lt_or_ge u 128 with h | h
  · simp [enc_lo h]
  · simp [enc_hi h]

theorem enc_mono : ∀ (b a : Nat), a ≤ b → (enc a).length ≤ (enc b).length := by
  intro b
  induction b using Nat.strongRecOn with
  | ind b ih =>
    intro a h
    rcases Nat.lt_or_ge a 128 with ha | ha
    · rw [enc_lo ha]
      have := enc_pos b
      simp
      omega
    · have hb : 128 ≤ b := by omega
      rw [enc_hi ha, enc_hi hb]
      have := ih (b / 128) (by omega) (a / 128) (by omega)
      simpa using this

theorem enc_len : ∀ (k u : Nat), 0 < k → u < 128 ^ k → (enc u).length ≤ k := by
  intro k
  induction k with
  | zero => intro u h; omega
  | succ k ih =>
    intro u _ hu
    rcases Nat.lt_or_ge u 128 with h | h
    · simp [enc_lo h]
    · rw [enc_hi h]
      have hk : 0 < k := by
        rcases Nat.eq_zero_or_pos k with h0 | h0
        · subst h0; simp at hu; omega
        · exact h0
      have := ih (u / 128) hk (by rw [Nat.pow_succ] at hu; omega)
      simpa using this

theorem enc_len10 {u : Nat} (h : u < 18446744073709551616) : (enc u).length ≤ 10 := enc_len 10 u (by omega) (by omega)

/-- What Get tells: the number, how many bytes, the error (1: form, 2: more), from place i on, u gathered so far. -/
structure Got where
  num : Int
  cnt : Nat
  err : Int

def got : List UInt8 → Nat → Nat → Got
  | [], _, _ => ⟨0, 0, 2⟩
  | c :: r, i, u =>
    if i = 9 ∧ 1 < c.toNat then ⟨0, 0, 1⟩
    else if 128 ≤ c.toNat then got r (i + 1) (u + c.toNat % 128 * 128 ^ i)
    else if c.toNat = 0 ∧ 0 < i then ⟨0, 0, 1⟩
    else ⟨zag (u + c.toNat % 128 * 128 ^ i), i + 1, 0⟩

theorem got_nil {l : List UInt8} {k a : Nat} (h : l.length ≤ k) : got (l.drop k) k a = ⟨0, 0, 2⟩ := by rw [List.drop_of_length_le h]; rfl
theorem got_at {l : List UInt8} {k a : Nat} (h : k < l.length) : got (l.drop k) k a =
    if k = 9 ∧ 1 < (l.getD k 0).toNat then ⟨0, 0, 1⟩
    else if 128 ≤ (l.getD k 0).toNat then got (l.drop (k + 1)) (k + 1) (a + (l.getD k 0).toNat % 128 * 128 ^ k)
    else if (l.getD k 0).toNat = 0 ∧ 0 < k then ⟨0, 0, 1⟩
    else ⟨zag (a + (l.getD k 0).toNat % 128 * 128 ^ k), k + 1, 0⟩ := by
  rw [List.drop_eq_getElem_cons h, got]
  simp [List.getD_eq_getElem?_getD, List.getElem?_eq_getElem h]

/-- What is gathered fits. -/
theorem pow7 (k : Nat) : (128 : Nat) ^ k = 2 ^ (7 * k) := by rw [Nat.pow_mul]
theorem pow_le9 {k : Nat} (h : k ≤ 9) : (128 : Nat) ^ k ≤ 9223372036854775808 := by
  have := Nat.pow_le_pow_right (n := 128) (by omega) h
  omega
theorem pow_le8 {k : Nat} (h : k ≤ 8) : (128 : Nat) ^ k ≤ 72057594037927936 := by
  have := Nat.pow_le_pow_right (n := 128) (by omega) h
  omega
theorem fits {k a d : Nat} (hk : k ≤ 9) (ha : a < 128 ^ k) (hd : d < 128) (h9 : k = 9 → d ≤ 1) : a + d * 128 ^ k < 18446744073709551616 ∧ d * 128 ^ k < 18446744073709551616 := by
  by_cases h : k = 9
  · subst h
    have := h9 rfl
    omega
  · have h8 := pow_le8 (k := k) (by omega)
    have := Nat.mul_le_mul (show d ≤ 127 by omega) h8
    omega
theorem fits_next {k a d : Nat} (ha : a < 128 ^ k) (hd : d < 128) : a + d * 128 ^ k < 128 ^ (k + 1) := by
  have := Nat.mul_le_mul_right (128 ^ k) (show d ≤ 127 by omega)
  rw [Nat.pow_succ]
  omega

/-- The bytes of u, whatever stands behind, are told as u. -/
theorem got_enc (rest : List UInt8) : ∀ (u i a : Nat), u * 128 ^ i < 18446744073709551616 → (0 < i → 0 < u) → got (enc u ++ rest) i a = ⟨zag (a + u * 128 ^ i), i + (enc u).length, 0⟩ := by
  intro u
  induction u using Nat.strongRecOn with
  | ind u ih =>
    intro i a hlt hpos
    have h9 : i = 9 → u < 2 := by
      rintro rfl
      omega
    rcases Nat.lt_or_ge u 128 with h | h
    · rw [enc_lo h]
      have hc : (UInt8.ofNat u).toNat = u := by simp; omega
      simp only [List.cons_append, List.nil_append, got, hc, List.length_cons, List.length_nil]
      rw [if_neg (by omega), if_neg (by omega), if_neg (by omega), Nat.mod_eq_of_lt h]
    · rw [enc_hi h]
      have hc : (UInt8.ofNat (u % 128 + 128)).toNat = u % 128 + 128 := by simp; omega
      have h9' : i ≠ 9 := fun e => by have := h9 e; omega
      simp only [List.cons_append, got, hc, List.length_cons]
      rw [if_neg (by omega), if_pos (by omega)]
      have hm : (u % 128 + 128) % 128 = u % 128 := by omega
      have hp : u / 128 * 128 ^ (i + 1) + u % 128 * 128 ^ i = u * 128 ^ i := by
        rw [Nat.pow_succ, Nat.mul_comm (128 ^ i) 128, ← Nat.mul_assoc, ← Nat.add_mul]
        congr 1
        omega
      rw [hm, ih (u / 128) (by omega) (i + 1) _ (by omega) (by omega)]
      congr 1
      · congr 1
        omega
      · omega

/-- Cut off, they are not all there. -/
theorem got_cut : ∀ (u i a m : Nat), u * 128 ^ i < 18446744073709551616 → m < (enc u).length → got ((enc u).take m) i a = ⟨0, 0, 2⟩ := by
  intro u
  induction u using Nat.strongRecOn with
  | ind u ih =>
    intro i a m hlt hm
    cases m with
    | zero => simp [got]
    | succ m =>
      rcases Nat.lt_or_ge u 128 with h | h
      · rw [enc_lo h] at hm; simp at hm
      · have h9' : i ≠ 9 := by rintro rfl; omega
        rw [enc_hi h] at hm ⊢
        have hc : (UInt8.ofNat (u % 128 + 128)).toNat = u % 128 + 128 := by simp; omega
        simp only [List.take_succ_cons, got, hc]
        rw [if_neg (by omega), if_pos (by omega)]
        have hp : u / 128 * 128 ^ (i + 1) + u % 128 * 128 ^ i = u * 128 ^ i := by
          rw [Nat.pow_succ, Nat.mul_comm (128 ^ i) 128, ← Nat.mul_assoc, ← Nat.add_mul]
          congr 1
          omega
        exact ih (u / 128) (by omega) (i + 1) _ m (by omega) (by simpa using hm)

end Num
end Go.Proofs.Ytgjpppgcocmlhaa
