import Derived.Test.YtmidbpjdpakkoaaDoorSTm
namespace Go.Proofs.YtmidbpjdpakkoaaDoor.Tm
set_option linter.unusedVariables false
set_option linter.unusedSimpArgs false
set_option maxRecDepth 100000
def part (a b : List UInt8) : Nat := (List.range 256).findIdx fun i => bit a i != bit b i
theorem part_le (a b : List UInt8) : part a b ≤ 256 := by
  have := List.findIdx_le_length (xs := List.range 256) (p := fun i => bit a i != bit b i)
  simpa [part] using this
theorem part_same {a b : List UInt8} {i : Nat} (h : i < part a b) : bit a i = bit b i := by
  have h256 : i < 256 := Nat.lt_of_lt_of_le h (part_le a b)
  have := List.not_of_lt_findIdx (xs := List.range 256) (p := fun i => bit a i != bit b i) h
  simpa using this
theorem part_ne {a b : List UInt8} (h : part a b < 256) : bit a (part a b) ≠ bit b (part a b) := by
  have hl : (List.range 256).findIdx (fun i => bit a i != bit b i) < (List.range 256).length := by simpa [part] using h
  have := List.findIdx_getElem (xs := List.range 256) (p := fun i => bit a i != bit b i) (w := hl)
  simpa [part] using this
theorem part_is {a b : List UInt8} {n : Nat} (h : n < 256) (hs : ∀ i, i < n → bit a i = bit b i) (hn : bit a n ≠ bit b n) : part a b = n := by
  rcases Nat.lt_trichotomy (part a b) n with h1 | h1 | h1
  · exact absurd (hs _ h1) (part_ne (by omega))
  · exact h1
  · exact absurd (part_same h1) hn
theorem part_full {a : List UInt8} : part a a = 256 := by
  rcases Nat.lt_or_ge (part a a) 256 with h | h
  · exact absurd rfl (part_ne h)
  · have := part_le a a; omega
theorem part_shares {a b : List UInt8} {n : Nat} (h : n ≤ 256) : shares a b n = decide (n ≤ part a b) := by
  by_cases h1 : n ≤ part a b
  · rw [decide_eq_true h1]; exact shares_iff.2 fun i hi => part_same (by omega)
  · rw [decide_eq_false h1]
    refine Bool.eq_false_iff.2 fun hs => ?_
    exact part_ne (by omega) (shares_iff.1 hs _ (by omega))
theorem part_byte {a b : List UInt8} {i : Nat} (hi : i < 32) (hs : ∀ j, j < i → a.getD j 0 = b.getD j 0) {z : Nat} (hz : z < 8)
    (h1 : ∀ j, j < z → (a.getD i 0).toNat / 2 ^ (7 - j) % 2 = (b.getD i 0).toNat / 2 ^ (7 - j) % 2) (h2 : (a.getD i 0).toNat / 2 ^ (7 - z) % 2 ≠ (b.getD i 0).toNat / 2 ^ (7 - z) % 2) : part a b = 8 * i + z := by
  refine part_is (by omega) (fun k hk => ?_) fun h => ?_
  · unfold bit
    rcases Nat.lt_or_ge (k / 8) i with h | h
    · rw [hs _ h]
    · rw [show k / 8 = i by omega, h1 (k % 8) (by omega)]
  · have := bit_nat h
    rw [show (8 * i + z) / 8 = i by omega, show (8 * i + z) % 8 = z by omega] at this
    exact h2 this
theorem up_append (e k : List UInt8) : ∀ (a : List (List UInt8)) (d : Nat) (b : List (List UInt8)), up e k d (a ++ b) = up (up e k (d + a.length) b) k d a
  | [], d, b => by simp [up]
  | s :: a, d, b => by
    rw [List.cons_append, up, up, up_append e k a (d + 1) b, List.length_cons, show d + 1 + a.length = d + (a.length + 1) by omega]
theorem root_two {k s lab sum : List UInt8} : ∀ (m d : Nat), d + m < 256 → (∀ i, d ≤ i → i < d + m → bit k i = bit lab i) → bit k (d + m) ≠ bit lab (d + m) → root d [(k, s), (lab, sum)] = up (leaf k s) k d (List.replicate m none32 ++ [leaf lab sum])
  | 0, d, hd, _, hn => by
    rw [Nat.add_zero] at hn
    rw [root_more (by simp) (by omega), List.replicate_zero, List.nil_append, up, up, half_cons, half_cons, half_cons, half_cons]
    simp only [show ∀ b, half b d ([] : List P) = [] from fun _ => rfl]
    revert hn
    cases bit k d <;> cases bit lab d <;> intro hn <;> simp [root_one] at hn ⊢
  | m + 1, d, hd, hs, hn => by
    have h0 := hs d (Nat.le_refl _) (by omega)
    have ih := root_two (k := k) (s := s) (lab := lab) (sum := sum) m (d + 1) (by omega) (fun i h1 h2 => hs i (by omega) (by omega)) (by rw [show d + 1 + m = d + (m + 1) by omega]; exact hn)
    rw [root_more (by simp) (by omega), List.replicate_succ, List.cons_append, up, half_cons, half_cons, half_cons, half_cons, ← ih]
    simp only [show ∀ b, half b d ([] : List P) = [] from fun _ => rfl]
    rw [← h0]
    cases bit k d <;> simp [root_nil]
def Prf.beside (p : Prf) (k : List UInt8) : List (List UInt8) := if p.has && !p.there k then p.sides ++ List.replicate (part p.lab k - p.sides.length) none32 ++ [leaf p.lab p.sum] else p.sides
theorem beside_up {p : Prf} {k s : List UInt8} (hk : k.length = 32) (h1 : p.lab.length = 32) (hg : p.good k = true) : up (root p.sides.length (p.tips k s)) k 0 p.sides = up (leaf k s) k 0 (p.beside k) := by
  unfold Prf.tips Prf.beside
  by_cases hc : (p.has && !p.there k) = true
  · rw [if_pos hc, if_pos hc, List.append_assoc, up_append, Nat.zero_add]
    rw [Bool.and_eq_true] at hc
    obtain ⟨hc1, hc2⟩ := hc
    have hne : ¬ p.lab = k := by simpa [Prf.there, hc1] using hc2
    unfold Prf.good at hg
    rw [Bool.and_eq_true, if_pos hc1] at hg
    have hn := of_decide_eq_true hg.1
    rw [part_shares hn] at hg
    have hle := of_decide_eq_true hg.2
    have hlt : part p.lab k < 256 := by
      rcases Nat.lt_or_ge (part p.lab k) 256 with h | h
      · exact h
      · exact absurd (bits_eq h1 hk fun i hi => part_same (by omega)) hne
    rw [root_two (part p.lab k - p.sides.length) p.sides.length (by omega) (fun i _ h => (part_same (by omega)).symm) (by rw [show p.sides.length + (part p.lab k - p.sides.length) = part p.lab k by omega]; exact fun h => part_ne hlt h.symm)]
  · rw [if_neg hc, if_neg hc, root_one]
theorem beside_length {p : Prf} {k : List UInt8} (hk : k.length = 32) (h1 : p.lab.length = 32) (hg : p.good k = true) : (p.beside k).length ≤ 256 := by
  unfold Prf.good at hg
  rw [Bool.and_eq_true] at hg
  have hn := of_decide_eq_true hg.1
  unfold Prf.beside
  split
  · rename_i hc
    rw [Bool.and_eq_true] at hc
    obtain ⟨hc1, hc2⟩ := hc
    have hne : ¬ p.lab = k := by simpa [Prf.there, hc1] using hc2
    rw [if_pos hc1, part_shares hn] at hg
    have hle := of_decide_eq_true hg.2
    have hlt : part p.lab k < 256 := by
      rcases Nat.lt_or_ge (part p.lab k) 256 with h | h
      · exact h
      · exact absurd (bits_eq h1 hk fun i hi => part_same (by omega)) hne
    simp; omega
  · exact hn
theorem beside_each {p : Prf} {k : List UInt8} (he : ∀ x ∈ p.sides, x.length = 32) : ∀ x ∈ p.beside k, x.length = 32 := by
  intro x hx
  unfold Prf.beside at hx
  split at hx
  · rw [List.mem_append, List.mem_append] at hx
    rcases hx with (hx | hx) | hx
    · exact he x hx
    · rw [(List.mem_replicate.1 hx).2]; rfl
    · rw [List.mem_singleton.1 hx]; exact leaf_length _ _
  · exact he x hx
end Go.Proofs.YtmidbpjdpakkoaaDoor.Tm
