import Derived.Test.YtmidbpjdpakkoaaDoorSGsha1
namespace Go.Proofs.YtmidbpjdpakkoaaDoor.Tm
set_option linter.unusedVariables false
set_option linter.unusedSimpArgs false
set_option maxRecDepth 100000
def none32 : List UInt8 := List.replicate 32 0
def bit (h : List UInt8) (d : Nat) : Bool := (h.getD (d / 8) 0).toNat / 2 ^ (7 - d % 8) % 2 == 1
def leaf (l s : List UInt8) : List UInt8 := Sha.sum (0 :: (l ++ s))
def node (a b : List UInt8) : List UInt8 := Sha.sum (1 :: (a ++ b))
abbrev P := List UInt8 × List UInt8
def half (b : Bool) (d : Nat) (l : List P) : List P := l.filter fun p => bit p.1 d == b
def rootF : Nat → Nat → List P → List UInt8
  | _, _, [] => none32
  | _, _, [p] => leaf p.1 p.2
  | 0, _, _ => none32
  | f + 1, d, l => node (rootF f (d + 1) (half false d l)) (rootF f (d + 1) (half true d l))
def root (d : Nat) (l : List P) : List UInt8 := rootF (257 - d) d l
theorem none32_length : none32.length = 32 := rfl
theorem leaf_length (l s : List UInt8) : (leaf l s).length = 32 := Sha.sum_length _
theorem node_length (a b : List UInt8) : (node a b).length = 32 := Sha.sum_length _
theorem root_nil (d : Nat) : root d [] = none32 := by unfold root; cases 257 - d <;> rfl
theorem root_one (d : Nat) (p : P) : root d [p] = leaf p.1 p.2 := by unfold root; cases 257 - d <;> rfl
theorem root_more {d : Nat} {l : List P} (h : 2 ≤ l.length) (hd : d ≤ 256) : root d l = node (root (d + 1) (half false d l)) (root (d + 1) (half true d l)) := by
  unfold root
  rw [show 257 - d = (257 - (d + 1)) + 1 by omega]
  match l, h with
  | [], h => simp at h
  | [p], h => simp at h
  | p :: q :: r, _ => rfl
theorem rootF_length : ∀ (f d : Nat) (l : List P), (rootF f d l).length = 32
  | 0, _, [] => rfl
  | 0, _, [p] => leaf_length _ _
  | 0, _, _ :: _ :: _ => rfl
  | f + 1, _, [] => rfl
  | f + 1, _, [p] => leaf_length _ _
  | f + 1, _, _ :: _ :: _ => node_length _ _
theorem root_length (d : Nat) (l : List P) : (root d l).length = 32 := rootF_length _ _ _
theorem half_perm {b : Bool} {d : Nat} {l r : List P} (h : l.Perm r) : (half b d l).Perm (half b d r) := h.filter _
theorem rootF_perm : ∀ (f d : Nat) {l r : List P}, l.Perm r → rootF f d l = rootF f d r := by
  intro f
  induction f with
  | zero =>
    intro d l r h
    match l, r, h with
    | [], r, h => rw [List.nil_perm.1 h]
    | [p], r, h => rw [List.singleton_perm.1 h]
    | p :: q :: s, r, h =>
      have hl := h.length_eq
      match r, hl with
      | [], hl => simp at hl
      | [_], hl => simp at hl
      | _ :: _ :: _, _ => rfl
  | succ f ih =>
    intro d l r h
    match l, r, h with
    | [], r, h => rw [List.nil_perm.1 h]
    | [p], r, h => rw [List.singleton_perm.1 h]
    | p :: q :: s, r, h =>
      have hl := h.length_eq
      match r, hl, h with
      | [], hl, _ => simp at hl
      | [_], hl, _ => simp at hl
      | p' :: q' :: s', _, h =>
        show node _ _ = node _ _
        rw [ih (d + 1) (half_perm (b := false) (d := d) h), ih (d + 1) (half_perm (b := true) (d := d) h)]
theorem root_perm (d : Nat) {l r : List P} (h : l.Perm r) : root d l = root d r := rootF_perm _ _ h
theorem byte_bits (x y : UInt8) (h : ∀ j, j < 8 → x.toNat / 2 ^ (7 - j) % 2 = y.toNat / 2 ^ (7 - j) % 2) : x = y := by
  have h0 := h 0 (by omega); have h1 := h 1 (by omega); have h2 := h 2 (by omega); have h3 := h 3 (by omega)
  have h4 := h 4 (by omega); have h5 := h 5 (by omega); have h6 := h 6 (by omega); have h7 := h 7 (by omega)
  have hx := x.toNat_lt; have hy := y.toNat_lt
  simp only [show (2 : Nat) ^ (7 - 0) = 128 from rfl, show (2 : Nat) ^ (7 - 1) = 64 from rfl, show (2 : Nat) ^ (7 - 2) = 32 from rfl, show (2 : Nat) ^ (7 - 3) = 16 from rfl, show (2 : Nat) ^ (7 - 4) = 8 from rfl, show (2 : Nat) ^ (7 - 5) = 4 from rfl, show (2 : Nat) ^ (7 - 6) = 2 from rfl, show (2 : Nat) ^ (7 - 7) = 1 from rfl] at h0 h1 h2 h3 h4 h5 h6 h7
  apply UInt8.toNat_inj.1
  omega
theorem bit_nat {a b : List UInt8} {i : Nat} (h : bit a i = bit b i) : (a.getD (i / 8) 0).toNat / 2 ^ (7 - i % 8) % 2 = (b.getD (i / 8) 0).toNat / 2 ^ (7 - i % 8) % 2 := by
  unfold bit at h
  have e := h
  rcases Nat.mod_two_eq_zero_or_one ((a.getD (i / 8) 0).toNat / 2 ^ (7 - i % 8)) with h1 | h1 <;> rcases Nat.mod_two_eq_zero_or_one ((b.getD (i / 8) 0).toNat / 2 ^ (7 - i % 8)) with h2 | h2 <;> rw [h1, h2] at e ⊢ <;> simp at e
theorem bits_eq {a b : List UInt8} (ha : a.length = 32) (hb : b.length = 32) (h : ∀ i, i < 256 → bit a i = bit b i) : a = b := by
  apply List.ext_getElem (by omega)
  intro k h1 h2
  have : ∀ j, j < 8 → (a.getD k 0).toNat / 2 ^ (7 - j) % 2 = (b.getD k 0).toNat / 2 ^ (7 - j) % 2 := fun j hj => by
    have := bit_nat (h (k * 8 + j) (by omega))
    rwa [show (k * 8 + j) / 8 = k by omega, show (k * 8 + j) % 8 = j by omega] at this
  have := byte_bits _ _ this
  rwa [← List.getElem_eq_getD (h := h1), ← List.getElem_eq_getD (h := h2)] at this
theorem bits_ne {a b : List UInt8} (ha : a.length = 32) (hb : b.length = 32) (hn : a ≠ b) {d : Nat} (h : ∀ i, i < d → bit a i = bit b i) : d < 256 := by
  by_cases hd : d < 256
  · exact hd
  · exact absurd (bits_eq ha hb fun i hi => h i (by omega)) hn
structure Fit (d : Nat) (l : List P) : Prop where
  len : ∀ p ∈ l, p.1.length = 32 ∧ p.2.length = 32
  ne : l.Pairwise fun p q => p.1 ≠ q.1
  way : ∀ p ∈ l, ∀ q ∈ l, ∀ i, i < d → bit p.1 i = bit q.1 i
theorem Fit.nil (d : Nat) : Fit d [] := ⟨by simp, List.Pairwise.nil, by simp⟩
theorem Fit.one (d : Nat) {p : P} (h1 : p.1.length = 32) (h2 : p.2.length = 32) : Fit d [p] := ⟨by simpa using ⟨h1, h2⟩, by simp, by simp⟩
theorem Fit.deep {d : Nat} {l : List P} (h : Fit d l) (h2 : 2 ≤ l.length) : d < 256 := by
  match l, h2, h with
  | [], h2, _ => simp at h2
  | [p], h2, _ => simp at h2
  | p :: q :: r, _, h =>
    have hn : p.1 ≠ q.1 := (List.pairwise_cons.1 h.ne).1 q (by simp)
    exact bits_ne (h.len p (by simp)).1 (h.len q (by simp)).1 hn (h.way p (by simp) q (by simp))
theorem mem_half {b : Bool} {d : Nat} {l : List P} {p : P} : p ∈ half b d l ↔ p ∈ l ∧ bit p.1 d = b := by simp [half, List.mem_filter]
theorem Fit.half {d : Nat} {l : List P} (h : Fit d l) (b : Bool) : Fit (d + 1) (half b d l) := by
  refine ⟨fun p hp => h.len p (mem_half.1 hp).1, h.ne.filter _, fun p hp q hq i hi => ?_⟩
  rcases Nat.lt_or_ge i d with h1 | h1
  · exact h.way p (mem_half.1 hp).1 q (mem_half.1 hq).1 i h1
  · rw [show i = d by omega, (mem_half.1 hp).2, (mem_half.1 hq).2]
theorem half_cons (b : Bool) (d : Nat) (p : P) (l : List P) : half b d (p :: l) = if bit p.1 d = b then p :: half b d l else half b d l := by
  unfold half; rw [List.filter_cons]; by_cases h : bit p.1 d = b <;> simp [h]
def put (p : P) : List P → List P
  | [] => [p]
  | q :: l => if q.1 = p.1 then p :: l else q :: put p l
def get (k : List UInt8) : List P → Option (List UInt8)
  | [] => none
  | p :: l => if p.1 = k then some p.2 else get k l
theorem half_put (b : Bool) (d : Nat) (p : P) : ∀ l : List P, half b d (put p l) = if bit p.1 d = b then put p (half b d l) else half b d l
  | [] => by rw [put, half_cons]; rfl
  | q :: l => by
    rw [put]
    by_cases hq : q.1 = p.1
    · rw [if_pos hq, half_cons, half_cons, hq]
      by_cases hb : bit p.1 d = b
      · rw [if_pos hb, if_pos hb, if_pos hb, put, if_pos hq]
      · rw [if_neg hb, if_neg hb, if_neg hb]
    · rw [if_neg hq, half_cons, half_cons, half_put b d p l]
      by_cases hb : bit p.1 d = b
      · rw [if_pos hb, if_pos hb]
        by_cases hc : bit q.1 d = b
        · rw [if_pos hc, if_pos hc, put, if_neg hq]
        · rw [if_neg hc, if_neg hc]
      · rw [if_neg hb, if_neg hb]
theorem get_half {k : List UInt8} {d : Nat} : ∀ l : List P, get k (half (bit k d) d l) = get k l
  | [] => rfl
  | p :: l => by
    rw [half_cons, get]
    by_cases hp : p.1 = k
    · rw [if_pos hp, if_pos (by rw [hp]), get, if_pos hp]
    · rw [if_neg hp]
      by_cases hb : bit p.1 d = bit k d
      · rw [if_pos hb, get, if_neg hp, get_half l]
      · rw [if_neg hb, get_half l]
theorem put_length (p : P) : ∀ l : List P, (put p l).length = if (get p.1 l).isSome then l.length else l.length + 1
  | [] => rfl
  | q :: l => by
    rw [put, get]
    by_cases h : q.1 = p.1
    · rw [if_pos h, if_pos h]; rfl
    · rw [if_neg h, if_neg h, List.length_cons, put_length p l, List.length_cons]; split <;> rfl
theorem put_le (p : P) (l : List P) : l.length ≤ (put p l).length ∧ 1 ≤ (put p l).length ∧ (put p l).length ≤ l.length + 1 := by
  rw [put_length]
  match l with
  | [] => simp [get]
  | q :: l => simp only [List.length_cons]; split <;> omega
theorem mem_put {p q : P} : ∀ {l : List P}, q ∈ put p l → q = p ∨ q ∈ l
  | [], h => by rw [put] at h; exact .inl (by simpa using h)
  | r :: l, h => by
    rw [put] at h
    split at h
    · rcases List.mem_cons.1 h with h | h
      · exact .inl h
      · exact .inr (by simp [h])
    · rcases List.mem_cons.1 h with h | h
      · exact .inr (by simp [h])
      · rcases mem_put h with h | h
        · exact .inl h
        · exact .inr (by simp [h])
theorem put_ne (p : P) : ∀ {l : List P}, l.Pairwise (fun p q => p.1 ≠ q.1) → (put p l).Pairwise fun p q => p.1 ≠ q.1
  | [], _ => by simp [put]
  | q :: l, h => by
    obtain ⟨h1, h2⟩ := List.pairwise_cons.1 h
    rw [put]
    by_cases hq : q.1 = p.1
    · rw [if_pos hq]
      exact List.pairwise_cons.2 ⟨fun r hr => by rw [← hq]; exact h1 r hr, h2⟩
    · rw [if_neg hq]
      refine List.pairwise_cons.2 ⟨fun r hr => ?_, put_ne p h2⟩
      rcases mem_put hr with h3 | h3
      · rw [h3]; exact hq
      · exact h1 r h3
theorem Fit.more {d : Nat} {l : List P} (h : Fit d l) {p : P} (h1 : p.1.length = 32) (h2 : p.2.length = 32) (hw : ∀ q ∈ l, ∀ i, i < d → bit p.1 i = bit q.1 i) : Fit d (put p l) := by
  refine ⟨fun q hq => ?_, put_ne p h.ne, fun q hq r hr i hi => ?_⟩
  · rcases mem_put hq with h3 | h3
    · rw [h3]; exact ⟨h1, h2⟩
    · exact h.len q h3
  · rcases mem_put hq with h3 | h3 <;> rcases mem_put hr with h4 | h4
    · rw [h3, h4]
    · rw [h3]; exact hw r h4 i hi
    · rw [h4]; exact (hw q h3 i hi).symm
    · exact h.way q h3 r h4 i hi
theorem Fit.more0 {l : List P} (h : Fit 0 l) {p : P} (h1 : p.1.length = 32) (h2 : p.2.length = 32) : Fit 0 (put p l) := h.more h1 h2 fun _ _ i hi => by omega
def sidesF : Nat → Nat → List UInt8 → List P → List (List UInt8)
  | 0, _, _, _ => []
  | f + 1, d, k, l => if l.length ≤ 1 then [] else root (d + 1) (half (!bit k d) d l) :: sidesF f (d + 1) k (half (bit k d) d l)
def endF : Nat → Nat → List UInt8 → List P → Option P
  | 0, _, _, l => l.head?
  | f + 1, d, k, l => if l.length ≤ 1 then l.head? else endF f (d + 1) k (half (bit k d) d l)
def sides (d : Nat) (k : List UInt8) (l : List P) : List (List UInt8) := sidesF (257 - d) d k l
def ends (d : Nat) (k : List UInt8) (l : List P) : Option P := endF (257 - d) d k l
theorem sides_one {d : Nat} {k : List UInt8} {l : List P} (h : l.length ≤ 1) : sides d k l = [] := by
  unfold sides; cases 257 - d with
  | zero => rfl
  | succ n => rw [sidesF, if_pos h]
theorem ends_one {d : Nat} {k : List UInt8} {l : List P} (h : l.length ≤ 1) : ends d k l = l.head? := by
  unfold ends; cases 257 - d with
  | zero => rfl
  | succ n => rw [endF, if_pos h]
theorem sides_more {d : Nat} {k : List UInt8} {l : List P} (h : 2 ≤ l.length) (hd : d ≤ 256) : sides d k l = root (d + 1) (half (!bit k d) d l) :: sides (d + 1) k (half (bit k d) d l) := by
  unfold sides; rw [show 257 - d = (257 - (d + 1)) + 1 by omega, sidesF, if_neg (by omega)]
theorem ends_more {d : Nat} {k : List UInt8} {l : List P} (h : 2 ≤ l.length) (hd : d ≤ 256) : ends d k l = ends (d + 1) k (half (bit k d) d l) := by
  unfold ends; rw [show 257 - d = (257 - (d + 1)) + 1 by omega, endF, if_neg (by omega)]
structure Prf where
  sides : List (List UInt8)
  has : Bool
  lab : List UInt8
  sum : List UInt8
def Prf.of (s : List (List UInt8)) : Option P → Prf
  | none => ⟨s, false, none32, none32⟩
  | some p => ⟨s, true, p.1, p.2⟩
def prove (l : List P) (k : List UInt8) : Prf := .of (sides 0 k l) (ends 0 k l)
def up (e k : List UInt8) : Nat → List (List UInt8) → List UInt8
  | _, [] => e
  | d, s :: r => if bit k d then node s (up e k (d + 1) r) else node (up e k (d + 1) r) s
def shares (a b : List UInt8) (n : Nat) : Bool := (List.range n).all fun d => bit a d == bit b d
def Prf.tip (p : Prf) : List UInt8 := if p.has then leaf p.lab p.sum else none32
def Prf.good (p : Prf) (k : List UInt8) : Bool := decide (p.sides.length ≤ 256) && (if p.has then shares p.lab k p.sides.length else decide (p.lab = none32) && decide (p.sum = none32))
def Prf.holds (p : Prf) (r k : List UInt8) : Bool := p.good k && decide (up p.tip k 0 p.sides = r)
def Prf.there (p : Prf) (k : List UInt8) : Bool := p.has && decide (p.lab = k)
def Prf.told (p : Prf) (r k : List UInt8) : List UInt8 := if p.holds r k && p.there k then p.sum else none32
def Prf.tips (p : Prf) (k s : List UInt8) : List P := if p.has && !p.there k then [(k, s), (p.lab, p.sum)] else [(k, s)]
def Prf.after (p : Prf) (r k s : List UInt8) : List UInt8 := if p.holds r k then up (root p.sides.length (p.tips k s)) k 0 p.sides else none32
theorem up_length {e k : List UInt8} (he : e.length = 32) : ∀ (d : Nat) (s : List (List UInt8)), (up e k d s).length = 32
  | _, [] => he
  | d, s :: r => by rw [up]; split <;> exact node_length _ _
theorem shares_iff {a b : List UInt8} {n : Nat} : shares a b n = true ↔ ∀ i, i < n → bit a i = bit b i := by simp [shares, List.all_eq_true]
def tipOf : Option P → List UInt8
  | none => none32
  | some p => leaf p.1 p.2
theorem tip_of (s : List (List UInt8)) (o : Option P) : (Prf.of s o).tip = tipOf o := by cases o <;> rfl
theorem sides_of (s : List (List UInt8)) (o : Option P) : (Prf.of s o).sides = s := by cases o <;> rfl
theorem head_tip {d : Nat} {l : List P} (h : l.length ≤ 1) : tipOf l.head? = root d l := by
  match l, h with
  | [], _ => rw [root_nil]; rfl
  | [p], _ => rw [root_one]; rfl
  | _ :: _ :: _, h => simp at h
theorem up_sides : ∀ (f d : Nat) (k : List UInt8) (l : List P), f = 257 - d → Fit d l → up (tipOf (ends d k l)) k d (sides d k l) = root d l
  | 0, d, k, l, hf, h => by
    have : l.length ≤ 1 := by
      by_cases h2 : l.length ≤ 1
      · exact h2
      · have := h.deep (by omega); omega
    rw [sides_one this, ends_one this, up, head_tip this]
  | f + 1, d, k, l, hf, h => by
    by_cases h2 : l.length ≤ 1
    · rw [sides_one h2, ends_one h2, up, head_tip h2]
    · have hd := h.deep (by omega)
      rw [sides_more (by omega) (by omega), ends_more (by omega) (by omega), up, up_sides f (d + 1) k _ (by omega) (h.half _), root_more (l := l) (by omega) (by omega)]
      cases bit k d <;> rfl
theorem ends_mem : ∀ (f d : Nat) (k : List UInt8) (l : List P) (p : P), f = 257 - d → Fit d l → ends d k l = some p → p ∈ l ∧ ∀ i, d ≤ i → i < d + (sides d k l).length → bit p.1 i = bit k i
  | 0, d, k, l, p, hf, h, he => by
    have : l.length ≤ 1 := by
      by_cases h2 : l.length ≤ 1
      · exact h2
      · have := h.deep (by omega); omega
    rw [ends_one this] at he
    rw [sides_one this]
    exact ⟨List.mem_of_mem_head? he, fun i h1 h3 => by simp at h3; omega⟩
  | f + 1, d, k, l, p, hf, h, he => by
    by_cases h2 : l.length ≤ 1
    · rw [ends_one h2] at he
      rw [sides_one h2]
      exact ⟨List.mem_of_mem_head? he, fun i h1 h3 => by simp at h3; omega⟩
    · have hd := h.deep (by omega)
      rw [ends_more (by omega) (by omega)] at he
      obtain ⟨h3, h4⟩ := ends_mem f (d + 1) k _ p (by omega) (h.half _) he
      refine ⟨(mem_half.1 h3).1, fun i h5 h6 => ?_⟩
      rw [sides_more (by omega) (by omega), List.length_cons] at h6
      rcases Nat.lt_or_ge d i with h7 | h7
      · exact h4 i h7 (by omega)
      · rw [show i = d by omega]; exact (mem_half.1 h3).2
theorem sides_length : ∀ (f d : Nat) (k : List UInt8) (l : List P), f = 257 - d → Fit d l → d ≤ 256 → d + (sides d k l).length ≤ 256
  | 0, d, k, l, hf, h, h0 => by omega
  | f + 1, d, k, l, hf, h, h0 => by
    by_cases h2 : l.length ≤ 1
    · rw [sides_one h2]; simpa using h0
    · have hd := h.deep (by omega)
      have := sides_length f (d + 1) k _ (by omega) (h.half (bit k d)) (by omega)
      rw [sides_more (by omega) (by omega), List.length_cons]
      omega
theorem sides_each : ∀ (f d : Nat) (k : List UInt8) (l : List P), ∀ s ∈ sidesF f d k l, s.length = 32
  | 0, _, _, _, s, h => by simp [sidesF] at h
  | f + 1, d, k, l, s, h => by
    rw [sidesF] at h
    split at h
    · simp at h
    · rcases List.mem_cons.1 h with h | h
      · rw [h]; exact root_length _ _
      · exact sides_each f _ _ _ s h
theorem get_head {k : List UInt8} {l : List P} (h : l.length ≤ 1) : get k l = match l.head? with | none => none | some p => if p.1 = k then some p.2 else none := by
  match l, h with
  | [], _ => rfl
  | [p], _ => rfl
  | _ :: _ :: _, h => simp at h
theorem get_ends : ∀ (f d : Nat) (k : List UInt8) (l : List P), f = 257 - d → Fit d l → get k l = match ends d k l with | none => none | some p => if p.1 = k then some p.2 else none
  | 0, d, k, l, hf, h => by
    have : l.length ≤ 1 := by
      by_cases h2 : l.length ≤ 1
      · exact h2
      · have := h.deep (by omega); omega
    rw [ends_one this, get_head this]
  | f + 1, d, k, l, hf, h => by
    by_cases h2 : l.length ≤ 1
    · rw [ends_one h2, get_head h2]
    · have hd := h.deep (by omega)
      rw [ends_more (by omega) (by omega), ← get_ends f (d + 1) k _ (by omega) (h.half _), get_half]
theorem prove_good {l : List P} (h : Fit 0 l) (k : List UInt8) : (prove l k).good k = true := by
  have h1 := sides_length 257 0 k l rfl h (by omega)
  have h2 := ends_mem 257 0 k l
  unfold prove Prf.good
  rw [sides_of]
  cases he : ends 0 k l with
  | none => simp [Prf.of]; omega
  | some p =>
    have h3 := h2 p rfl h he
    simp only [Prf.of, if_true, Bool.and_eq_true, decide_eq_true_iff]
    exact ⟨by omega, shares_iff.2 fun i hi => h3.2 i (by omega) (by omega)⟩
theorem prove_holds {l : List P} (h : Fit 0 l) (k : List UInt8) : (prove l k).holds (root 0 l) k = true := by
  unfold Prf.holds
  rw [prove_good h, Bool.true_and, decide_eq_true_iff]
  unfold prove
  rw [tip_of, sides_of, up_sides 257 0 k l rfl h]
theorem prove_there {l : List P} (h : Fit 0 l) (k : List UInt8) : (prove l k).there k = (get k l).isSome := by
  rw [get_ends 257 0 k l rfl h]
  unfold prove Prf.there
  cases ends 0 k l with
  | none => rfl
  | some p => by_cases hp : p.1 = k <;> simp [Prf.of, hp]
theorem prove_told {l : List P} (h : Fit 0 l) (k : List UInt8) : (prove l k).told (root 0 l) k = (get k l).getD none32 := by
  unfold Prf.told
  rw [prove_holds h, Bool.true_and]
  rw [prove_there h, get_ends 257 0 k l rfl h]
  unfold prove
  cases ends 0 k l with
  | none => rfl
  | some p => by_cases hp : p.1 = k <;> simp [Prf.of, hp]
def tipsOf (k s : List UInt8) : Option P → List P
  | none => [(k, s)]
  | some q => if q.1 = k then [(k, s)] else [(k, s), q]
theorem tips_of (z : List (List UInt8)) (o : Option P) (k s : List UInt8) : (Prf.of z o).tips k s = tipsOf k s o := by
  cases o with
  | none => rfl
  | some p => by_cases h : p.1 = k <;> simp [Prf.of, Prf.tips, Prf.there, tipsOf, h]
theorem put_head {k s : List UInt8} {l : List P} (h : l.length ≤ 1) : (tipsOf k s l.head?).Perm (put (k, s) l) := by
  match l, h with
  | [], _ => exact List.Perm.refl _
  | [p], _ =>
    show (tipsOf k s (some p)).Perm _
    rw [tipsOf, put, put]
    by_cases hp : p.1 = k
    · rw [if_pos hp, if_pos hp]
    · rw [if_neg hp, if_neg hp]; exact List.Perm.swap _ _ _
  | _ :: _ :: _, h => simp at h
theorem up_after : ∀ (f d : Nat) (k s : List UInt8) (l : List P), f = 257 - d → Fit d l → up (root (d + (sides d k l).length) (tipsOf k s (ends d k l))) k d (sides d k l) = root d (put (k, s) l)
  | 0, d, k, s, l, hf, h => by
    have : l.length ≤ 1 := by
      by_cases h2 : l.length ≤ 1
      · exact h2
      · have := h.deep (by omega); omega
    rw [sides_one this, ends_one this, up]
    exact root_perm _ (put_head this)
  | f + 1, d, k, s, l, hf, h => by
    by_cases h2 : l.length ≤ 1
    · rw [sides_one h2, ends_one h2, up]
      exact root_perm _ (put_head h2)
    · have hd := h.deep (by omega)
      have hp := (put_le (k, s) l).1
      rw [sides_more (by omega) (by omega), ends_more (by omega) (by omega), up, List.length_cons, show d + ((sides (d + 1) k (half (bit k d) d l)).length + 1) = d + 1 + (sides (d + 1) k (half (bit k d) d l)).length by omega, up_after f (d + 1) k s _ (by omega) (h.half _), root_more (l := put (k, s) l) (by omega) (by omega), half_put, half_put]
      cases bit k d <;> rfl
theorem prove_after {l : List P} (h : Fit 0 l) (k s : List UInt8) : (prove l k).after (root 0 l) k s = root 0 (put (k, s) l) := by
  unfold Prf.after
  rw [prove_holds h, if_pos rfl]
  unfold prove
  rw [tips_of, sides_of]
  have := up_after 257 0 k s l rfl h
  rwa [Nat.zero_add] at this
theorem tips_fit {p : Prf} {k s : List UInt8} (hk : k.length = 32) (hs : s.length = 32) (h1 : p.lab.length = 32) (h2 : p.sum.length = 32) (hg : p.good k = true) : Fit p.sides.length (p.tips k s) := by
  unfold Prf.tips
  split
  · rename_i hc
    rw [Bool.and_eq_true] at hc
    obtain ⟨hc1, hc2⟩ := hc
    have hne : ¬ p.lab = k := by simpa [Prf.there, hc1] using hc2
    unfold Prf.good at hg
    rw [Bool.and_eq_true, if_pos hc1] at hg
    have hw := shares_iff.1 hg.2
    refine ⟨by simp [hk, hs, h1, h2], by simp; exact fun h => hne h.symm, fun q hq r hr i hi => ?_⟩
    simp at hq hr
    rcases hq with rfl | rfl <;> rcases hr with rfl | rfl
    · rfl
    · exact (hw i hi).symm
    · exact hw i hi
    · rfl
  · exact Fit.one _ hk hs
end Go.Proofs.YtmidbpjdpakkoaaDoor.Tm
