/- The landed box: what a box in memory is; Clone, twelve, New. -/
import Derived.Test.YtpbfeobifpmjbaaDoorBk
import Derived.Test.YtpbfeobifpmjbaaDoorBmap
namespace Go.Proofs.YtpbfeobifpmjbaaDoor
set_option linter.unusedVariables false
set_option linter.unusedSimpArgs false
set_option maxRecDepth 100000
open Go.RowKit

/-- The notes of what was sealed, as entries of a map; rows of bytes lie in M, apart from X. -/
structure SRel (w : World) (M X : Nat → Prop) (E : List (Value × Value)) (S : List Bx.SNote) : Prop where
  of : ∀ p ∈ E, ∃ key num ad c b A n cp, List.length key = 32 ∧ p = (lkKey key num ad c, Value.slice A n cp) ∧ Rd w A n cp b ∧ n ≤ 3000 ∧ Bx.lookS key num ad c S = some b ∧ ∀ x : Addr, A = some x → 0 < n → M x.block ∧ ¬ X x.block
  is : ∀ key num ad c, List.length key = 32 → Bx.lookS key num ad c S ≠ none → ∃ v, (lkKey key num ad c, v) ∈ E
/-- A book's notes, as entries of a map. -/
structure BRel (E : List (Value × Value)) (B : List Bx.BNote) : Prop where
  of : ∀ p ∈ E, ∃ key b h, List.length key = 32 ∧ p = (mkKey key b, Value.agg (List.map cellOf h).toArray) ∧ Bx.lookB key b B = some h
  is : ∀ key b, List.length key = 32 → Bx.lookB key b B ≠ none → ∃ v, (mkKey key b, v) ∈ E
def Six (g k t r1 r2 r3 : Nat) (x : Nat) : Prop := x = g ∨ x = k ∨ x = t ∨ x = r1 ∨ x = r2 ∨ x = r3
/-- At g lies an ideal box. -/
structure BxJ (w : World) (g k t r1 r2 r3 : Nat) (s : Int) (a : Nat) (S : List Bx.SNote) (B L : List Bx.BNote) (ES EB EL : List (Value × Value)) (M : Nat → Prop) : Prop where
  bg : Blk w g 53 [.pointer (some ⟨k, 0, none⟩)]
  bk : Blk w k 65 [.pointer (some ⟨t, 0, none⟩), .map (some r1), .map (some r2), .map (some r3)]
  tp : TapeAt w t s a
  mS : MapIs 79 w r1 ES
  mB : MapIs 67 w r2 EB
  mL : MapIs 67 w r3 EL
  sS : SRel w M (Six g k t r1 r2 r3) ES S
  sB : BRel EB B
  sL : BRel EL L
  gB : Bx.Good B
  gL : Bx.Good L
  ne : g ≠ k ∧ g ≠ t ∧ g ≠ r1 ∧ g ≠ r2 ∧ g ≠ r3 ∧ k ≠ t ∧ k ≠ r1 ∧ k ≠ r2 ∧ k ≠ r3 ∧ t ≠ r1 ∧ t ≠ r2 ∧ t ≠ r3 ∧ r1 ≠ r2 ∧ r1 ≠ r3 ∧ r2 ≠ r3
  mem : ∀ x, Six g k t r1 r2 r3 x → M x
  lt : ∀ b, M b → b < w.heap.size
/-- At g lies a box that knows st; its memory is M. -/
def BxAt : BxP := fun w g st M =>
  match st.kind with
  | false => Blk w g 53 [.pointer none] ∧ ∀ b, M b ↔ b = g
  | true => ∃ k t r1 r2 r3 ES EB EL, BxJ w g k t r1 r2 r3 st.seed st.place st.notes st.marks st.labels ES EB EL M
theorem SRel.keep {w w' : World} {M X : Nat → Prop} {E : List (Value × Value)} {S : List Bx.SNote} (h : SRel w M X E S) (hs : w.heap.size ≤ w'.heap.size) (hb : ∀ b, M b → ¬ X b → w'.heap[b]? = w.heap[b]?) : SRel w' M X E S :=
  ⟨fun p hp => by
    obtain ⟨key, num, ad, c, b, A, n, cp, h1, h2, h3, h30, h4, h5⟩ := h.of p hp
    exact ⟨key, num, ad, c, b, A, n, cp, h1, h2, h3.keep hs fun b off e h0 _ => by have := h5 _ e h0; exact hb _ this.1 this.2, h30, h4, h5⟩, h.is⟩
theorem BxJ.keep {w w' : World} {g k t r1 r2 r3 : Nat} {s : Int} {a : Nat} {S : List Bx.SNote} {B L : List Bx.BNote} {ES EB EL : List (Value × Value)} {M : Nat → Prop} (h : BxJ w g k t r1 r2 r3 s a S B L ES EB EL M) (hs : w.heap.size ≤ w'.heap.size) (hb : ∀ b, M b → w'.heap[b]? = w.heap[b]?) : BxJ w' g k t r1 r2 r3 s a S B L ES EB EL M where
  bg := (hb g (h.mem g (.inl rfl))).trans h.bg
  bk := (hb k (h.mem k (.inr (.inl rfl)))).trans h.bk
  tp := ⟨(hb t (h.mem t (.inr (.inr (.inl rfl))))).trans h.tp.blk, h.tp.lo, h.tp.hi⟩
  mS := h.mS.keep (hb r1 (h.mem r1 (.inr (.inr (.inr (.inl rfl))))))
  mB := h.mB.keep (hb r2 (h.mem r2 (.inr (.inr (.inr (.inr (.inl rfl)))))))
  mL := h.mL.keep (hb r3 (h.mem r3 (.inr (.inr (.inr (.inr (.inr rfl)))))))
  sS := h.sS.keep hs fun b hm _ => hb b hm
  sB := h.sB
  sL := h.sL
  gB := h.gB
  gL := h.gL
  ne := h.ne
  mem := h.mem
  lt b hm := Nat.lt_of_lt_of_le (h.lt b hm) hs
theorem bxAt_lt {w : World} {g : Nat} {st : Bx.St} {M : Nat → Prop} {b : Nat} (h : BxAt w g st M) (hm : M b) : b < w.heap.size := by
  obtain ⟨kd, s, a, S, B, L⟩ := st
  cases kd with
  | false =>
    obtain ⟨h1, h2⟩ := h
    rw [(h2 b).1 hm]
    exact Blk.lt h1
  | true =>
    obtain ⟨k, t, r1, r2, r3, ES, EB, EL, h⟩ := h
    exact h.lt b hm
theorem bxAt_keep {w w' : World} {g : Nat} {st : Bx.St} {M : Nat → Prop} (h : BxAt w g st M) (hs : w.heap.size ≤ w'.heap.size) (hb : ∀ b, M b → w'.heap[b]? = w.heap[b]?) : BxAt w' g st M := by
  obtain ⟨kd, s, a, S, B, L⟩ := st
  cases kd with
  | false =>
    obtain ⟨h1, h2⟩ := h
    exact ⟨(hb g ((h2 g).2 rfl)).trans h1, h2⟩
  | true =>
    obtain ⟨k, t, r1, r2, r3, ES, EB, EL, h⟩ := h
    exact ⟨k, t, r1, r2, r3, ES, EB, EL, h.keep hs hb⟩
theorem bxAt_good {w : World} {g : Nat} {s : Int} {a : Nat} {S : List Bx.SNote} {B L : List Bx.BNote} {M : Nat → Prop} (h : BxAt w g (.ideal s a S B L) M) : Bx.Good B ∧ Bx.Good L := by
  obtain ⟨k, t, r1, r2, r3, ES, EB, EL, h⟩ := h
  exact ⟨h.gB, h.gL⟩

theorem nil_eqInB (d n c : Nat) (W : World) : (Op.equalIn (d + 1) 28 (.slice none n c) (.slice none 0 0)).run Tryd.prog W = .ok true W := by
  simp [Op.equalIn, run_underlying Tryd.underlying28]
theorem nil_eqB (n c : Nat) (W : World) : (binOp .eql 28 (.slice none n c) (.slice none 0 0)).run Tryd.prog W = .ok (.bool true) W := by
  simp only [binOp]
  simp [Op.equal, Op.maxDepth, nil_eqInB 9999 n c W]
theorem nil_neInB (d : Nat) (x : Addr) (n c : Nat) (W : World) : (Op.equalIn (d + 1) 28 (.slice (some x) n c) (.slice none 0 0)).run Tryd.prog W = .ok false W := by
  simp [Op.equalIn, run_underlying Tryd.underlying28]
theorem nil_neB (x : Addr) (n c : Nat) (W : World) : (binOp .eql 28 (.slice (some x) n c) (.slice none 0 0)).run Tryd.prog W = .ok (.bool false) W := by
  simp only [binOp]
  simp [Op.equal, Op.maxDepth, nil_neInB 9999 x n c W]
theorem own_none (w : World) : Ow (w.alloc (.cells #[] 5)) w.heap.size (.slice (some ⟨w.heap.size, 0, none⟩) 0 0) [] :=
  ⟨by simp, .inr ⟨w.heap.size, 0, #[], rfl, Nat.le_refl _, heap_alloc_new w _, Nat.le_refl _, by unfold maxLen; omega, by simp, by simp⟩⟩
set_option maxRecDepth 100000 in
theorem bclone_any {w : World} {A : Option Addr} {n c : Nat} {l : List UInt8} (hr : Rd w A n c l) (hn : n ≤ 100000) : Calls Tryd.prog 39 #[.slice A n c] w fun e w' => ∃ A' c', e = .returned (.slice A' n c') ∧ Rd w' A' n c' l ∧ Below w.heap.size w w' ∧ ∀ x, A' = some x → 0 < n → w.heap.size ≤ x.block := by
  cases A with
  | none =>
    have hn0 : n = 0 := by
      rcases Nat.eq_zero_or_pos n with h0 | h0
      · exact h0
      · obtain ⟨b, off, e, _⟩ := hr.at_ h0
        cases e
    subst hn0
    obtain rfl : l = [] := List.eq_nil_of_length_eq_zero hr.len
    have he := fun W => nil_eqB 0 c W
    clear hr
    go_enter Tryd.func39, Tryd.ntmps39
    go_wp2_with fail
    go_ret
    exact ⟨_, _, rfl, Rd.nil _ _ _ (by unfold maxLen; omega), Below.refl _ _, fun x hx => by cases hx⟩
  | some ad =>
    have he := fun W => nil_neB ad n c W
    have HR := Lib.hid hr
    have HL := Lib.hid hr.len
    have LN : Hid (([] : List UInt8).length + n ≤ 140737488355328) := by unfold Hid; simp; omega
    clear hr
    go_enter Tryd.func39, Tryd.ntmps39
    go_wp2_with (first
      | (at_builtin; refine onto_when rfl (.tmp 5) (.tmp 6) rfl rfl rfl (HR.out.below (alloc_below w _)) (own_none w) LN.out (by simp) (alloc_below w _) ?_; intro v4 w4 O4 X4 G4))
    go_ret
    obtain ⟨A4, c4, rfl, hR4, hF⟩ := O4.out.value
    rw [List.nil_append, HL.out] at *
    exact ⟨_, _, rfl, hR4, X4.out, fun x hx h0 => by
      obtain ⟨g, e, hg⟩ := hF h0
      rw [hx] at e
      injection e with e
      rw [e]
      exact hg⟩

def part12 (n : Nat) : Nat → List UInt8
  | 0 => []
  | k + 1 => Sha.by8 ((n : Int) / 256 ^ k) :: part12 n k
theorem part12_length (n : Nat) : ∀ k, (part12 n k).length = k
  | 0 => rfl
  | k + 1 => by rw [part12, List.length_cons, part12_length n k]
def lay12 (n k : Nat) : List UInt8 := List.replicate (12 - k) 0 ++ part12 n k
theorem lay12_length (n k : Nat) (h : k ≤ 12) : (lay12 n k).length = 12 := by rw [lay12, List.length_append, List.length_replicate, part12_length]; omega
theorem by8_nat (n k : Nat) : Sha.by8 ((n : Int) / 256 ^ k) = UInt8.ofNat (n / 256 ^ k % 256) := by
  have h : (((n : Int) / 256 ^ k) % 256).toNat = n / 256 ^ k % 256 := by
    have : ((n : Int) / 256 ^ k) % 256 = ((n / 256 ^ k % 256 : Nat) : Int) := by simp
    rw [this]
    exact Int.toNat_natCast _
  rw [Sha.by8, h]
theorem lay12_eight (n : Nat) : lay12 n 8 = Bx.nonce (n : Int) := by
  simp only [lay12, part12, by8_nat, Bx.nonce, Int.toNat_natCast]
  rfl
theorem lay12_set (n k m : Nat) (h : k < 8) (hm : m = 11 - k) (y : UInt8) (hy : y = Sha.by8 ((n : Int) / 256 ^ k)) : ((lay12 n k).map cellOf).set m (cellOf y) = (lay12 n (k + 1)).map cellOf := by
  have e : 12 - k = m + 1 := by omega
  have e2 : 12 - (k + 1) = m := by omega
  rw [lay12, lay12, e, e2, part12, ← hy, List.replicate_succ', List.append_assoc, List.map_append, List.map_append, List.set_append_right _ _ (by simp)]
  simp
theorem lay12_at (n k m : Nat) (h : k < 8) (hm : m = 11 - k) : ((lay12 n k).map cellOf)[m]? = some (.int .u8 0) := by
  have e : 12 - k = m + 1 := by omega
  rw [lay12, e, List.replicate_succ', List.append_assoc, List.map_append, List.getElem?_append_right (by simp)]
  simp [cellOf]
set_option maxRecDepth 100000 in
set_option maxHeartbeats 2000000 in
theorem twelve_any (n : Nat) (w : World) (hn : n ≤ 9223372036854775807) : Calls Tryd.prog 25 #[.int .i64 (n : Int)] w fun e w' => e = .returned (.agg ((Bx.nonce (n : Int)).map cellOf).toArray) ∧ Below w.heap.size w w' := by
  obtain ⟨N, hN⟩ : ∃ N, N = (Bx.nonce (n : Int)).map cellOf := ⟨_, rfl⟩
  have hN8 : Hid ((lay12 n 8).map cellOf = N) := by unfold Hid; rw [hN, lay12_eight]
  have hNl : N.length = 12 := by rw [hN, List.length_map, Bx.nonce_length]
  have IN : Hid ((Tryd.prog.info? 58).map (·.size) = some N.length) := by unfold Hid; rw [hNl]; kernel_rfl
  have LN : Hid ((List.replicate 12 (Value.int .u8 0)).length = N.length) := by unfold Hid; rw [hNl]; rfl
  have ON : Hid (∀ v ∈ N, v.oneCell' = true) := by unfold Hid; rw [hN]; exact cells_u8 _
  rw [← hN]
  clear hN hNl
  go_enter Tryd.func25, Tryd.ntmps25
  go_wp2_with fail
  go_loopw [5] (fun i wr => ∃ k : Nat, k ≤ 8 ∧ i = .int .i64 k ∧ Hid (Blk wr w.heap.size 58 (List.replicate 12 (Value.int .u8 0))) ∧ Hid (Blk wr (w.heap.size + 1) 58 ((lay12 n k).map cellOf)) ∧ Hid (Below w.heap.size w wr)) (fun i _ => 8 - (intOf i).toNat)
  case atStart => exact ⟨0, by omega, rfl, (Blk.at_new _ _ 58 _ _ (by rfl) rfl : Blk _ w.heap.size _ _).alloc _, Blk.at_new _ _ 58 _ _ (by rfl) (by simp), ((Below.refl _ _).alloc (Nat.le_refl _) _).alloc (by simp) _⟩
  case round =>
    obtain ⟨k, hk, rfl, B1, B2, BW⟩ := hrel
    by_cases hlt : k < 8
    · have hlb : decide ((k : Int) < 8) = true := by simp; omega
      obtain ⟨y, hy⟩ : ∃ y : UInt8, y = Sha.by8 ((n : Int) / 256 ^ k) := ⟨_, rfl⟩
      obtain ⟨m, hm⟩ : ∃ m : Nat, m = 11 - k := ⟨_, rfl⟩
      have e11 : (11 : Int) - (k : Int) = (m : Int) := by omega
      have hm12 : m < 12 := by omega
      have c0 : wr.cell? ⟨w.heap.size + 1, m, none⟩ = some (.int .u8 0) := by rw [B2.out.cell]; exact lay12_at n k m hlt hm
      have f0 : wr.frozen? ⟨w.heap.size + 1, m, none⟩ = false := B2.out.frozen _
      have B4 : Hid (Blk (wr.setCell ⟨w.heap.size + 1, m, none⟩ (.int .u8 (y.toNat : Int))) (w.heap.size + 1) 58 ((lay12 n (k + 1)).map cellOf)) := by
        have := B2.out.set_ m (cellOf y)
        rw [lay12_set n k m hlt hm y hy] at this
        exact this
      have B3 : Hid (Blk (wr.setCell ⟨w.heap.size + 1, m, none⟩ (.int .u8 (y.toNat : Int))) w.heap.size 58 (List.replicate 12 (Value.int .u8 0))) := B1.out.far (by simp) _
      have hsh : (n : Int) / 2 ^ (8 * k) % 256 = (y.toNat : Int) := by rw [hy, Pol.by8_toNat, Int.pow_mul]; rfl
      have hm8 : ((8 * (k : Int)).toNat) = 8 * k := by omega
      clear hy hm B1 B2
      go_wp2_with fail
      clear c0 f0 hsh
      go_roundw
      case rel => exact ⟨k + 1, by omega, by go_num, B3, B4, BW.out.setCell (by simp) _⟩
      case measure => simp [intOf]; omega
    · obtain rfl : k = 8 := by omega
      rw [show ((8 : Nat) : Int) = 8 from rfl]
      rw [hN8.out] at B2
      go_wp2_with (first
        | (with_reducible refine load_law rfl 58 (.tmp 3) rfl (w.heap.size + 1) 0 rfl N _ Tryd.underlying58 rfl IN.out B2.out.cells ?_)
        | (with_reducible refine storeGen_law rfl 58 (.tmp 2) (.tmp 17) rfl w.heap.size rfl N rfl 58 (List.replicate 12 (.int .u8 0)) IN.out LN.out ON.out w.heap.size w B1.out BW.out (Nat.le_refl _) ?_; intro w3 B3 X3))
      exact bodyPost_ret (results_cell_row rfl _ _ w.heap.size 58 N.toArray (0, 0) _ rfl B3.out Tryd.underlying58 rfl (by rw [IN.out]; simp)) rfl ⟨rfl, X3.out⟩

theorem mkMap (t : TypeId) (W : World) : (Instr.makeMap t none).run Tryd.prog W = .ok (.map (some W.heap.size)) (W.alloc (.map #[] 0)) := by
  simp [Instr.makeMap]
set_option maxRecDepth 100000 in
theorem newBook_any (w : World) (t : Nat) : Calls Tryd.prog 22 #[.pointer (some ⟨t, 0, none⟩)] w fun e w' => ∃ k r1 r2 r3, e = .returned (.pointer (some ⟨k, 0, none⟩)) ∧ Blk w' k 65 [.pointer (some ⟨t, 0, none⟩), .map (some r1), .map (some r2), .map (some r3)] ∧
    MapIs 79 w' r1 [] ∧ MapIs 67 w' r2 [] ∧ MapIs 67 w' r3 [] ∧ w.heap.size ≤ r1 ∧ r1 < r2 ∧ r2 < r3 ∧ r3 < k ∧ k < w'.heap.size ∧ Below w.heap.size w w' := by
  have m1 := mkMap 62
  have m2 := mkMap 63
  go_enter Tryd.func22, Tryd.ntmps22
  go_wp2_with fail
  go_ret
  have a1 := MapIs.new (k := 79) w
  have b1 := alloc_below w (.map #[] 0)
  generalize hw1 : w.alloc (.map #[] 0) = w1 at *
  have e1 : w1.heap.size = w.heap.size + 1 := by rw [← hw1]; simp
  have a2 := MapIs.new (k := 67) w1
  have b2 := alloc_below w1 (.map #[] 0)
  generalize hw2 : w1.alloc (.map #[] 0) = w2 at *
  have e2 : w2.heap.size = w1.heap.size + 1 := by rw [← hw2]; simp
  have a3 := MapIs.new (k := 67) w2
  have b3 := alloc_below w2 (.map #[] 0)
  generalize hw3 : w2.alloc (.map #[] 0) = w3 at *
  have e3 : w3.heap.size = w2.heap.size + 1 := by rw [← hw3]; simp
  refine ⟨w3.heap.size, w.heap.size, w1.heap.size, w2.heap.size, ?_, Blk.at_new _ _ _ _ _ ?_ rfl, ?_, ?_, ?_, Nat.le_refl _, by omega, by omega, by omega, by simp, ?_⟩
  · first | rfl | (simp only [e1, e2, e3]; done) | (simp [e1, e2, e3]; done)
  · first | rfl | (simp [e1, e2]; done)
  · exact ((a1.keep (b2.block _ (by omega))).keep (b3.block _ (by omega))).keep ((alloc_below w3 _).block _ (by omega))
  · exact (a2.keep (b3.block _ (by omega))).keep ((alloc_below w3 _).block _ (by omega))
  · exact a3.keep ((alloc_below w3 _).block _ (by omega))
  · exact ((b1.trans (b2.mono (by omega))).trans (b3.mono (by omega))).trans ((alloc_below w3 _).mono (by omega))

set_option maxRecDepth 100000 in
theorem bnewR (w : World) (p : Option Addr) : Calls Tryd.prog 9 #[.int .i64 0, .pointer p] w fun e w' => ∃ g M, e = .returned (.pointer (some ⟨g, 0, none⟩)) ∧ (∀ b, M b → w.heap.size ≤ b) ∧ BxAt w' g .real M ∧ Below w.heap.size w w' := by
  go_enter Tryd.func9, Tryd.ntmps9
  go_wp2_with fail
  go_ret
  exact ⟨w.heap.size, fun b => b = w.heap.size, rfl, fun b hb => by omega, ⟨Blk.at_new _ _ _ _ _ rfl rfl, fun b => Iff.rfl⟩, alloc_below w _⟩
theorem ptr_eqIn (d : Nat) (x : Addr) (W : World) : (Op.equalIn (d + 1) 26 (.pointer (some x)) (.pointer none)).run Tryd.prog W = .ok false W := by
  simp [Op.equalIn, run_underlying Tryd.underlying26]
set_option maxRecDepth 100000 in
theorem bnewN (w : World) : Calls Tryd.prog 9 #[.int .i64 1, .pointer none] w fun e w' => e = .returned (.pointer none) ∧ Below w.heap.size w w' := by
  go_enter Tryd.func9, Tryd.ntmps9
  go_wp2_with fail
  go_ret
  exact ⟨rfl, Below.refl _ _⟩
set_option maxRecDepth 100000 in
theorem bnewO (w : World) (m : Int) (p : Option Addr) (h0 : m ≠ 0) (h1 : m ≠ 1) : Calls Tryd.prog 9 #[.int .i64 m, .pointer p] w fun e w' => e = .returned (.pointer none) ∧ Below w.heap.size w w' := by
  have e0 : (m == 0) = false := by simpa using h0
  have e1 : (m == 1) = false := by simpa using h1
  go_enter Tryd.func9, Tryd.ntmps9
  go_wp2_with fail
  go_ret
  exact ⟨rfl, Below.refl _ _⟩
set_option maxRecDepth 100000 in
theorem bnewI {w : World} {t : Nat} {s : Int} {a : Nat} (hT : TapeAt w t s a) : Calls Tryd.prog 9 #[.int .i64 1, .pointer (some ⟨t, 0, none⟩)] w fun e w' => ∃ g M, e = .returned (.pointer (some ⟨g, 0, none⟩)) ∧ (∀ b, M b → b = t ∨ w.heap.size ≤ b) ∧ BxAt w' g (.ideal s a [] [] []) M ∧ Below w.heap.size w w' := by
  have HT := Lib.hid hT
  have htl := hT.blk.lt
  clear hT
  go_enter Tryd.func9, Tryd.ntmps9
  go_wp2_with fail
  refine (newBook_any w t).mono ?_
  rintro e w1 ⟨k, r1, r2, r3, rfl, hk, m1, m2, m3, h1, h2, h3, h4, h5, hX⟩
  have HK := Lib.hid hk
  have M1 := Lib.hid m1
  have M2 := Lib.hid m2
  have M3 := Lib.hid m3
  have HX := Lib.hid hX
  clear hk m1 m2 m3 hX
  go_wp2_with fail
  go_ret
  have hB := alloc_below w1 (.cells #[.pointer (some ⟨k, 0, none⟩)] 53)
  have hs := HX.out.size
  have s1 := M1.out.lt
  refine ⟨w1.heap.size, fun b => Six w1.heap.size k t r1 r2 r3 b, rfl, ?_, ⟨k, t, r1, r2, r3, [], [], [], ?_⟩, HX.out.trans (hB.mono hs)⟩
  · rintro b (h | h | h | h | h | h) <;> omega
  · exact {
      bg := Blk.at_new _ _ _ _ _ rfl rfl
      bk := HK.out.below hB h5
      tp := ⟨(HT.out.blk.below HX.out htl).below hB (by omega), HT.out.lo, HT.out.hi⟩
      mS := M1.out.keep (hB.block _ (by omega))
      mB := M2.out.keep (hB.block _ (by omega))
      mL := M3.out.keep (hB.block _ (by omega))
      sS := ⟨fun p hp => by simp at hp, fun key num ad c _ h => absurd rfl h⟩
      sB := ⟨fun p hp => by simp at hp, fun key b _ h => absurd rfl h⟩
      sL := ⟨fun p hp => by simp at hp, fun key b _ h => absurd rfl h⟩
      gB := (show Bx.Good [] from fun n hn => by simp at hn)
      gL := (show Bx.Good [] from fun n hn => by simp at hn)
      ne := by omega
      mem := fun x h => h
      lt := by
        have : (w1.alloc (.cells #[.pointer (some ⟨k, 0, none⟩)] 53)).heap.size = w1.heap.size + 1 := by simp
        rintro b (h | h | h | h | h | h) <;> omega }
end Go.Proofs.YtpbfeobifpmjbaaDoor
