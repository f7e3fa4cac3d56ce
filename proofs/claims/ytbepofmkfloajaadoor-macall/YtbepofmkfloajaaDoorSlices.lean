/- Bytes in slices: what can be read, what is owned, appends, cuts. -/
import Derived.Test.YtbepofmkfloajaaDoorBase
import Derived.Maps.AppendAt
import Derived.Deep.AppendLies
namespace Go.Proofs.YtbepofmkfloajaaDoor
set_option linter.unusedVariables false
set_option linter.unusedSimpArgs false
open Go.RowKit

theorem info5 : (Tryd.prog.info? 5).map (fun i => (i.zero, i.size, i.bytes)) = some (some (.int .u8 0), 1, 1) := by kernel_rfl
theorem size5 : (Tryd.prog.info? 5).map (·.size) = some 1 := by kernel_rfl

/-- The slice value (A, n, c) reads as the bytes l. -/
structure Rd (w : World) (A : Option Addr) (n c : Nat) (l : List UInt8) : Prop where
  len : l.length = n
  cap : n ≤ c
  max : c ≤ maxLen
  at_ : 0 < n → ∃ b off, A = some ⟨b, off, none⟩ ∧ b < w.heap.size ∧ ∀ j, j < n → w.cell? ⟨b, off + j, none⟩ = some (cellOf (l.getD j 0))

theorem Rd.keep {w w' : World} {A : Option Addr} {n c : Nat} {l : List UInt8} (h : Rd w A n c l) (hs : w.heap.size ≤ w'.heap.size) (hk : ∀ b off, A = some ⟨b, off, none⟩ → 0 < n → b < w.heap.size → w'.heap[b]? = w.heap[b]?) : Rd w' A n c l :=
  ⟨h.len, h.cap, h.max, fun h0 => by
    obtain ⟨b, off, rfl, hlt, hc⟩ := h.at_ h0
    exact ⟨b, off, rfl, Nat.lt_of_lt_of_le hlt hs, fun j hj => (World.cell?_of_block (a := ⟨b, off + j, none⟩) (hk b off rfl h0 hlt)).trans (hc j hj)⟩⟩
theorem Rd.below {w w' : World} {A : Option Addr} {n c : Nat} {l : List UInt8} (h : Rd w A n c l) (hb : Below w.heap.size w w') : Rd w' A n c l :=
  h.keep hb.size fun b _ _ _ hb' => hb.block b hb'
theorem Rd.grown {w w' : World} {A : Option Addr} {n c : Nat} {l : List UInt8} {g : Nat} (h : Rd w A n c l) (hb : w.grownBy w' (some g)) (hne : 0 < n → ∀ ad, A = some ad → ad.block ≠ g) : Rd w' A n c l :=
  h.keep hb.size fun b off e h0 hb' => hb.block b hb' (by have := hne h0 _ e; simpa using this)
theorem Rd.nil (w : World) (A : Option Addr) (c : Nat) (hc : c ≤ maxLen) : Rd w A 0 c [] := ⟨rfl, Nat.zero_le _, hc, fun h => absurd h (by omega)⟩
theorem Rd.drew {w : World} {A : Option Addr} {n c : Nat} {l : List UInt8} (h : Rd w A n c l) : Rd w.drew A n c l := ⟨h.len, h.cap, h.max, h.at_⟩

/-- The address behind a cut 's[k:..]'. -/
def cutA (A : Option Addr) (c k : Nat) : Option Addr := if c = k then A else A.map (·.add k)

theorem slice_lh (A : Option Addr) (n c k e : Nat) (h1 : k ≤ e) (h2 : e ≤ c) (W : World) :
    (Instr.slice 23 (.slice A n c) (some (.int .i64 (k : Int))) (some (.int .i64 (e : Int))) none).run Tryd.prog W = .ok (.slice (cutA A c k) (e - k) (c - k)) W := by
  obtain ⟨i0, hi, hz0, hz1, hz2⟩ := info_parts info5
  have hel : Tryd.prog.elem 23 = 5 := by kernel_rfl
  have := run_slice_lh (P := Tryd.prog) W 23 A n c (by rw [hel]; exact Tryd.underlying23) .i64 .i64 (k : Int) (e : Int) (by omega) (by omega) (by omega)
  rw [this, hel]
  simp [sizeOf, typeInfo, hi, hz1, sliced, cutA]

theorem slice_l (A : Option Addr) (n c k : Nat) (h1 : k ≤ n) (W : World) :
    (Instr.slice 23 (.slice A n c) (some (.int .i64 (k : Int))) none none).run Tryd.prog W = .ok (.slice (cutA A c k) (n - k) (c - k)) W := by
  obtain ⟨i0, hi, hz0, hz1, hz2⟩ := info_parts info5
  have hel : Tryd.prog.elem 23 = 5 := by kernel_rfl
  have := run_slice_l (P := Tryd.prog) W 23 A n c (by rw [hel]; exact Tryd.underlying23) .i64 (k : Int) (by omega) (by omega)
  rw [this, hel]
  simp [sizeOf, typeInfo, hi, hz1, sliced, cutA]

theorem slice_h (A : Option Addr) (n c e : Nat) (h2 : e ≤ c) (W : World) :
    (Instr.slice 23 (.slice A n c) none (some (.int .i64 (e : Int))) none).run Tryd.prog W = .ok (.slice (cutA A c 0) e c) W := by
  obtain ⟨i0, hi, hz0, hz1, hz2⟩ := info_parts info5
  have hel : Tryd.prog.elem 23 = 5 := by kernel_rfl
  have := run_slice_h (P := Tryd.prog) W 23 A n c (by rw [hel]; exact Tryd.underlying23) .i64 (e : Int) (by omega) (by omega)
  rw [this, hel]
  simp [sizeOf, typeInfo, hi, hz1, sliced, cutA]

theorem cut_block {A : Option Addr} {c k : Nat} {ad : Addr} (h : cutA A c k = some ad) : ∃ a0, A = some a0 ∧ a0.block = ad.block := by
  unfold cutA at h
  split at h
  · exact ⟨ad, h, rfl⟩
  · cases A with
    | none => simp at h
    | some a0 =>
      simp only [Option.map_some, Option.some.injEq] at h
      subst h
      refine ⟨a0, rfl, ?_⟩
      unfold Addr.add; split <;> rfl
theorem Rd.cut {w : World} {A : Option Addr} {n c k e : Nat} {l : List UInt8} (h : Rd w A n c l) (h1 : k ≤ e) (h2 : e ≤ n) : Rd w (cutA A c k) (e - k) (c - k) ((l.drop k).take (e - k)) := by
  have hl := h.len
  have hc := h.cap
  have hm := h.max
  refine ⟨by simp; omega, by omega, by omega, fun h0 => ?_⟩
  obtain ⟨b, off, rfl, hlt, hcell⟩ := h.at_ (by omega)
  refine ⟨b, off + k, ?_, hlt, fun j hj => ?_⟩
  · unfold cutA
    rw [if_neg (by omega)]
    simp only [Option.map_some, Addr.add]
    split
    · simp_all
    · rfl
  · rw [Nat.add_assoc, hcell (k + j) (by omega)]
    congr 2
    simp only [List.getD_eq_getElem?_getD, List.getElem?_take, List.getElem?_drop]
    rw [if_pos hj]
theorem Rd.cells {w : World} {b off n c : Nat} {l : List UInt8} (h : Rd w (some ⟨b, off, none⟩) n c l) : ∀ j v, (l.map cellOf)[j]? = some v → w.cell? ⟨b, off + j, none⟩ = some v := fun j v hv => by
  have hj : j < l.length := by simpa using (List.getElem?_eq_some_iff.1 hv).1
  obtain ⟨b', off', e, _, hc⟩ := h.at_ (by have := h.len; omega)
  simp only [Option.some.injEq, Addr.mk.injEq, and_true] at e
  obtain ⟨rfl, rfl⟩ := e
  rw [hc j (by have := h.len; omega), ← hv]
  simp [List.getD_eq_getElem?_getD, List.getElem?_eq_getElem hj]
/-- Bytes of a block that is known. -/
theorem Rd.of_block {w : World} {g off n c : Nat} {t : TypeId} {l : List UInt8} {cs : List Value} (hb : Blk w g t cs) (hl : l.length = n) (hn : n ≤ c) (hc : c ≤ maxLen) (h : ∀ j, j < n → cs[off + j]? = some (cellOf (l.getD j 0))) : Rd w (some ⟨g, off, none⟩) n c l :=
  ⟨hl, hn, hc, fun _ => ⟨g, off, rfl, hb.lt, fun j hj => by rw [hb.cell]; exact h j hj⟩⟩

/-- The slice value (A, n, c) reads as the lists ps of bytes. -/
structure RdP (w : World) (A : Option Addr) (n : Nat) (ps : List (List UInt8)) : Prop where
  len : ps.length = n
  at_ : ∀ j, j < n → ∃ b off A' n' c', A = some ⟨b, off, none⟩ ∧ b < w.heap.size ∧ w.cell? ⟨b, off + j, none⟩ = some (.slice A' n' c') ∧ Rd w A' n' c' (ps.getD j [])
theorem RdP.below {w w' : World} {A : Option Addr} {n : Nat} {ps : List (List UInt8)} (h : RdP w A n ps) (hb : Below w.heap.size w w') : RdP w' A n ps :=
  ⟨h.len, fun j hj => by
    obtain ⟨b, off, A', n', c', e, hlt, hc, hr⟩ := h.at_ j hj
    exact ⟨b, off, A', n', c', e, Nat.lt_of_lt_of_le hlt hb.size, (hb.cell (p := ⟨b, off + j, none⟩) hlt).trans hc, hr.below hb⟩⟩
/-- What can be read lies apart from a block that is not there yet. -/
theorem Rd.apart {w : World} {A : Option Addr} {n c g : Nat} {l : List UInt8} (h : Rd w A n c l) (hg : w.heap.size ≤ g) : 0 < n → ∀ ad, A = some ad → ad.block ≠ g := fun h0 ad had => by
  obtain ⟨b, off, e, hlt, _⟩ := h.at_ h0
  rw [had] at e
  injection e with e
  subst e
  show b ≠ g
  omega
end Go.Proofs.YtbepofmkfloajaaDoor
