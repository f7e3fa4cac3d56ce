/- A slice of operations that came in, as the law BoxIdeal reads it. -/
import Derived.Test.YtpbfeobifpmjbaaDoorBoxIdeal
import Derived.Deep.Slices
import Derived.ChangeSame
import Derived.OpenShut
namespace Go.Proofs.YtpbfeobifpmjbaaDoor.boxIdeal
set_option linter.unusedVariables false
set_option linter.unusedSimpArgs false
set_option maxRecDepth 100000
open Go.ChangeShapes Go.WideShapes Go.ChangeAt Go.RowKit

theorem one_of {cs : List Value} {j : Nat} (h : j < cs.length) : (cs.drop j).take 1 = [cs[j]] := by
  rw [List.drop_eq_getElem_cons h]
  rfl
theorem cOp : Tryd.prog.cellsOf 31 = 7 := by kernel_rfl
theorem cBy : Tryd.prog.cellsOf 28 = 1 := by kernel_rfl
theorem byte_wf {n : Int} (h : (Lit.int .u8 n).wf = true) : ∃ x : UInt8, n = (x.toNat : Int) := by
  have hb : 0 ≤ n ∧ n ≤ 255 := by simpa [Lit.wf, IntKind.min, IntKind.max, IntKind.signed, IntKind.bits] using h
  refine ⟨UInt8.ofNat n.toNat, ?_⟩
  rw [UInt8.toNat_ofNat']
  omega
theorem bytes_in {H : Type} {enc : TypeId × Value → H} {w : World} {n : Nat} {v : Value} {y : DataW H × List MemPlace} (h : DataW.trod enc Tryd.prog w 0 (fun _ => true) true n 28 [v] = some y) : ∃ A k c l, v = .slice A k c ∧ Rd w A k c l := by
  rcases open_ints Tryd.underlying28 Tryd.underlying5 (by kernel_rfl) h with ⟨hcs, _⟩ | ⟨x, l, c, zs, hcs, _, hl, hm, hz, _, hcell, hwz⟩
  · simp only [List.cons.injEq, and_true] at hcs
    obtain ⟨r, hr⟩ := rd_came (w := w) (zs := []) (.inl ⟨rfl, rfl, rfl, rfl⟩)
    exact ⟨none, 0, 0, r, hcs, hr⟩
  · simp only [List.cons.injEq, and_true] at hcs
    obtain ⟨r, hr⟩ := rd_came (w := w) (.inr ⟨x, rfl, hl, hm, by simpa using hz, hcell, hwz⟩)
    exact ⟨some x, l, c, r, hcs, hr⟩
theorem ops_in {H : Type} {enc : TypeId × Value → H} {w : World} {fuel : Nat} {A : Option Addr} {n c : Nat} {x : DataW H × List MemPlace} (h : DataW.trod enc Tryd.prog w 0 (fun _ => true) true fuel 22 [.slice A n c] = some x) : RdO w A n ∧ n ≤ maxLen := by
  rcases Go.Deep.open_slice Tryd.underlying22 h with ⟨hcs, _⟩ | ⟨a, len, cap, m, nf, D, Pl, hcs, hb, hl, hm, hmm, hx, hi⟩
  · simp only [List.cons.injEq, and_true, Value.slice.injEq] at hcs
    obtain ⟨rfl, rfl, rfl⟩ := hcs
    exact ⟨fun j hj => by omega, by unfold maxLen; omega⟩
  · simp only [List.cons.injEq, and_true, Value.slice.injEq] at hcs
    obtain ⟨rfl, rfl, rfl⟩ := hcs
    refine ⟨fun j hj => ?_, Nat.le_trans hl hm⟩
    have hmc : m = c := by simpa using hmm
    rw [cOp] at hi
    obtain ⟨b, off, spot⟩ := a
    have hspot : spot = none := by
      obtain ⟨cs0, hc0, _⟩ := hi 0 (by omega)
      obtain ⟨_, hl0, hat0⟩ := World.cells?_some hc0
      have h0 := hat0 0 (by omega)
      rw [List.getElem?_eq_getElem (show 0 < cs0.length by omega)] at h0
      simpa [Addr.add] using World.cell?_spot h0
    subst hspot
    obtain ⟨cs', hc', ht'⟩ := hi j (by omega)
    obtain ⟨_, hcl, hat⟩ := World.cells?_some hc'
    obtain ⟨xs, n', _, _, hlen, hxl, hf⟩ := DataW.trod_struct Tryd.underlying31 ht'
    have hxs : xs.length = 7 := hxl
    have cell : ∀ i (hi : i < 7), w.cell? ⟨b, off + j * 7 + i, none⟩ = some (cs'[i]'(by omega)) := fun i hi => by
      have := hat i hi
      rw [Go.Proofs.YtpbfeobifpmjbaaDoor.add_plain, Go.Proofs.YtpbfeobifpmjbaaDoor.add_plain, List.getElem?_eq_getElem (show i < cs'.length by omega)] at this
      exact this
    have f2 : DataW.trod enc Tryd.prog w 0 (fun _ => true) true n' 5 ((cs'.drop 2).take (Tryd.prog.cellsOf 5)) = xs[2]? := hf 2 _ rfl
    have f4 : DataW.trod enc Tryd.prog w 0 (fun _ => true) true n' 28 ((cs'.drop 4).take (Tryd.prog.cellsOf 28)) = xs[4]? := hf 4 _ rfl
    have f5 : DataW.trod enc Tryd.prog w 0 (fun _ => true) true n' 28 ((cs'.drop 5).take (Tryd.prog.cellsOf 28)) = xs[5]? := hf 5 _ rfl
    rw [c5] at f2
    rw [cBy] at f4 f5
    rw [one_of (show 2 < cs'.length by omega), List.getElem?_eq_getElem (show 2 < xs.length by omega)] at f2
    rw [one_of (show 4 < cs'.length by omega), List.getElem?_eq_getElem (show 4 < xs.length by omega)] at f4
    rw [one_of (show 5 < cs'.length by omega), List.getElem?_eq_getElem (show 5 < xs.length by omega)] at f5
    obtain ⟨z, hz, _, hzw⟩ := DataW.trod_int Tryd.underlying5 f2
    obtain ⟨x0, rfl⟩ := byte_wf hzw
    simp only [List.cons.injEq, and_true] at hz
    obtain ⟨Aa, na, ca, ad, ha, hra⟩ := bytes_in f4
    obtain ⟨Ab, nb, cb, bb, hbv, hrb⟩ := bytes_in f5
    refine ⟨b, off, x0, Aa, na, ca, ad, Ab, nb, cb, bb, rfl, World.block_lt_of_cell? w ⟨b, off + j * 7 + 2, none⟩ (cell 2 (by omega)), ?_, ?_, hra, ?_, hrb⟩
    · rw [cell 2 (by omega), hz]
    · rw [cell 4 (by omega), ha]
    · rw [cell 5 (by omega), hbv]
end Go.Proofs.YtpbfeobifpmjbaaDoor.boxIdeal
