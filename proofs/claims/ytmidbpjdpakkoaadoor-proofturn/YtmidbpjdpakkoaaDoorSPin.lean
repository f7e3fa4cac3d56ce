import Derived.Lib.SmallJoins
import Derived.OpenShut
import Derived.Deep.Grids
import Derived.RowKit
import Derived.Test.YtmidbpjdpakkoaaDoorSTgr
namespace Go.Proofs.YtmidbpjdpakkoaaDoor
set_option linter.unusedVariables false
set_option linter.unusedSimpArgs false
set_option maxRecDepth 100000
open Go.Joins Go.ChangeShapes Go.WideShapes Go.RowKit
def toU8 : Value → UInt8
  | .int _ n => UInt8.ofNat n.toNat
  | _ => 0
theorem u8s_in {H : Type} {enc : TypeId × Value → H} {w : World} {b0 : Nat} {sp : Nat → Bool} {held : Bool} {fuel : Nat} {cs : List Value} {y : DataW H × List MemPlace} (h : DataW.trod enc Tryd.prog w b0 sp held fuel 30 cs = some y) : ∃ l : List UInt8, l.length = 32 ∧ cs = l.map cellOf := by
  obtain ⟨xs, m, _, _, hl, hlen, hx⟩ := DataW.trod_array Tryd.underlying30 h
  have hl : cs.length = 32 := hl.trans (by kernel_rfl)
  have hc1 : Tryd.prog.cellsOf 5 = 1 := by kernel_rfl
  rw [hc1] at hx
  refine ⟨cs.map toU8, by simpa using hl, ?_⟩
  apply List.ext_getElem (by simp)
  intro i h1 h2
  have hxi := hx i (by omega)
  rw [List.getElem?_eq_getElem (by omega)] at hxi
  obtain ⟨a, ea, _, wa⟩ := DataW.trod_int Tryd.underlying5 hxi
  rw [Nat.mul_one, List.drop_eq_getElem_cons h1] at ea
  have ea : cs[i] = .int .u8 a := (List.cons.inj ea).1
  have hb : 0 ≤ a ∧ a ≤ 255 := by simpa [Lit.wf, IntKind.min, IntKind.max, IntKind.signed, IntKind.bits] using wa
  rw [List.getElem_map, List.getElem_map, ea]
  show Value.int .u8 a = .int .u8 (((UInt8.ofNat a.toNat).toNat : Nat) : Int)
  rw [UInt8.toNat_ofNat']
  congr 1
  omega
theorem hashes_in {H : Type} {enc : TypeId × Value → H} {w : World} {fuel : Nat} {cs : List Value} {y : DataW H × List MemPlace} (h : DataW.trod enc Tryd.prog w 0 (fun _ => true) true fuel 36 cs = some y) : ∃ A n c l, cs = [.slice A n c] ∧ Rd2 w 32 A n c (hashes l) ∧ ∀ x ∈ l, x.length = 32 := by
  rcases DataW.trod_slice Tryd.underlying36 h with ⟨hcs, _⟩ | ⟨a, len, cap, elems, rest, n', _, hcs, _, _, hlc, hcm, hel, hat, _, _⟩
  · exact ⟨none, 0, 0, [], hcs, Rd2.nil w 32, by simp⟩
  have hc32 : Tryd.prog.cellsOf 30 = 32 := by kernel_rfl
  rw [hc32] at hat
  have each : ∀ i, i < len → ∃ l : List UInt8, l.length = 32 ∧ ∀ j v, (l.map cellOf)[j]? = some v → w.cell? ((a.add (i * 32)).add j) = some v := fun i hi => by
    have hi' := hat i hi
    rw [List.getElem?_eq_getElem (by omega)] at hi'
    obtain ⟨ks, hks, ht⟩ := Option.bind_eq_some_iff.1 hi'
    obtain ⟨l, hl, rfl⟩ := u8s_in ht
    obtain ⟨_, _, hr⟩ := World.cells?_some hks
    refine ⟨l, hl, fun j v hv => ?_⟩
    rw [hr j (by have := (List.getElem?_eq_some_iff.1 hv).1; simpa [hl] using this)]
    exact hv
  obtain ⟨L, hL⟩ := Go.Deep.choose_lt each
  refine ⟨some a, len, cap, (List.range len).map L, hcs, ⟨by simp [hashes], hlc, hcm, fun h0 => ?_⟩, fun x hx => ?_⟩
  · obtain ⟨b, off, spot⟩ := a
    have h00 := (hL 0 h0)
    obtain ⟨v0, hv0⟩ : ∃ v, ((L 0).map cellOf)[0]? = some v := ⟨_, List.getElem?_eq_getElem (by rw [List.length_map, h00.1]; omega)⟩
    have hc := h00.2 0 v0 hv0
    have hspot : spot = none := by simpa [Addr.add] using World.cell?_spot hc
    subst hspot
    rw [add_plain, add_plain] at hc
    refine ⟨b, off, rfl, World.block_lt_of_cell? w _ hc, fun j hj i x hx => ?_⟩
    have e : (hashes ((List.range len).map L)).getD j [] = (L j).map cellOf := by
      unfold hashes
      rw [List.getD_eq_getElem?_getD, List.getElem?_map, List.getElem?_map, List.getElem?_range hj]; rfl
    rw [e] at hx
    have := (hL j hj).2 i x hx
    rwa [add_plain, add_plain] at this
  · obtain ⟨i, hi, rfl⟩ := List.mem_map.1 hx
    exact (hL i (List.mem_range.1 hi)).1
theorem proof_in {H : Type} {enc : TypeId × Value → H} {W : World} {r : Reach} {b0 : Nat} {v : Value} {d : DataW H} {p : List MemPlace} (hv : Value.okWide Tryd.prog W r b0 38 v) (h : DataW.Trod enc Tryd.prog W 0 (fun _ => true) true 38 v d p) :
    ∃ (A : Option Addr) (n c : Nat) (q : Tm.Prf), v = .agg (proofL (.slice A n c) q.has (q.lab.map cellOf) (q.sum.map cellOf)).toArray ∧ Rd2 W 32 A n c (hashes q.sides) ∧ q.lab.length = 32 ∧ q.sum.length = 32 ∧ ∀ x ∈ q.sides, x.length = 32 := by
  obtain ⟨cs, rfl, hsz⟩ := okWide_struct Tryd.underlying38 hv
  obtain ⟨fuel, hf⟩ := h
  obtain ⟨y0, y1, y2, y3, n, _, hl, h0, h1, h2, h3⟩ := trod_struct4 Tryd.underlying38 hf
  have hc1 : Tryd.prog.cellsOf 36 = 1 := by kernel_rfl
  have hc2 : Tryd.prog.cellsOf 4 = 1 := by kernel_rfl
  have hc3 : Tryd.prog.cellsOf 30 = 32 := by kernel_rfl
  have hl : cs.toList.length = 66 := hl.trans (by kernel_rfl)
  simp only [hc1, hc2, hc3, Value.cells] at h0 h1 h2 h3
  obtain ⟨A, m, c, l, e0, hR, hE⟩ := hashes_in h0
  obtain ⟨g, e1, _⟩ := DataW.trod_bool Tryd.underlying4 h1
  obtain ⟨lab, hlab, e2⟩ := u8s_in h2
  obtain ⟨sum, hsum, e3⟩ := u8s_in h3
  refine ⟨A, m, c, ⟨l, g, lab, sum⟩, ?_, hR, hlab, hsum, hE⟩
  have hcs : cs.toList = proofL (.slice A m c) g (lab.map cellOf) (sum.map cellOf) := by
    generalize cs.toList = L at *
    rw [proofL, ← e2, ← e3]
    match L, hl with
    | a :: b :: L, hl =>
      simp at e0 e1
      rw [e0, e1]
      have hl' : L.length = 64 := by simpa using hl
      show _ = _ :: _ :: (L.take 32 ++ ((_ :: _ :: L).drop 34).take 32)
      rw [show ((Value.slice A m c :: Value.bool g :: L).drop 34) = L.drop 32 from rfl, List.take_of_length_le (l := L.drop 32) (by simp; omega), List.take_append_drop]
  rw [← hcs, Array.toArray_toList]
theorem rdz_came {w : World} {A : Option Addr} {len cap : Nat} {zs : List Int} (h : (A = none ∧ len = 0 ∧ cap = 0 ∧ zs = []) ∨ ∃ a, A = some a ∧ len ≤ cap ∧ cap ≤ maxLen ∧ zs.length = cap ∧ (∀ c, c < zs.length → w.cell? (a.add c) = some (.int .i64 (zs.getD c 0))) ∧ ∀ n ∈ zs, (Lit.int .i64 n).wf = true) :
    ∃ l, RdZ w A len cap l := by
  rcases h with ⟨rfl, rfl, rfl, rfl⟩ | ⟨a, rfl, hl, hm, hz, hcell, hwz⟩
  · exact ⟨[], rfl, Nat.le_refl _, by unfold maxLen; omega, by simp, fun h => by omega⟩
  · refine ⟨zs.take len, by rw [List.length_take]; omega, hl, hm, fun z hz' => ?_, fun h0 => ?_⟩
    · simpa [Lit.wf, IntKind.min, IntKind.max, IntKind.signed, IntKind.bits] using hwz z (List.mem_of_mem_take hz')
    · obtain ⟨b, off, spot⟩ := a
      have hc := hcell 0 (by omega)
      have hspot : spot = none := by simpa [Addr.add] using World.cell?_spot hc
      subst hspot
      rw [add_plain] at hc
      refine ⟨b, off, rfl, World.block_lt_of_cell? w _ hc, fun j hj => ?_⟩
      have := hcell j (by omega)
      rw [add_plain] at this
      rw [this]
      rw [List.getD_eq_getElem?_getD, List.getD_eq_getElem?_getD, List.getElem?_take, if_pos hj]
end Go.Proofs.YtmidbpjdpakkoaaDoor
