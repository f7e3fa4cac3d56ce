/- Small things for the statements' own texts. -/
import Derived.Test.YtbepofmkfloajaaDoorEq
import Derived.Test.YtbepofmkfloajaaDoorRefSum
import Derived.OpenShut
import Derived.ChangeOld
import Derived.Below
namespace Go.Proofs.YtbepofmkfloajaaDoor
set_option linter.unusedVariables false
set_option linter.unusedSimpArgs false
open Go.RowKit

theorem outC_set (l : List UInt8) (n k : Nat) (y : UInt8) (hk : l.length = k) (h : k < n) : (outC l n).set k (cellOf y) = outC (l ++ [y]) n := by
  unfold outC
  rw [List.take_of_length_le (by omega), List.take_of_length_le (by simp; omega), List.set_append_right _ _ (by simp; omega), hk, show n - k = (n - (k + 1)) + 1 by omega, List.replicate_succ]
  simp [hk]
theorem outC_at (l : List UInt8) (n k : Nat) (hk : l.length = k) (h : k < n) : (outC l n)[k]? = some (.int .u8 0) := by
  unfold outC
  rw [List.take_of_length_le (by omega), List.getElem?_append_right (by simp; omega)]
  simp only [List.length_map, hk, Nat.sub_self]
  exact List.getElem?_replicate_of_lt (by omega)
theorem outC_put {w : World} {g n k : Nat} {t : TypeId} {l : List UInt8} (hb : Blk w g t (outC l n)) (hk : l.length = k) (h : k < n) (z : Int) : Blk (w.setCell ⟨g, k, none⟩ (.int .u8 (z % 256))) g t (outC (l ++ [Sha.by8 z]) n) := by
  have := hb.set_ k (cellOf (Sha.by8 z))
  rw [outC_set l n k _ hk h, cell_by8] at this
  exact this
theorem outC_rd {w : World} {g n : Nat} {t : TypeId} {l : List UInt8} (hb : Blk w g t (outC l n)) (hl : l.length = n) (hm : n ≤ 1000000) : Rd w (some ⟨g, 0, none⟩) n n l :=
  Rd.of_block hb hl (Nat.le_refl _) (by unfold maxLen; omega) (fun j hj => by
    have hj' : j < l.length := by omega
    rw [out_end l n (by omega), List.take_of_length_le (by omega)]
    simp [List.getD_eq_getElem?_getD, List.getElem?_eq_getElem hj'])
theorem three (l : List UInt8) (k : Nat) : [l.take k, [], l.drop k].flatten = l := by simp
theorem laidOut : laidOutB Tryd.prog = true := by kernel_rfl

theorem rd_came {w : World} {a : Option Addr} {len cap : Nat} {zs : List Int} (h : (a = none ∧ len = 0 ∧ cap = 0 ∧ zs = []) ∨
    ∃ x, a = some x ∧ len ≤ cap ∧ cap ≤ maxLen ∧ zs.length = cap ∧ (∀ i, i < zs.length → w.cell? (x.add i) = some (.int .u8 (zs.getD i 0))) ∧ ∀ n ∈ zs, (Lit.int .u8 n).wf = true) :
    ∃ l, Rd w a len cap l := by
  rcases h with ⟨rfl, rfl, rfl, rfl⟩ | ⟨x, rfl, hlc, hcm, hz, hcell, hwf⟩
  · exact ⟨[], Rd.nil w none 0 (by unfold maxLen; omega)⟩
  · refine ⟨(zs.take len).map fun n => UInt8.ofNat n.toNat, by simp; omega, hlc, hcm, fun h0 => ?_⟩
    obtain ⟨b, off, rfl, hc⟩ := ints_at hcell (by omega)
    refine ⟨b, off, rfl, World.block_lt_of_cell? w ⟨b, off, none⟩ (by simpa using hc 0 (by omega)), fun j hj => ?_⟩
    have hjz : j < zs.length := by omega
    have hb := bounds_u8 (hwf zs[j] (List.getElem_mem hjz))
    rw [hc j hjz]
    simp only [cellOf, List.getD_eq_getElem?_getD, List.getElem?_map, List.getElem?_take, if_pos hj, List.getElem?_eq_getElem hjz, Option.map_some, Option.getD_some]
    congr 2
    simp
    omega
end Go.Proofs.YtbepofmkfloajaaDoor
