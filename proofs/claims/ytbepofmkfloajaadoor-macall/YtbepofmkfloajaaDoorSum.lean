/- The contract of a state's Sum. -/
import Derived.Test.YtbepofmkfloajaaDoorFin2
namespace Go.Proofs.YtbepofmkfloajaaDoor
set_option linter.unusedVariables false
set_option linter.unusedSimpArgs false
open Go.RowKit

/-- The cells of a sum of which the first words stand. -/
def sumC (l : List Int) : List Value := (Sha.flat l).map cellOf ++ List.replicate (32 - 4 * l.length) (.int .u8 0)
theorem sumC_length (l : List Int) (h : l.length ≤ 8) : (sumC l).length = 32 := by simp [sumC, Sha.flat_length]; omega
theorem sumC_at (l : List Int) (j : Nat) (h1 : 4 * l.length ≤ j) (h2 : j < 32) : (sumC l)[j]? = some (.int .u8 0) := by
  unfold sumC
  rw [List.getElem?_append_right (by simp [Sha.flat_length]; omega)]
  exact List.getElem?_replicate_of_lt (by simp [Sha.flat_length]; omega)
theorem flat_append : ∀ (l : List Int) (x : Int), Sha.flat (l ++ [x]) = Sha.flat l ++ Sha.bytesOf x
  | [], x => rfl
  | y :: l, x => by simp only [List.cons_append, Sha.flat, flat_append l x]
theorem cell_by8 (x : Int) : cellOf (Sha.by8 x) = .int .u8 (x % 256) := by
  unfold cellOf Sha.by8
  congr 1
  simp
  omega
theorem sumC_set (l : List Int) (x : Int) (k : Nat) (hk : l.length = k) (h : k < 8) :
    ((((sumC l).set (4 * k) (cellOf (Sha.by8 (x / 16777216)))).set (4 * k + 1) (cellOf (Sha.by8 (x / 65536)))).set (4 * k + 2) (cellOf (Sha.by8 (x / 256)))).set (4 * k + 3) (cellOf (Sha.by8 x)) = sumC (l ++ [x]) := by
  unfold sumC
  rw [flat_append, hk, show 32 - 4 * k = (32 - 4 * (k + 1)) + 4 by omega, List.length_append, hk, List.length_singleton]
  have hl : ((Sha.flat l).map cellOf).length = 4 * k := by simp [Sha.flat_length, hk]
  rw [List.set_append_right _ _ (by omega), List.set_append_right _ _ (by omega), List.set_append_right _ _ (by omega), List.set_append_right _ _ (by omega)]
  rw [hl, Nat.sub_self, show 4 * k + 1 - 4 * k = 1 by omega, show 4 * k + 2 - 4 * k = 2 by omega, show 4 * k + 3 - 4 * k = 3 by omega]
  simp [List.replicate_succ, Sha.bytesOf]

set_option maxRecDepth 100000 in
set_option maxHeartbeats 1000000 in
theorem sum_any {w : World} {g : Nat} {m : List UInt8} (hg : Gl w) (hH : Holds w g m) (hb : m.length ≤ 549755813888) :
    Calls Tryd.prog 19 #[.pointer (some ⟨g, 0, none⟩)] w fun e w' => e = .returned (.agg ((Sha.sum m).map cellOf).toArray) ∧ Below w.heap.size w w' := by
  have HG := Lib.hid hg
  have hsz := hg.size
  obtain ⟨hs, bl, hB, h8, h64, htk, hab⟩ := hH
  have hglt := hB.lt
  obtain ⟨C, hC⟩ : ∃ C, C = stC hs bl m.length := ⟨_, rfl⟩
  rw [← hC] at hB
  have hz := zero54
  obtain ⟨Z, hZ⟩ : ∃ Z, Z = stC (List.replicate 8 0) (List.replicate 64 0) 0 := ⟨_, rfl⟩
  rw [← hZ] at hz
  have HI : Hid ((Tryd.prog.info? 54).map (·.size) = some C.length) := by unfold Hid; rw [hC, stC_length _ _ _ h8 h64]; kernel_rfl
  have HZL : Hid (Z.length = C.length) := by unfold Hid; rw [hZ, hC, stC_length _ _ _ h8 h64]; rfl
  have H1 : Hid (∀ v ∈ C, v.oneCell' = true) := by unfold Hid; rw [hC]; exact stC_one hs bl _
  have HB := Lib.hid hB
  have HC := Lib.hid hC
  have H8 := Lib.hid h8
  have H64 := Lib.hid h64
  have HTK := Lib.hid htk
  have HAB := Lib.hid hab
  clear hB hC h8 h64 htk hab hZ hg
  go_enter Tryd.func19, Tryd.ntmps19
  go_wp2_with (first
    | ((with_reducible refine load_law rfl 54 (.tmp 11) rfl g 0 rfl C _ Tryd.underlying54 rfl HI.out ?_ ?_); exact (HB.out.alloc _).cells)
    | ((with_reducible refine storeGen_law rfl 54 (.tmp 3) (.tmp 12) rfl (w.heap.size + 1) rfl C rfl 54 Z HI.out HZL.out H1.out (w.heap.size + 1) (w.alloc (.cells (List.replicate 32 (.int .u8 0)).toArray 30)) ?_ ?_ (Nat.le_refl _) ?_)
       · exact Blk.at_new _ _ 54 _ _ rfl (by simp)
       · exact (Below.refl _ _).alloc (by simp) _
       intro w1 B1 W1))
  have hw1 := W1.out.size
  simp at hw1
  have W1' : Hid (Below w.heap.size w w1) := (((Below.refl _ _).alloc (Nat.le_refl _) _).trans (W1.out.mono (by simp)))
  have HR30 : Hid (Blk w1 w.heap.size 30 (List.replicate 32 (.int .u8 0))) := (Blk.new w 30 _).below W1.out (by omega)
  have HG1 := Lib.hid (HG.out.below W1'.out HG.out.size)
  have HH1 : Hid (Holds w1 (w.heap.size + 1) m) := ⟨hs, bl, by rw [← HC.out]; exact B1.out, H8.out, H64.out, HTK.out, HAB.out⟩
  clear HB HC H8 H64 HTK HAB B1 hz HI HZL H1 W1
  refine (finish_any HG1.out (by omega) HH1.out hb).mono ?_
  rintro e w2 ⟨rfl, R2, O2⟩
  obtain ⟨bl2, hB2, hl2, _⟩ := R2
  obtain ⟨S, hS⟩ : ∃ S, S = Sha.absorb (m ++ Sha.tail m.length) := ⟨_, rfl⟩
  rw [← hS] at hB2
  have hS8 : S.length = 8 := by rw [hS]; exact Sha.absorb_length _
  have HSum : Hid (Sha.sum m = Sha.flat S) := by unfold Hid Sha.sum; rw [hS]
  obtain ⟨sc, hsc⟩ : ∃ sc, sc = S.map wd := ⟨_, rfl⟩
  have HR2 : Hid (Blk w2 w.heap.size 30 (List.replicate 32 (.int .u8 0))) := (O2.block _ HR30.out.lt (by simp)).trans HR30.out
  have W2 : Hid (Below w.heap.size w w2) := below_of_only W1'.out O2 (by omega) (by omega)
  have hw2 := O2.size
  have hI50 : (Tryd.prog.info? 50).map (·.size) = some sc.length := by rw [hsc, List.length_map, hS8]; kernel_rfl
  have HI50 := Lib.hid hI50
  have HS8 := Lib.hid hS8
  have HSC := Lib.hid hsc
  have HCS : Hid (∀ (o : Obj) j v, sc[j]? = some v → (w2.alloc o).cell? ⟨w.heap.size + 1, 0 + j, none⟩ = some v) := fun o j v hv => by
    rw [hsc] at hv
    rw [(hB2.alloc o).cell]
    exact stC_sums S _ _ hS8 j v hv
  clear hI50 hS8 hS hsc hB2 O2 HR30 HH1 HG1 W1'
  go_wp2_with (first
    | ((with_reducible refine load_law rfl 50 (.tmp 14) rfl (w.heap.size + 1) 0 rfl sc _ Tryd.underlying50 rfl HI50.out ?_ ?_); exact HCS.out _))
  clear HCS
  go_loopw [16] (fun i wr => ∃ k : Nat, k ≤ 8 ∧ i = .int .i64 k ∧ Hid (Blk wr w2.heap.size 30 (sumC (S.take k))) ∧ Hid (Below w2.heap.size w2 wr)) (fun i _ => 8 - (intOf i).toNat)
  case atStart => exact ⟨0, by omega, rfl, Blk.at_new _ _ 30 _ _ (by rfl) rfl, (Below.refl _ _).alloc (Nat.le_refl _) _⟩
  case round =>
    obtain ⟨k, hk, rfl, BK, BW⟩ := hrel
    by_cases hlt : k < 8
    · obtain ⟨x, hx⟩ : ∃ x, x = S.getD k 0 := ⟨_, rfl⟩
      have hix := run_index_one (P := Tryd.prog) wr 50 49 8 _ Tryd.underlying50 Tryd.underlying49 rfl (by kernel_rfl) sc k hlt (.int .u32 x) (by rw [HSC.out, hx]; exact wd_at S k (by rw [HS8.out]; exact hlt))
      have hlk : (S.take k).length = k := by rw [List.length_take, HS8.out]; omega
      have c0 : wr.cell? ⟨w2.heap.size, 4 * k, none⟩ = some (.int .u8 0) := by rw [BK.out.cell]; exact sumC_at _ _ (by omega) (by omega)
      have c1 : wr.cell? ⟨w2.heap.size, 4 * k + 1, none⟩ = some (.int .u8 0) := by rw [BK.out.cell]; exact sumC_at _ _ (by omega) (by omega)
      have c2 : wr.cell? ⟨w2.heap.size, 4 * k + 2, none⟩ = some (.int .u8 0) := by rw [BK.out.cell]; exact sumC_at _ _ (by omega) (by omega)
      have c3 : wr.cell? ⟨w2.heap.size, 4 * k + 3, none⟩ = some (.int .u8 0) := by rw [BK.out.cell]; exact sumC_at _ _ (by omega) (by omega)
      have f0 : wr.frozen? ⟨w2.heap.size, 4 * k, none⟩ = false := BK.out.frozen _
      have f1 : wr.frozen? ⟨w2.heap.size, 4 * k + 1, none⟩ = false := BK.out.frozen _
      have f2 : wr.frozen? ⟨w2.heap.size, 4 * k + 2, none⟩ = false := BK.out.frozen _
      have f3 : wr.frozen? ⟨w2.heap.size, 4 * k + 3, none⟩ = false := BK.out.frozen _
      have HBN : Hid (Blk ((((wr.setCell ⟨w2.heap.size, 4 * k, none⟩ (.int .u8 (x / 16777216 % 256))).setCell ⟨w2.heap.size, 4 * k + 1, none⟩ (.int .u8 (x / 65536 % 256))).setCell ⟨w2.heap.size, 4 * k + 2, none⟩ (.int .u8 (x / 256 % 256))).setCell ⟨w2.heap.size, 4 * k + 3, none⟩ (.int .u8 (x % 256))) w2.heap.size 30 (sumC (S.take (k + 1)))) := by
        have := (((BK.out.set_ (4 * k) (cellOf (Sha.by8 (x / 16777216)))).set_ (4 * k + 1) (cellOf (Sha.by8 (x / 65536)))).set_ (4 * k + 2) (cellOf (Sha.by8 (x / 256)))).set_ (4 * k + 3) (cellOf (Sha.by8 x))
        rw [sumC_set _ x k hlk hlt] at this
        simp only [cell_by8] at this
        have e : S.take (k + 1) = S.take k ++ [x] := by
          rw [List.take_succ_eq_append_getElem (by rw [HS8.out]; exact hlt), hx]
          simp [List.getD_eq_getElem?_getD, HS8.out, hlt]
        rw [e]
        exact this
      clear hx hlk
      go_wp2_with fail
      go_roundw
      case rel => exact ⟨k + 1, by omega, by go_num, HBN, (((BW.out.setCell (Nat.le_refl _) _).setCell (Nat.le_refl _) _).setCell (Nat.le_refl _) _).setCell (Nat.le_refl _) _⟩
      case measure => simp [intOf]; omega
    · obtain rfl : k = 8 := by omega
      obtain ⟨D, hD⟩ : ∃ D, D = (Sha.flat S).map cellOf := ⟨_, rfl⟩
      have hBD : Blk wr w2.heap.size 30 D := by
        have := BK.out
        rw [List.take_of_length_le (by rw [HS8.out]; omega)] at this
        unfold sumC at this
        rw [HS8.out] at this
        simpa [hD] using this
      have hDl : D.length = 32 := by rw [hD, List.length_map, Sha.flat_length, HS8.out]
      have HI30 : Hid ((Tryd.prog.info? 30).map (·.size) = some D.length) := by unfold Hid; rw [hDl]; kernel_rfl
      have HZ3 : Hid ((List.replicate 32 (Value.int .u8 0)).length = D.length) := by unfold Hid; rw [hDl]; rfl
      have H13 : Hid (∀ v ∈ D, v.oneCell' = true) := by unfold Hid; rw [hD]; exact cells_u8 _
      have HBD := Lib.hid hBD
      have HD := Lib.hid hD
      have HR3 : Hid (Blk wr w.heap.size 30 (List.replicate 32 (.int .u8 0))) := HR2.out.below BW.out (by omega)
      have W3 : Hid (Below w.heap.size w wr) := W2.out.trans (BW.out.mono (by omega))
      clear hBD hDl hD BK
      go_wp2_with (first
        | ((with_reducible refine load_law rfl 30 (.tmp 4) rfl w2.heap.size 0 rfl D _ Tryd.underlying30 rfl HI30.out HBD.out.cells ?_))
        | ((with_reducible refine storeGen_law rfl 30 (.tmp 2) (.tmp 47) rfl w.heap.size rfl D rfl 30 (List.replicate 32 (.int .u8 0)) HI30.out HZ3.out H13.out w.heap.size w HR3.out W3.out (Nat.le_refl _) ?_); intro w4 B4 W4))
      refine bodyPost_ret (results_cell_row rfl _ _ w.heap.size 30 D.toArray (0, 0) _ rfl B4.out Tryd.underlying30 rfl (by rw [HI30.out]; simp)) rfl ⟨?_, W4.out⟩
      rw [HSum.out, HD.out]
end Go.Proofs.YtbepofmkfloajaaDoor
