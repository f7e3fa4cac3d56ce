/- The contract of package sha's Sum. -/
import Derived.Test.YtbepofmkfloajaaDoorSum
namespace Go.Proofs.YtbepofmkfloajaaDoor
set_option linter.unusedVariables false
set_option linter.unusedSimpArgs false
open Go.RowKit

theorem flat_take (ps : List (List UInt8)) (k : Nat) (h : k < ps.length) : (ps.take (k + 1)).flatten = (ps.take k).flatten ++ ps.getD k [] := by
  rw [List.take_succ_eq_append_getElem h, List.flatten_append, List.getD_eq_getElem?_getD, List.getElem?_eq_getElem h]
  simp only [List.flatten_cons, List.flatten_nil, List.append_nil, Option.getD_some]
theorem flat_len_take (ps : List (List UInt8)) (k : Nat) : (ps.take k).flatten.length ≤ ps.flatten.length := by
  have := congrArg (fun l => l.flatten.length) (List.take_append_drop k ps)
  simp only [List.flatten_append, List.length_append] at this
  omega

/-- A new state, its block a letter. -/
theorem new_ex (w : World) : Calls Tryd.prog 17 #[] w fun e w' => ∃ g, e = .returned (.pointer (some ⟨g, 0, none⟩)) ∧ w.heap.size ≤ g ∧ Holds w' g [] ∧ Below w.heap.size w w' :=
  (new_any w).mono fun _ _ ⟨h1, h2, h3⟩ => ⟨_, h1, Nat.le_refl _, h2, h3⟩
theorem copy_ex {w : World} {g : Nat} {m : List UInt8} (h : Holds w g m) : Calls Tryd.prog 21 #[.pointer (some ⟨g, 0, none⟩)] w fun e w' => ∃ g', e = .returned (.pointer (some ⟨g', 0, none⟩)) ∧ w.heap.size ≤ g' ∧ Holds w' g' m ∧ Below w.heap.size w w' :=
  (copy_any h).mono fun _ _ ⟨h1, h2, h3⟩ => ⟨_, h1, Nat.le_refl _, h2, h3⟩
/-- A sum, its cells a letter. -/
def Summed (m : List UInt8) (D : List Value) : Prop := D = (Sha.sum m).map cellOf
theorem Summed.len {m : List UInt8} {D : List Value} (h : Summed m D) : D.length = 32 := by rw [h, List.length_map, Sha.sum_length]
theorem Summed.one {m : List UInt8} {D : List Value} (h : Summed m D) : ∀ v ∈ D, v.oneCell' = true := by rw [h]; exact cells_u8 _
theorem Summed.info {m : List UInt8} {D : List Value} (h : Summed m D) : (Tryd.prog.info? 30).map (·.size) = some D.length := by rw [h.len]; kernel_rfl
theorem sum_ex {w : World} {g : Nat} {m : List UInt8} (hg : Gl w) (hH : Holds w g m) (hb : m.length ≤ 549755813888) :
    Calls Tryd.prog 19 #[.pointer (some ⟨g, 0, none⟩)] w fun e w' => ∃ D, e = .returned (.agg D.toArray) ∧ Summed m D ∧ Below w.heap.size w w' :=
  (sum_any hg hH hb).mono fun _ _ ⟨h1, h2⟩ => ⟨_, h1, rfl, h2⟩

set_option maxRecDepth 100000 in
set_option maxHeartbeats 1000000 in
theorem shaSum_any {w : World} {A : Option Addr} {n c : Nat} {ps : List (List UInt8)} (hg : Gl w) (hr : RdP w A n ps) (hn : n ≤ 1000000) (hb : ps.flatten.length ≤ 549755813888) :
    Calls Tryd.prog 22 #[.slice A n c] w fun e w' => ∃ D, e = .returned (.agg D.toArray) ∧ Summed ps.flatten D ∧ Below w.heap.size w w' := by
  have HG := Lib.hid hg
  have hsz := hg.size
  have HR := Lib.hid hr
  clear hg hr
  go_enter Tryd.func22, Tryd.ntmps22
  go_wp2_with fail
  refine (new_ex _).mono ?_
  rintro e w1 ⟨gs, rfl, hgs, hH1, hW1⟩
  have hw1 := hW1.size
  simp at hw1 hgs
  have W1 : Hid (Below w.heap.size w w1) := ((Below.refl _ _).alloc (Nat.le_refl _) _).trans (hW1.mono (by simp))
  have HR30 : Hid (Blk w1 w.heap.size 30 (List.replicate 32 (.int .u8 0))) := (Blk.new w 30 _).below hW1 (by simp)
  have HH1 : Hid (Holds w1 gs []) := hH1
  have HP : Hid (RdP w1 A n ps) := HR.out.below W1.out
  have HG1 := Lib.hid (HG.out.below W1.out HG.out.size)
  clear hH1 hW1
  go_wp2_with fail
  go_loopw [9] (fun i wr => ∃ k : Nat, k ≤ n ∧ i = .int .i64 k ∧ Hid (Holds wr gs (ps.take k).flatten) ∧ Hid (w1.grownBy wr (some gs))) (fun i _ => n - (intOf i).toNat)
  case atStart => exact ⟨0, by omega, rfl, HH1, only_refl _ _⟩
  case round =>
    clear HH1
    obtain ⟨k, hk, rfl, HH, HO⟩ := hrel
    have HGr := Lib.hid (HG1.out.only HO.out (by omega))
    by_cases hlt : k < n
    · obtain ⟨b, off, A', n', c', rfl, hblt, hcell, hrd⟩ := HR.out.at_ k hlt
      have c0 : wr.cell? ⟨b, off + k, none⟩ = some (.slice A' n' c') := by
        have h1 := W1.out.cell (p := ⟨b, off + k, none⟩) hblt
        have h2 : wr.heap[b]? = w1.heap[b]? := HO.out.block b (by omega) (by simp; omega)
        rw [World.cell?_of_block (a := ⟨b, off + k, none⟩) h2, h1, hcell]
      have HRd : Hid (Rd wr A' n' c' (ps.getD k [])) := (hrd.below W1.out).grown HO.out (hrd.apart (by omega))
      have HAp := Lib.hid (hrd.apart (g := gs) (by omega))
      have HF := Lib.hid (flat_take ps k (by rw [HR.out.len]; exact hlt))
      have hfl := flat_len_take ps (k + 1)
      rw [HF.out, List.length_append] at hfl
      have HFl := Lib.hid hfl
      clear hfl hcell hrd
      go_wp2_with fail
      refine (write_any HGr.out (by omega) HH.out HRd.out HAp.out (by have := HFl.out; omega)).mono ?_
      rintro e w2 ⟨rfl, R2, O2⟩
      have HH2 : Hid (Holds w2 gs (ps.take (k + 1)).flatten) := by unfold Hid; rw [HF.out]; exact R2.holds
      have HO2 := Lib.hid (only_trans HO.out O2)
      clear R2 O2
      go_wp2_with fail
      go_roundw
      case rel => exact ⟨k + 1, by omega, by go_num, HH2, HO2⟩
      case measure => simp [intOf]; omega
    · have hkn : k = n := by omega
      have HH2 : Hid (Holds wr gs ps.flatten) := by
        have := HH.out
        rw [List.take_of_length_le (by rw [HR.out.len]; omega)] at this
        exact this
      have hwr := HO.out.size
      have HRr : Hid (Blk wr w.heap.size 30 (List.replicate 32 (.int .u8 0))) := (HO.out.block _ HR30.out.lt (by simp; omega)).trans HR30.out
      have Wr : Hid (Below w.heap.size w wr) := below_of_only W1.out HO.out (by omega) (by omega)
      clear hkn HH HR30
      go_wp2_with fail
      refine (sum_ex HGr.out HH2.out hb).mono ?_
      rintro e w2 ⟨D, rfl, hS, hW2⟩
      have HS := Lib.hid hS
      have HI := Lib.hid hS.info
      have HL : Hid ((List.replicate 32 (Value.int .u8 0)).length = D.length) := by unfold Hid; rw [hS.len]; rfl
      have H1 := Lib.hid hS.one
      have HR2 : Hid (Blk w2 w.heap.size 30 (List.replicate 32 (.int .u8 0))) := HRr.out.below hW2 HRr.out.lt
      have W2 : Hid (Below w.heap.size w w2) := Wr.out.trans (hW2.mono (by omega))
      clear hS hW2 HRr Wr
      go_wp2_with (first
        | ((with_reducible refine storeGen_law rfl 30 (.tmp 2) (.tmp 18) rfl w.heap.size rfl D rfl 30 (List.replicate 32 (.int .u8 0)) HI.out HL.out H1.out w.heap.size w HR2.out W2.out (Nat.le_refl _) ?_); intro w4 B4 W4))
      exact bodyPost_ret (results_cell_row rfl _ _ w.heap.size 30 D.toArray (0, 0) _ rfl B4.out Tryd.underlying30 rfl (by rw [HI.out]; simp)) rfl ⟨D, rfl, HS.out, W4.out⟩
end Go.Proofs.YtbepofmkfloajaaDoor
