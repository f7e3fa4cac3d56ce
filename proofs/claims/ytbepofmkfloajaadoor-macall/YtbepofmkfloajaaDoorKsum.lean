/- The contract of keyed's sum. -/
import Derived.Test.YtbepofmkfloajaaDoorMasked
namespace Go.Proofs.YtbepofmkfloajaaDoor
set_option linter.unusedVariables false
set_option linter.unusedSimpArgs false
open Go.RowKit

set_option maxRecDepth 100000 in
set_option maxHeartbeats 2000000 in
theorem ksum_any {w : World} {A : Option Addr} {n c gi go : Nat} {mi mo : List UInt8} {ps : List (List UInt8)} (hg : Gl w) (hi : Holds w gi mi) (ho : Holds w go mo) (hr : RdP w A n ps) (hn : n ≤ 1000000) (hb : mi.length + ps.flatten.length ≤ 549755813888) (hbo : mo.length ≤ 549755813000) :
    Calls Tryd.prog 35 #[.agg #[.pointer (some ⟨gi, 0, none⟩), .pointer (some ⟨go, 0, none⟩)], .slice A n c] w fun e w' => ∃ D, e = .returned (.agg D.toArray) ∧ Summed (mo ++ Sha.sum (mi ++ ps.flatten)) D ∧ Below w.heap.size w w' := by
  have HG := Lib.hid hg
  have hsz := hg.size
  have HR := Lib.hid hr
  have HHi := Lib.hid hi
  have HHo := Lib.hid ho
  have hgi := hi.lt
  have hgo := ho.lt
  clear hg hr hi ho
  go_enter Tryd.func35, Tryd.ntmps35
  go_wp2_with fail
  refine wp_region_any (by kernel_rfl) ?_
  change wpAny _ _ _ _ _ _ _ (World.drew _)
  obtain ⟨w2, hw2⟩ : ∃ w2, w2 = ((w.alloc (Obj.cells #[.pointer (some ⟨gi, 0, none⟩), .pointer (some ⟨go, 0, none⟩)] 61)).alloc (Obj.cells (List.replicate 32 (.int .u8 0)).toArray 30)).drew := ⟨_, rfl⟩
  have hs : w.heap.size + 2 ≤ w2.heap.size := by rw [hw2]; show _ ≤ (World.alloc _ _).heap.size; simp
  have HW : Hid (Below w.heap.size w w2) := by unfold Hid; rw [hw2]; exact (((Below.refl _ _).alloc (Nat.le_refl _) _).alloc (by simp) _).drew
  have HK : Hid (Blk w2 w.heap.size 61 [.pointer (some ⟨gi, 0, none⟩), .pointer (some ⟨go, 0, none⟩)]) := by unfold Hid; rw [hw2]; exact (Blk.alloc (Blk.new w 61 [.pointer (some ⟨gi, 0, none⟩), .pointer (some ⟨go, 0, none⟩)]) _).drew
  have HZ : Hid (Blk w2 (w.heap.size + 1) 30 (List.replicate 32 (.int .u8 0))) := by unfold Hid; rw [hw2]; exact (Blk.at_new _ _ 30 _ _ rfl (by simp)).drew
  have cI : w2.cell? ⟨w.heap.size, 0, none⟩ = some (.pointer (some ⟨gi, 0, none⟩)) := HK.out.cell 0
  have cO : w2.cell? ⟨w.heap.size, 1, none⟩ = some (.pointer (some ⟨go, 0, none⟩)) := HK.out.cell 1
  replace HHi : Hid (Holds w2 gi mi) := HHi.out.keep (HW.out.block gi hgi)
  replace HHo : Hid (Holds w2 go mo) := HHo.out.keep (HW.out.block go hgo)
  clear HK
  change wpAny _ _ _ _ _ _ _ (((w.alloc (Obj.cells #[.pointer (some ⟨gi, 0, none⟩), .pointer (some ⟨go, 0, none⟩)] 61)).alloc (Obj.cells (List.replicate 32 (.int .u8 0)).toArray 30)).drew)
  rw [← hw2]
  clear hw2
  refine wpAny_take (i := 0) (oi := ?oi1) (v := .pointer (some ⟨w.heap.size, 0, none⟩)) ?hi1 (by kernel_rfl) (by kernel_rfl) (by kernel_rfl) ?hQ1 ?hy1 ?rest1
  case hi1 => simp only [List.getElem?_toArray, List.getElem?_cons_succ, List.getElem?_cons_zero]; rfl
  case hQ1 => exact fun _ _ _ h => h
  case hy1 => exact Or.inl ⟨by rfl, by intro w; go_simp⟩
  try simp only [Act.put, List.setIfInBounds_toArray, List.set_cons_zero, List.set_cons_succ]
  refine wpAny_take (i := 3) (oi := ?oi2) (v := .pointer (some ⟨w.heap.size, 1, none⟩)) ?hi2 (by kernel_rfl) (by kernel_rfl) (by kernel_rfl) ?hQ2 ?hy2 ?rest2
  case hi2 => simp only [List.getElem?_toArray, List.getElem?_cons_succ, List.getElem?_cons_zero]; rfl
  case hQ2 => exact fun _ _ _ h => h
  case hy2 => exact Or.inl ⟨by rfl, by intro w; go_simp⟩
  try simp only [Act.put, List.setIfInBounds_toArray, List.set_cons_zero, List.set_cons_succ]
  refine wpAny_ready (rs := [1, 4]) (by kernel_rfl) (by simp) ?_
  refine AllReady.cons (o := ?o3) ?ho3 (fun K hK => ?_) ?more3
  case ho3 => simp only [List.getElem?_toArray, List.getElem?_cons_succ, List.getElem?_cons_zero]; rfl
  · go_simp
    refine hK _ _ ?_
    clear hK K
    try simp only [Act.put, List.setIfInBounds_toArray, List.set_cons_zero, List.set_cons_succ]
    refine wpAny_ready (rs := [2, 4]) (by kernel_rfl) (by simp) ?_
    refine AllReady.cons (o := ?o4) ?ho4 (fun K hK => ?_) ?more4
    case ho4 => simp only [List.getElem?_toArray, List.getElem?_cons_succ, List.getElem?_cons_zero]; rfl
    · go_simp
      refine (copy_ex HHi.out).mono ?_
      rintro e w3 ⟨g1, rfl, hg1, hH, hX⟩
      have HC1 : Hid (Holds w3 g1 mi) := hH
      have hlt1 : g1 < w3.heap.size := hH.lt
      have hgg1 : w.heap.size + 2 ≤ g1 := by omega
      have cI : w3.cell? ⟨w.heap.size, 0, none⟩ = some (.pointer (some ⟨gi, 0, none⟩)) := (hX.cell (p := ⟨w.heap.size, 0, none⟩) (by show w.heap.size < _; omega)).trans cI
      have cO : w3.cell? ⟨w.heap.size, 1, none⟩ = some (.pointer (some ⟨go, 0, none⟩)) := (hX.cell (p := ⟨w.heap.size, 1, none⟩) (by show w.heap.size < _; omega)).trans cO
      replace HHi : Hid (Holds w3 gi mi) := HHi.out.keep (hX.block gi (by omega))
      replace HHo : Hid (Holds w3 go mo) := HHo.out.keep (hX.block go (by omega))
      replace HW : Hid (Below w.heap.size w w3) := HW.out.trans (hX.mono (by omega))
      replace HZ : Hid (Blk w3 (w.heap.size + 1) 30 (List.replicate 32 (.int .u8 0))) := HZ.out.below hX (by omega)
      have hs : w.heap.size + 2 ≤ w3.heap.size := Nat.le_trans hs hX.size
      clear hH hX hg1
      refine hK _ _ ?_
      clear hK K
      try simp only [Act.put, List.setIfInBounds_toArray, List.set_cons_zero, List.set_cons_succ]
      refine wpAny_ready (rs := [4]) (by kernel_rfl) (by simp) ?_
      refine AllReady.cons (o := ?o5) ?ho5 (fun K hK => ?_) AllReady.nil
      case ho5 => simp only [List.getElem?_toArray, List.getElem?_cons_succ, List.getElem?_cons_zero]; rfl
      go_simp
      refine hK _ _ ?_
      clear hK K
      try simp only [Act.put, List.setIfInBounds_toArray, List.set_cons_zero, List.set_cons_succ]
      refine wpAny_ready (rs := [5]) (by kernel_rfl) (by simp) ?_
      refine AllReady.cons (o := ?o6) ?ho6 (fun K hK => ?_) AllReady.nil
      case ho6 => simp only [List.getElem?_toArray, List.getElem?_cons_succ, List.getElem?_cons_zero]; rfl
      go_simp
      refine (copy_ex HHo.out).mono ?_
      rintro e w4 ⟨g2, rfl, hg2, hH, hX⟩
      have HC2 : Hid (Holds w4 g2 mo) := hH
      have hlt2 : g2 < w4.heap.size := hH.lt
      replace HC1 : Hid (Holds w4 g1 mi) := HC1.out.keep (hX.block g1 hlt1)
      have hg12 : g1 < g2 := by omega
      have cI : w4.cell? ⟨w.heap.size, 0, none⟩ = some (.pointer (some ⟨gi, 0, none⟩)) := (hX.cell (p := ⟨w.heap.size, 0, none⟩) (by show w.heap.size < _; omega)).trans cI
      have cO : w4.cell? ⟨w.heap.size, 1, none⟩ = some (.pointer (some ⟨go, 0, none⟩)) := (hX.cell (p := ⟨w.heap.size, 1, none⟩) (by show w.heap.size < _; omega)).trans cO
      replace HHi : Hid (Holds w4 gi mi) := HHi.out.keep (hX.block gi (by omega))
      replace HHo : Hid (Holds w4 go mo) := HHo.out.keep (hX.block go (by omega))
      replace HW : Hid (Below w.heap.size w w4) := HW.out.trans (hX.mono (by omega))
      replace HZ : Hid (Blk w4 (w.heap.size + 1) 30 (List.replicate 32 (.int .u8 0))) := HZ.out.below hX (by omega)
      have hs : w.heap.size + 2 ≤ w4.heap.size := Nat.le_trans hs hX.size
      clear hH hX hg2 hlt1
      refine hK _ _ ?_
      clear hK K
      try simp only [Act.put, List.setIfInBounds_toArray, List.set_cons_zero, List.set_cons_succ]
      refine wpAny_ready (rs := [6]) (by kernel_rfl) (by simp) ?_
      refine AllReady.cons (o := ?o7) ?ho7 (fun K hK => ?_) AllReady.nil
      case ho7 => simp only [List.getElem?_toArray, List.getElem?_cons_succ, List.getElem?_cons_zero]; rfl
      go_simp
      refine hK _ _ ?_
      clear hK K
      try simp only [Act.put, List.setIfInBounds_toArray, List.set_cons_zero, List.set_cons_succ]
      refine wpAny_ready (rs := [7]) (by kernel_rfl) (by simp) ?_
      refine AllReady.cons (o := ?o8) ?ho8 (fun K hK => ?_) AllReady.nil
      case ho8 => simp only [List.getElem?_toArray, List.getElem?_cons_succ, List.getElem?_cons_zero]; rfl
      go_simp
      refine hK _ _ ?_
      clear hK K
      try simp only [Act.put, List.setIfInBounds_toArray, List.set_cons_zero, List.set_cons_succ]
      refine wpAny_done (by kernel_rfl) ?_ _
      clear cI cO HHi HHo
      have HGr := Lib.hid (HG.out.below HW.out HG.out.size)
      have HP : Hid (RdP w4 A n ps) := HR.out.below HW.out
      go_wp2_with fail
      go_loopw [18] (fun i wr => ∃ k : Nat, k ≤ n ∧ i = .int .i64 k ∧ Hid (Holds wr g1 (mi ++ (ps.take k).flatten)) ∧ Hid (w4.grownBy wr (some g1))) (fun i _ => n - (intOf i).toNat)
      case atStart => exact ⟨0, by omega, rfl, by unfold Hid; rw [List.take_zero, List.flatten_nil, List.append_nil]; exact HC1, only_refl _ _⟩
      case round =>
        clear HC1
        obtain ⟨k, hk, rfl, HH, HO⟩ := hrel
        have HGk := Lib.hid (HGr.out.only HO.out (by omega))
        by_cases hlt : k < n
        · obtain ⟨b, off, A', n', c', rfl, hblt, hcell, hrd⟩ := HR.out.at_ k hlt
          have c0 : wr.cell? ⟨b, off + k, none⟩ = some (.slice A' n' c') := by
            have h1 := HW.out.cell (p := ⟨b, off + k, none⟩) hblt
            have h2 : wr.heap[b]? = w4.heap[b]? := HO.out.block b (by omega) (by simp; omega)
            rw [World.cell?_of_block (a := ⟨b, off + k, none⟩) h2, h1, hcell]
          have HRd : Hid (Rd wr A' n' c' (ps.getD k [])) := (hrd.below HW.out).grown HO.out (hrd.apart (by omega))
          have HAp := Lib.hid (hrd.apart (g := g1) (by omega))
          have HF := Lib.hid (flat_take ps k (by rw [HR.out.len]; exact hlt))
          have hfl := flat_len_take ps (k + 1)
          rw [HF.out, List.length_append] at hfl
          have HFl := Lib.hid hfl
          clear hfl hcell hrd
          go_wp2_with fail
          refine (write_any HGk.out (by omega) HH.out HRd.out HAp.out (by have := HFl.out; rw [List.length_append]; omega)).mono ?_
          rintro e w5 ⟨rfl, R2, O2⟩
          have HH2 : Hid (Holds w5 g1 (mi ++ (ps.take (k + 1)).flatten)) := by unfold Hid; rw [HF.out, ← List.append_assoc]; exact R2.holds
          have HO2 := Lib.hid (only_trans HO.out O2)
          clear R2 O2
          go_wp2_with fail
          go_roundw
          case rel => exact ⟨k + 1, by omega, by go_num, HH2, HO2⟩
          case measure => simp [intOf]; omega
        · have HH2 : Hid (Holds wr g1 (mi ++ ps.flatten)) := by
            have := HH.out
            rw [List.take_of_length_le (by rw [HR.out.len]; omega)] at this
            exact this
          have hwr := HO.out.size
          have HZr : Hid (Blk wr (w.heap.size + 1) 30 (List.replicate 32 (.int .u8 0))) := (HO.out.block _ HZ.out.lt (by simp; omega)).trans HZ.out
          have Wr : Hid (Below w.heap.size w wr) := below_of_only HW.out HO.out (by omega) (by omega)
          have HC2r : Hid (Holds wr g2 mo) := HC2.out.keep (HO.out.block g2 hlt2 (by simp; omega))
          clear HH HZ HC2
          go_wp2_with fail
          refine (sum_ex HGk.out HH2.out (by rw [List.length_append]; exact hb)).mono ?_
          rintro e w5 ⟨D, rfl, hS, hW2⟩
          have HS := Lib.hid hS
          have HI := Lib.hid hS.info
          have HL : Hid ((List.replicate 32 (Value.int .u8 0)).length = D.length) := by unfold Hid; rw [hS.len]; rfl
          have H1 := Lib.hid hS.one
          have hw5 := hW2.size
          have HZ5 : Hid (Blk w5 (w.heap.size + 1) 30 (List.replicate 32 (.int .u8 0))) := HZr.out.below hW2 HZr.out.lt
          have W5 : Hid (Below w.heap.size w w5) := Wr.out.trans (hW2.mono (by omega))
          have HC5 : Hid (Holds w5 g2 mo) := HC2r.out.keep (hW2.block g2 (by omega))
          have HG5 := Lib.hid (HGk.out.below hW2 HGk.out.size)
          clear hS hW2 HZr Wr HC2r HH2
          go_upto_region 8 with (first
            | ((with_reducible refine storeGen_law rfl 30 (.tmp 9) (.tmp 27) rfl w5.heap.size rfl D rfl 30 (List.replicate 32 (.int .u8 0)) HI.out HL.out H1.out w5.heap.size w5 ?_ ?_ (Nat.le_refl _) ?_)
               · exact Blk.at_new _ _ 30 _ _ (by rfl) rfl
               · exact (Below.refl _ _).alloc (Nat.le_refl _) _
               intro w6 B6 W6))
          have hw6 := W6.out.size
          have HR6 : Hid (Rd w6 (some ⟨w5.heap.size, 0, none⟩) 32 32 (Sha.sum (mi ++ ps.flatten))) :=
            Rd.of_block B6.out (Sha.sum_length _) (Nat.le_refl _) (by unfold maxLen; omega) (fun j hj => by
              have hj' : j < (Sha.sum (mi ++ ps.flatten)).length := by rw [Sha.sum_length]; exact hj
              rw [HS.out]
              simp [List.getD_eq_getElem?_getD, List.getElem?_eq_getElem hj'])
          have HZ6 : Hid (Blk w6 (w.heap.size + 1) 30 (List.replicate 32 (.int .u8 0))) := HZ5.out.below W6.out (by omega)
          have WW6 : Hid (Below w.heap.size w w6) := W5.out.trans (W6.out.mono (by omega))
          have HC6 : Hid (Holds w6 g2 mo) := HC5.out.keep (W6.out.block g2 (by omega))
          have HG6 := Lib.hid (HG5.out.below W6.out HG5.out.size)
          clear HZ5 W5 HC5 HG5 B6 W6
          go_wp2_with fail
          refine (write_any HG6.out (by omega) HC6.out HR6.out (fun _ ad had => by injection had with had; subst had; simp; omega) (by rw [Sha.sum_length]; omega)).mono ?_
          rintro e w7 ⟨rfl, R7, O7⟩
          have HH7 := Lib.hid R7.holds
          have hw7 := O7.size
          have HZ7 : Hid (Blk w7 (w.heap.size + 1) 30 (List.replicate 32 (.int .u8 0))) := (O7.block _ HZ6.out.lt (by simp; omega)).trans HZ6.out
          have W7 : Hid (Below w.heap.size w w7) := below_of_only WW6.out O7 (by omega) (by omega)
          have HG7 := Lib.hid (HG6.out.only O7 (by omega))
          clear R7 O7 HZ6 WW6 HC6 HR6
          go_wp2_with fail
          refine (sum_ex HG7.out HH7.out (by rw [List.length_append, Sha.sum_length]; omega)).mono ?_
          rintro e w8 ⟨D2, rfl, hS2, hW8⟩
          have HS2 := Lib.hid hS2
          have HI2 := Lib.hid hS2.info
          have HL2 : Hid ((List.replicate 32 (Value.int .u8 0)).length = D2.length) := by unfold Hid; rw [hS2.len]; rfl
          have H12 := Lib.hid hS2.one
          have HZ8 : Hid (Blk w8 (w.heap.size + 1) 30 (List.replicate 32 (.int .u8 0))) := HZ7.out.below hW8 HZ7.out.lt
          have W8 : Hid (Below w.heap.size w w8) := W7.out.trans (hW8.mono (by omega))
          clear hS2 hW8 HZ7 W7 HH7
          go_wp2_with (first
            | ((with_reducible refine storeGen_law rfl 30 (.tmp 4) (.tmp 32) rfl (w.heap.size + 1) rfl D2 rfl 30 (List.replicate 32 (.int .u8 0)) HI2.out HL2.out H12.out w.heap.size w HZ8.out W8.out (Nat.le_succ _) ?_); intro w9 B9 W9))
          exact bodyPost_ret (results_cell_row rfl _ _ (w.heap.size + 1) 30 D2.toArray (0, 0) _ rfl B9.out Tryd.underlying30 rfl (by rw [HI2.out]; simp)) rfl ⟨D2, rfl, HS2.out, W9.out⟩
    case more4 =>
      refine AllReady.cons (o := ?o9) ?ho9 (fun K hK => ?_) AllReady.nil
      case ho9 => simp only [List.getElem?_toArray, List.getElem?_cons_succ, List.getElem?_cons_zero]; rfl
      go_simp
      refine hK _ _ ?_
      clear hK K
      try simp only [Act.put, List.setIfInBounds_toArray, List.set_cons_zero, List.set_cons_succ]
      refine wpAny_ready (rs := [2]) (by kernel_rfl) (by simp) ?_
      refine AllReady.cons (o := ?o10) ?ho10 (fun K hK => ?_) AllReady.nil
      case ho10 => simp only [List.getElem?_toArray, List.getElem?_cons_succ, List.getElem?_cons_zero]; rfl
      go_simp
      refine (copy_ex HHi.out).mono ?_
      rintro e w3 ⟨g1, rfl, hg1, hH, hX⟩
      have HC1 : Hid (Holds w3 g1 mi) := hH
      have hlt1 : g1 < w3.heap.size := hH.lt
      have hgg1 : w.heap.size + 2 ≤ g1 := by omega
      have cI : w3.cell? ⟨w.heap.size, 0, none⟩ = some (.pointer (some ⟨gi, 0, none⟩)) := (hX.cell (p := ⟨w.heap.size, 0, none⟩) (by show w.heap.size < _; omega)).trans cI
      have cO : w3.cell? ⟨w.heap.size, 1, none⟩ = some (.pointer (some ⟨go, 0, none⟩)) := (hX.cell (p := ⟨w.heap.size, 1, none⟩) (by show w.heap.size < _; omega)).trans cO
      replace HHi : Hid (Holds w3 gi mi) := HHi.out.keep (hX.block gi (by omega))
      replace HHo : Hid (Holds w3 go mo) := HHo.out.keep (hX.block go (by omega))
      replace HW : Hid (Below w.heap.size w w3) := HW.out.trans (hX.mono (by omega))
      replace HZ : Hid (Blk w3 (w.heap.size + 1) 30 (List.replicate 32 (.int .u8 0))) := HZ.out.below hX (by omega)
      have hs : w.heap.size + 2 ≤ w3.heap.size := Nat.le_trans hs hX.size
      clear hH hX hg1
      refine hK _ _ ?_
      clear hK K
      try simp only [Act.put, List.setIfInBounds_toArray, List.set_cons_zero, List.set_cons_succ]
      refine wpAny_ready (rs := [5]) (by kernel_rfl) (by simp) ?_
      refine AllReady.cons (o := ?o11) ?ho11 (fun K hK => ?_) AllReady.nil
      case ho11 => simp only [List.getElem?_toArray, List.getElem?_cons_succ, List.getElem?_cons_zero]; rfl
      go_simp
      refine (copy_ex HHo.out).mono ?_
      rintro e w4 ⟨g2, rfl, hg2, hH, hX⟩
      have HC2 : Hid (Holds w4 g2 mo) := hH
      have hlt2 : g2 < w4.heap.size := hH.lt
      replace HC1 : Hid (Holds w4 g1 mi) := HC1.out.keep (hX.block g1 hlt1)
      have hg12 : g1 < g2 := by omega
      have cI : w4.cell? ⟨w.heap.size, 0, none⟩ = some (.pointer (some ⟨gi, 0, none⟩)) := (hX.cell (p := ⟨w.heap.size, 0, none⟩) (by show w.heap.size < _; omega)).trans cI
      have cO : w4.cell? ⟨w.heap.size, 1, none⟩ = some (.pointer (some ⟨go, 0, none⟩)) := (hX.cell (p := ⟨w.heap.size, 1, none⟩) (by show w.heap.size < _; omega)).trans cO
      replace HHi : Hid (Holds w4 gi mi) := HHi.out.keep (hX.block gi (by omega))
      replace HHo : Hid (Holds w4 go mo) := HHo.out.keep (hX.block go (by omega))
      replace HW : Hid (Below w.heap.size w w4) := HW.out.trans (hX.mono (by omega))
      replace HZ : Hid (Blk w4 (w.heap.size + 1) 30 (List.replicate 32 (.int .u8 0))) := HZ.out.below hX (by omega)
      have hs : w.heap.size + 2 ≤ w4.heap.size := Nat.le_trans hs hX.size
      clear hH hX hg2 hlt1
      refine hK _ _ ?_
      clear hK K
      try simp only [Act.put, List.setIfInBounds_toArray, List.set_cons_zero, List.set_cons_succ]
      refine wpAny_ready (rs := [6]) (by kernel_rfl) (by simp) ?_
      refine AllReady.cons (o := ?o12) ?ho12 (fun K hK => ?_) AllReady.nil
      case ho12 => simp only [List.getElem?_toArray, List.getElem?_cons_succ, List.getElem?_cons_zero]; rfl
      go_simp
      refine hK _ _ ?_
      clear hK K
      try simp only [Act.put, List.setIfInBounds_toArray, List.set_cons_zero, List.set_cons_succ]
      refine wpAny_ready (rs := [7]) (by kernel_rfl) (by simp) ?_
      refine AllReady.cons (o := ?o13) ?ho13 (fun K hK => ?_) AllReady.nil
      case ho13 => simp only [List.getElem?_toArray, List.getElem?_cons_succ, List.getElem?_cons_zero]; rfl
      go_simp
      refine hK _ _ ?_
      clear hK K
      try simp only [Act.put, List.setIfInBounds_toArray, List.set_cons_zero, List.set_cons_succ]
      refine wpAny_done (by kernel_rfl) ?_ _
      clear cI cO HHi HHo
      have HGr := Lib.hid (HG.out.below HW.out HG.out.size)
      have HP : Hid (RdP w4 A n ps) := HR.out.below HW.out
      go_wp2_with fail
      go_loopw [18] (fun i wr => ∃ k : Nat, k ≤ n ∧ i = .int .i64 k ∧ Hid (Holds wr g1 (mi ++ (ps.take k).flatten)) ∧ Hid (w4.grownBy wr (some g1))) (fun i _ => n - (intOf i).toNat)
      case atStart => exact ⟨0, by omega, rfl, by unfold Hid; rw [List.take_zero, List.flatten_nil, List.append_nil]; exact HC1, only_refl _ _⟩
      case round =>
        clear HC1
        obtain ⟨k, hk, rfl, HH, HO⟩ := hrel
        have HGk := Lib.hid (HGr.out.only HO.out (by omega))
        by_cases hlt : k < n
        · obtain ⟨b, off, A', n', c', rfl, hblt, hcell, hrd⟩ := HR.out.at_ k hlt
          have c0 : wr.cell? ⟨b, off + k, none⟩ = some (.slice A' n' c') := by
            have h1 := HW.out.cell (p := ⟨b, off + k, none⟩) hblt
            have h2 : wr.heap[b]? = w4.heap[b]? := HO.out.block b (by omega) (by simp; omega)
            rw [World.cell?_of_block (a := ⟨b, off + k, none⟩) h2, h1, hcell]
          have HRd : Hid (Rd wr A' n' c' (ps.getD k [])) := (hrd.below HW.out).grown HO.out (hrd.apart (by omega))
          have HAp := Lib.hid (hrd.apart (g := g1) (by omega))
          have HF := Lib.hid (flat_take ps k (by rw [HR.out.len]; exact hlt))
          have hfl := flat_len_take ps (k + 1)
          rw [HF.out, List.length_append] at hfl
          have HFl := Lib.hid hfl
          clear hfl hcell hrd
          go_wp2_with fail
          refine (write_any HGk.out (by omega) HH.out HRd.out HAp.out (by have := HFl.out; rw [List.length_append]; omega)).mono ?_
          rintro e w5 ⟨rfl, R2, O2⟩
          have HH2 : Hid (Holds w5 g1 (mi ++ (ps.take (k + 1)).flatten)) := by unfold Hid; rw [HF.out, ← List.append_assoc]; exact R2.holds
          have HO2 := Lib.hid (only_trans HO.out O2)
          clear R2 O2
          go_wp2_with fail
          go_roundw
          case rel => exact ⟨k + 1, by omega, by go_num, HH2, HO2⟩
          case measure => simp [intOf]; omega
        · have HH2 : Hid (Holds wr g1 (mi ++ ps.flatten)) := by
            have := HH.out
            rw [List.take_of_length_le (by rw [HR.out.len]; omega)] at this
            exact this
          have hwr := HO.out.size
          have HZr : Hid (Blk wr (w.heap.size + 1) 30 (List.replicate 32 (.int .u8 0))) := (HO.out.block _ HZ.out.lt (by simp; omega)).trans HZ.out
          have Wr : Hid (Below w.heap.size w wr) := below_of_only HW.out HO.out (by omega) (by omega)
          have HC2r : Hid (Holds wr g2 mo) := HC2.out.keep (HO.out.block g2 hlt2 (by simp; omega))
          clear HH HZ HC2
          go_wp2_with fail
          refine (sum_ex HGk.out HH2.out (by rw [List.length_append]; exact hb)).mono ?_
          rintro e w5 ⟨D, rfl, hS, hW2⟩
          have HS := Lib.hid hS
          have HI := Lib.hid hS.info
          have HL : Hid ((List.replicate 32 (Value.int .u8 0)).length = D.length) := by unfold Hid; rw [hS.len]; rfl
          have H1 := Lib.hid hS.one
          have hw5 := hW2.size
          have HZ5 : Hid (Blk w5 (w.heap.size + 1) 30 (List.replicate 32 (.int .u8 0))) := HZr.out.below hW2 HZr.out.lt
          have W5 : Hid (Below w.heap.size w w5) := Wr.out.trans (hW2.mono (by omega))
          have HC5 : Hid (Holds w5 g2 mo) := HC2r.out.keep (hW2.block g2 (by omega))
          have HG5 := Lib.hid (HGk.out.below hW2 HGk.out.size)
          clear hS hW2 HZr Wr HC2r HH2
          go_upto_region 8 with (first
            | ((with_reducible refine storeGen_law rfl 30 (.tmp 9) (.tmp 27) rfl w5.heap.size rfl D rfl 30 (List.replicate 32 (.int .u8 0)) HI.out HL.out H1.out w5.heap.size w5 ?_ ?_ (Nat.le_refl _) ?_)
               · exact Blk.at_new _ _ 30 _ _ (by rfl) rfl
               · exact (Below.refl _ _).alloc (Nat.le_refl _) _
               intro w6 B6 W6))
          have hw6 := W6.out.size
          have HR6 : Hid (Rd w6 (some ⟨w5.heap.size, 0, none⟩) 32 32 (Sha.sum (mi ++ ps.flatten))) :=
            Rd.of_block B6.out (Sha.sum_length _) (Nat.le_refl _) (by unfold maxLen; omega) (fun j hj => by
              have hj' : j < (Sha.sum (mi ++ ps.flatten)).length := by rw [Sha.sum_length]; exact hj
              rw [HS.out]
              simp [List.getD_eq_getElem?_getD, List.getElem?_eq_getElem hj'])
          have HZ6 : Hid (Blk w6 (w.heap.size + 1) 30 (List.replicate 32 (.int .u8 0))) := HZ5.out.below W6.out (by omega)
          have WW6 : Hid (Below w.heap.size w w6) := W5.out.trans (W6.out.mono (by omega))
          have HC6 : Hid (Holds w6 g2 mo) := HC5.out.keep (W6.out.block g2 (by omega))
          have HG6 := Lib.hid (HG5.out.below W6.out HG5.out.size)
          clear HZ5 W5 HC5 HG5 B6 W6
          go_wp2_with fail
          refine (write_any HG6.out (by omega) HC6.out HR6.out (fun _ ad had => by injection had with had; subst had; simp; omega) (by rw [Sha.sum_length]; omega)).mono ?_
          rintro e w7 ⟨rfl, R7, O7⟩
          have HH7 := Lib.hid R7.holds
          have hw7 := O7.size
          have HZ7 : Hid (Blk w7 (w.heap.size + 1) 30 (List.replicate 32 (.int .u8 0))) := (O7.block _ HZ6.out.lt (by simp; omega)).trans HZ6.out
          have W7 : Hid (Below w.heap.size w w7) := below_of_only WW6.out O7 (by omega) (by omega)
          have HG7 := Lib.hid (HG6.out.only O7 (by omega))
          clear R7 O7 HZ6 WW6 HC6 HR6
          go_wp2_with fail
          refine (sum_ex HG7.out HH7.out (by rw [List.length_append, Sha.sum_length]; omega)).mono ?_
          rintro e w8 ⟨D2, rfl, hS2, hW8⟩
          have HS2 := Lib.hid hS2
          have HI2 := Lib.hid hS2.info
          have HL2 : Hid ((List.replicate 32 (Value.int .u8 0)).length = D2.length) := by unfold Hid; rw [hS2.len]; rfl
          have H12 := Lib.hid hS2.one
          have HZ8 : Hid (Blk w8 (w.heap.size + 1) 30 (List.replicate 32 (.int .u8 0))) := HZ7.out.below hW8 HZ7.out.lt
          have W8 : Hid (Below w.heap.size w w8) := W7.out.trans (hW8.mono (by omega))
          clear hS2 hW8 HZ7 W7 HH7
          go_wp2_with (first
            | ((with_reducible refine storeGen_law rfl 30 (.tmp 4) (.tmp 32) rfl (w.heap.size + 1) rfl D2 rfl 30 (List.replicate 32 (.int .u8 0)) HI2.out HL2.out H12.out w.heap.size w HZ8.out W8.out (Nat.le_succ _) ?_); intro w9 B9 W9))
          exact bodyPost_ret (results_cell_row rfl _ _ (w.heap.size + 1) 30 D2.toArray (0, 0) _ rfl B9.out Tryd.underlying30 rfl (by rw [HI2.out]; simp)) rfl ⟨D2, rfl, HS2.out, W9.out⟩
  case more3 =>
    refine AllReady.cons (o := ?o14) ?ho14 (fun K hK => ?_) AllReady.nil
    case ho14 => simp only [List.getElem?_toArray, List.getElem?_cons_succ, List.getElem?_cons_zero]; rfl
    go_simp
    refine hK _ _ ?_
    clear hK K
    try simp only [Act.put, List.setIfInBounds_toArray, List.set_cons_zero, List.set_cons_succ]
    refine wpAny_ready (rs := [1]) (by kernel_rfl) (by simp) ?_
    refine AllReady.cons (o := ?o15) ?ho15 (fun K hK => ?_) AllReady.nil
    case ho15 => simp only [List.getElem?_toArray, List.getElem?_cons_succ, List.getElem?_cons_zero]; rfl
    go_simp
    refine hK _ _ ?_
    clear hK K
    try simp only [Act.put, List.setIfInBounds_toArray, List.set_cons_zero, List.set_cons_succ]
    refine wpAny_ready (rs := [2]) (by kernel_rfl) (by simp) ?_
    refine AllReady.cons (o := ?o16) ?ho16 (fun K hK => ?_) AllReady.nil
    case ho16 => simp only [List.getElem?_toArray, List.getElem?_cons_succ, List.getElem?_cons_zero]; rfl
    go_simp
    refine (copy_ex HHi.out).mono ?_
    rintro e w3 ⟨g1, rfl, hg1, hH, hX⟩
    have HC1 : Hid (Holds w3 g1 mi) := hH
    have hlt1 : g1 < w3.heap.size := hH.lt
    have hgg1 : w.heap.size + 2 ≤ g1 := by omega
    have cI : w3.cell? ⟨w.heap.size, 0, none⟩ = some (.pointer (some ⟨gi, 0, none⟩)) := (hX.cell (p := ⟨w.heap.size, 0, none⟩) (by show w.heap.size < _; omega)).trans cI
    have cO : w3.cell? ⟨w.heap.size, 1, none⟩ = some (.pointer (some ⟨go, 0, none⟩)) := (hX.cell (p := ⟨w.heap.size, 1, none⟩) (by show w.heap.size < _; omega)).trans cO
    replace HHi : Hid (Holds w3 gi mi) := HHi.out.keep (hX.block gi (by omega))
    replace HHo : Hid (Holds w3 go mo) := HHo.out.keep (hX.block go (by omega))
    replace HW : Hid (Below w.heap.size w w3) := HW.out.trans (hX.mono (by omega))
    replace HZ : Hid (Blk w3 (w.heap.size + 1) 30 (List.replicate 32 (.int .u8 0))) := HZ.out.below hX (by omega)
    have hs : w.heap.size + 2 ≤ w3.heap.size := Nat.le_trans hs hX.size
    clear hH hX hg1
    refine hK _ _ ?_
    clear hK K
    try simp only [Act.put, List.setIfInBounds_toArray, List.set_cons_zero, List.set_cons_succ]
    refine wpAny_ready (rs := [5]) (by kernel_rfl) (by simp) ?_
    refine AllReady.cons (o := ?o17) ?ho17 (fun K hK => ?_) AllReady.nil
    case ho17 => simp only [List.getElem?_toArray, List.getElem?_cons_succ, List.getElem?_cons_zero]; rfl
    go_simp
    refine (copy_ex HHo.out).mono ?_
    rintro e w4 ⟨g2, rfl, hg2, hH, hX⟩
    have HC2 : Hid (Holds w4 g2 mo) := hH
    have hlt2 : g2 < w4.heap.size := hH.lt
    replace HC1 : Hid (Holds w4 g1 mi) := HC1.out.keep (hX.block g1 hlt1)
    have hg12 : g1 < g2 := by omega
    have cI : w4.cell? ⟨w.heap.size, 0, none⟩ = some (.pointer (some ⟨gi, 0, none⟩)) := (hX.cell (p := ⟨w.heap.size, 0, none⟩) (by show w.heap.size < _; omega)).trans cI
    have cO : w4.cell? ⟨w.heap.size, 1, none⟩ = some (.pointer (some ⟨go, 0, none⟩)) := (hX.cell (p := ⟨w.heap.size, 1, none⟩) (by show w.heap.size < _; omega)).trans cO
    replace HHi : Hid (Holds w4 gi mi) := HHi.out.keep (hX.block gi (by omega))
    replace HHo : Hid (Holds w4 go mo) := HHo.out.keep (hX.block go (by omega))
    replace HW : Hid (Below w.heap.size w w4) := HW.out.trans (hX.mono (by omega))
    replace HZ : Hid (Blk w4 (w.heap.size + 1) 30 (List.replicate 32 (.int .u8 0))) := HZ.out.below hX (by omega)
    have hs : w.heap.size + 2 ≤ w4.heap.size := Nat.le_trans hs hX.size
    clear hH hX hg2 hlt1
    refine hK _ _ ?_
    clear hK K
    try simp only [Act.put, List.setIfInBounds_toArray, List.set_cons_zero, List.set_cons_succ]
    refine wpAny_ready (rs := [6]) (by kernel_rfl) (by simp) ?_
    refine AllReady.cons (o := ?o18) ?ho18 (fun K hK => ?_) AllReady.nil
    case ho18 => simp only [List.getElem?_toArray, List.getElem?_cons_succ, List.getElem?_cons_zero]; rfl
    go_simp
    refine hK _ _ ?_
    clear hK K
    try simp only [Act.put, List.setIfInBounds_toArray, List.set_cons_zero, List.set_cons_succ]
    refine wpAny_ready (rs := [7]) (by kernel_rfl) (by simp) ?_
    refine AllReady.cons (o := ?o19) ?ho19 (fun K hK => ?_) AllReady.nil
    case ho19 => simp only [List.getElem?_toArray, List.getElem?_cons_succ, List.getElem?_cons_zero]; rfl
    go_simp
    refine hK _ _ ?_
    clear hK K
    try simp only [Act.put, List.setIfInBounds_toArray, List.set_cons_zero, List.set_cons_succ]
    refine wpAny_done (by kernel_rfl) ?_ _
    clear cI cO HHi HHo
    have HGr := Lib.hid (HG.out.below HW.out HG.out.size)
    have HP : Hid (RdP w4 A n ps) := HR.out.below HW.out
    go_wp2_with fail
    go_loopw [18] (fun i wr => ∃ k : Nat, k ≤ n ∧ i = .int .i64 k ∧ Hid (Holds wr g1 (mi ++ (ps.take k).flatten)) ∧ Hid (w4.grownBy wr (some g1))) (fun i _ => n - (intOf i).toNat)
    case atStart => exact ⟨0, by omega, rfl, by unfold Hid; rw [List.take_zero, List.flatten_nil, List.append_nil]; exact HC1, only_refl _ _⟩
    case round =>
      clear HC1
      obtain ⟨k, hk, rfl, HH, HO⟩ := hrel
      have HGk := Lib.hid (HGr.out.only HO.out (by omega))
      by_cases hlt : k < n
      · obtain ⟨b, off, A', n', c', rfl, hblt, hcell, hrd⟩ := HR.out.at_ k hlt
        have c0 : wr.cell? ⟨b, off + k, none⟩ = some (.slice A' n' c') := by
          have h1 := HW.out.cell (p := ⟨b, off + k, none⟩) hblt
          have h2 : wr.heap[b]? = w4.heap[b]? := HO.out.block b (by omega) (by simp; omega)
          rw [World.cell?_of_block (a := ⟨b, off + k, none⟩) h2, h1, hcell]
        have HRd : Hid (Rd wr A' n' c' (ps.getD k [])) := (hrd.below HW.out).grown HO.out (hrd.apart (by omega))
        have HAp := Lib.hid (hrd.apart (g := g1) (by omega))
        have HF := Lib.hid (flat_take ps k (by rw [HR.out.len]; exact hlt))
        have hfl := flat_len_take ps (k + 1)
        rw [HF.out, List.length_append] at hfl
        have HFl := Lib.hid hfl
        clear hfl hcell hrd
        go_wp2_with fail
        refine (write_any HGk.out (by omega) HH.out HRd.out HAp.out (by have := HFl.out; rw [List.length_append]; omega)).mono ?_
        rintro e w5 ⟨rfl, R2, O2⟩
        have HH2 : Hid (Holds w5 g1 (mi ++ (ps.take (k + 1)).flatten)) := by unfold Hid; rw [HF.out, ← List.append_assoc]; exact R2.holds
        have HO2 := Lib.hid (only_trans HO.out O2)
        clear R2 O2
        go_wp2_with fail
        go_roundw
        case rel => exact ⟨k + 1, by omega, by go_num, HH2, HO2⟩
        case measure => simp [intOf]; omega
      · have HH2 : Hid (Holds wr g1 (mi ++ ps.flatten)) := by
          have := HH.out
          rw [List.take_of_length_le (by rw [HR.out.len]; omega)] at this
          exact this
        have hwr := HO.out.size
        have HZr : Hid (Blk wr (w.heap.size + 1) 30 (List.replicate 32 (.int .u8 0))) := (HO.out.block _ HZ.out.lt (by simp; omega)).trans HZ.out
        have Wr : Hid (Below w.heap.size w wr) := below_of_only HW.out HO.out (by omega) (by omega)
        have HC2r : Hid (Holds wr g2 mo) := HC2.out.keep (HO.out.block g2 hlt2 (by simp; omega))
        clear HH HZ HC2
        go_wp2_with fail
        refine (sum_ex HGk.out HH2.out (by rw [List.length_append]; exact hb)).mono ?_
        rintro e w5 ⟨D, rfl, hS, hW2⟩
        have HS := Lib.hid hS
        have HI := Lib.hid hS.info
        have HL : Hid ((List.replicate 32 (Value.int .u8 0)).length = D.length) := by unfold Hid; rw [hS.len]; rfl
        have H1 := Lib.hid hS.one
        have hw5 := hW2.size
        have HZ5 : Hid (Blk w5 (w.heap.size + 1) 30 (List.replicate 32 (.int .u8 0))) := HZr.out.below hW2 HZr.out.lt
        have W5 : Hid (Below w.heap.size w w5) := Wr.out.trans (hW2.mono (by omega))
        have HC5 : Hid (Holds w5 g2 mo) := HC2r.out.keep (hW2.block g2 (by omega))
        have HG5 := Lib.hid (HGk.out.below hW2 HGk.out.size)
        clear hS hW2 HZr Wr HC2r HH2
        go_upto_region 8 with (first
          | ((with_reducible refine storeGen_law rfl 30 (.tmp 9) (.tmp 27) rfl w5.heap.size rfl D rfl 30 (List.replicate 32 (.int .u8 0)) HI.out HL.out H1.out w5.heap.size w5 ?_ ?_ (Nat.le_refl _) ?_)
             · exact Blk.at_new _ _ 30 _ _ (by rfl) rfl
             · exact (Below.refl _ _).alloc (Nat.le_refl _) _
             intro w6 B6 W6))
        have hw6 := W6.out.size
        have HR6 : Hid (Rd w6 (some ⟨w5.heap.size, 0, none⟩) 32 32 (Sha.sum (mi ++ ps.flatten))) :=
          Rd.of_block B6.out (Sha.sum_length _) (Nat.le_refl _) (by unfold maxLen; omega) (fun j hj => by
            have hj' : j < (Sha.sum (mi ++ ps.flatten)).length := by rw [Sha.sum_length]; exact hj
            rw [HS.out]
            simp [List.getD_eq_getElem?_getD, List.getElem?_eq_getElem hj'])
        have HZ6 : Hid (Blk w6 (w.heap.size + 1) 30 (List.replicate 32 (.int .u8 0))) := HZ5.out.below W6.out (by omega)
        have WW6 : Hid (Below w.heap.size w w6) := W5.out.trans (W6.out.mono (by omega))
        have HC6 : Hid (Holds w6 g2 mo) := HC5.out.keep (W6.out.block g2 (by omega))
        have HG6 := Lib.hid (HG5.out.below W6.out HG5.out.size)
        clear HZ5 W5 HC5 HG5 B6 W6
        go_wp2_with fail
        refine (write_any HG6.out (by omega) HC6.out HR6.out (fun _ ad had => by injection had with had; subst had; simp; omega) (by rw [Sha.sum_length]; omega)).mono ?_
        rintro e w7 ⟨rfl, R7, O7⟩
        have HH7 := Lib.hid R7.holds
        have hw7 := O7.size
        have HZ7 : Hid (Blk w7 (w.heap.size + 1) 30 (List.replicate 32 (.int .u8 0))) := (O7.block _ HZ6.out.lt (by simp; omega)).trans HZ6.out
        have W7 : Hid (Below w.heap.size w w7) := below_of_only WW6.out O7 (by omega) (by omega)
        have HG7 := Lib.hid (HG6.out.only O7 (by omega))
        clear R7 O7 HZ6 WW6 HC6 HR6
        go_wp2_with fail
        refine (sum_ex HG7.out HH7.out (by rw [List.length_append, Sha.sum_length]; omega)).mono ?_
        rintro e w8 ⟨D2, rfl, hS2, hW8⟩
        have HS2 := Lib.hid hS2
        have HI2 := Lib.hid hS2.info
        have HL2 : Hid ((List.replicate 32 (Value.int .u8 0)).length = D2.length) := by unfold Hid; rw [hS2.len]; rfl
        have H12 := Lib.hid hS2.one
        have HZ8 : Hid (Blk w8 (w.heap.size + 1) 30 (List.replicate 32 (.int .u8 0))) := HZ7.out.below hW8 HZ7.out.lt
        have W8 : Hid (Below w.heap.size w w8) := W7.out.trans (hW8.mono (by omega))
        clear hS2 hW8 HZ7 W7 HH7
        go_wp2_with (first
          | ((with_reducible refine storeGen_law rfl 30 (.tmp 4) (.tmp 32) rfl (w.heap.size + 1) rfl D2 rfl 30 (List.replicate 32 (.int .u8 0)) HI2.out HL2.out H12.out w.heap.size w HZ8.out W8.out (Nat.le_succ _) ?_); intro w9 B9 W9))
        exact bodyPost_ret (results_cell_row rfl _ _ (w.heap.size + 1) 30 D2.toArray (0, 0) _ rfl B9.out Tryd.underlying30 rfl (by rw [HI2.out]; simp)) rfl ⟨D2, rfl, HS2.out, W9.out⟩
end Go.Proofs.YtbepofmkfloajaaDoor
