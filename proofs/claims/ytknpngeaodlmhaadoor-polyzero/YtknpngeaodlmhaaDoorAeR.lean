/- Contracts of the document's eight and mark. -/
import Derived.Test.YtknpngeaodlmhaaDoorAe
import Derived.Test.YtknpngeaodlmhaaDoorGref2
import Derived.Test.YtknpngeaodlmhaaDoorGchr
import Derived.Test.YtknpngeaodlmhaaDoorGrow
import Derived.Test.YtknpngeaodlmhaaDoorGcha
import Derived.Test.YtknpngeaodlmhaaDoorGtag
namespace Go.Proofs.YtknpngeaodlmhaaDoor
set_option linter.unusedVariables false
set_option linter.unusedSimpArgs false
open Go.RowKit

/-- What a call gives: new bytes. -/
def RetB (w : World) (l : List UInt8) (e : Ending) (w' : World) : Prop := ∃ v, e = .returned v ∧ Ow w' w.heap.size v l ∧ Below w.heap.size w w'

set_option maxRecDepth 100000 in
set_option maxHeartbeats 2000000 in
theorem reight_any (n : Nat) (w : World) (hn : n ≤ 1000000000) : Calls Tryd.prog 58 #[.int .i64 (n : Int)] w (RetB w (Pol.bytesN 8 (n : Int))) := by
  go_enter Tryd.func58, Tryd.ntmps58
  go_wp2_with fail
  go_loopw [0, 3, 4] (fun q v i wr => ∃ (k : Nat) (z : Int), k ≤ 8 ∧ q = .int .i64 z ∧ i = .int .i64 k ∧ 0 ≤ z ∧ z ≤ 1000000000 ∧ Hid (z = (n : Int) / 256 ^ k) ∧ Hid (Ow wr w.heap.size v (Pol.bytesN k (n : Int))) ∧ Hid (Below w.heap.size w wr)) (fun _ _ i _ => 8 - (intOf i).toNat)
  case atStart => exact ⟨0, n, by omega, rfl, rfl, by omega, by omega, by unfold Hid; simp, Ow.empty _ _, Below.refl _ _⟩
  case round =>
    obtain ⟨k, z, hk, rfl, rfl, hz0, hz1, HZ, OW, BW⟩ := hrel
    by_cases hlt : k < 8
    · have hlb : decide ((k : Int) < 8) = true := by simp; omega
      obtain ⟨y, hy⟩ : ∃ y : UInt8, y = Sha.by8 z := ⟨_, rfl⟩
      have hyz : z % 256 = (y.toNat : Int) := by rw [hy, Pol.by8_toNat]
      have hym : (y.toNat : Int) % 256 = (y.toNat : Int) := by have := y.toNat_lt; omega
      have HN : Hid (Pol.bytesN (k + 1) (n : Int) = Pol.bytesN k (n : Int) ++ [y]) := by unfold Hid; rw [Pol.bytesN_succ, hy, ← HZ.out]
      have HZ2 : Hid (z / 256 = (n : Int) / 256 ^ (k + 1)) := by unfold Hid; rw [HZ.out, Pol.div_next]
      have LN : Hid ((Pol.bytesN k (n : Int)).length + 1 ≤ 140737488355328) := by unfold Hid; rw [Pol.bytesN_length]; omega
      have hy0 : (0 : Int) ≤ (y.toNat : Int) := by omega
      have hy1 : (y.toNat : Int) < 256 := by have := y.toNat_lt; omega
      clear hy
      go_wp2_with (first
        | (at_builtin; refine push_law rfl (.tmp 9) (.tmp 13) rfl rfl rfl y OW.out rfl LN.out BW.out.size BW.out ?_; intro v2 w2 OW2 BW2))
      rw [← HN.out] at OW2
      clear hyz hym
      go_roundw
      case rel => exact ⟨k + 1, z / 256, by omega, rfl, by go_num, by omega, by omega, HZ2, OW2, BW2⟩
      case measure => simp [intOf]; omega
    · obtain rfl : k = 8 := by omega
      rw [show ((8 : Nat) : Int) = 8 from rfl]
      go_wp2_with fail
      go_ret
      exact ⟨_, rfl, OW.out, BW.out⟩

set_option maxRecDepth 100000 in
set_option maxHeartbeats 8000000 in
theorem rmark_any (key nonce : List UInt8) {w : World} {A A' : Option Addr} {n c n' c' : Nat} {ad cc : List UInt8} (hk : key.length = 32) (hn : nonce.length = 12) (hra : Rd w A n c ad) (hrc : Rd w A' n' c' cc) (hn1 : n ≤ 100000) (hn2 : n' ≤ 100000) :
    Calls Tryd.prog 50 #[.agg (key.map cellOf).toArray, .agg (nonce.map cellOf).toArray, .slice A n c, .slice A' n' c'] w fun e w' => ∃ g, e = .returned (.slice (some ⟨g, 0, none⟩) 16 16) ∧ Rd w' (some ⟨g, 0, none⟩) 16 16 (Ae.mark key nonce ad cc) ∧ w.heap.size ≤ g ∧ Below w.heap.size w w' := by
  obtain ⟨kc, hkc⟩ : ∃ c, c = key.map cellOf := ⟨_, rfl⟩
  obtain ⟨nc, hnc⟩ : ∃ c, c = nonce.map cellOf := ⟨_, rfl⟩
  have CB := Lib.hid (fun W => rblock_any key nonce 0 W hk hn)
  rw [← hkc, ← hnc] at CB
  rw [← hkc, ← hnc]
  obtain ⟨bk, hbk⟩ : ∃ l, l = Cha.block key 0 nonce := ⟨_, rfl⟩
  rw [← hbk] at CB
  have LBK : Hid (bk.length = 64) := by unfold Hid; rw [hbk]; exact Cha.block_length key 0 nonce
  obtain ⟨bc, hbc⟩ : ∃ c, c = bk.map cellOf := ⟨_, rfl⟩
  rw [← hbc] at CB
  have HMARK : Hid (Ae.mark key nonce ad cc = Pol.tag (bk.take 32) (Ae.text ad cc)) := by unfold Hid Ae.mark; rw [← hbk]
  have IK : Hid ((Tryd.prog.info? 28).map (·.size) = some kc.length) := by unfold Hid; rw [hkc, List.length_map, hk]; kernel_rfl
  have IN : Hid ((Tryd.prog.info? 30).map (·.size) = some nc.length) := by unfold Hid; rw [hnc, List.length_map, hn]; kernel_rfl
  have IB : Hid ((Tryd.prog.info? 32).map (·.size) = some bc.length) := by unfold Hid; rw [hbc, List.length_map, LBK.out]; kernel_rfl
  have LBC : Hid ((List.replicate 64 (Value.int .u8 0)).length = bc.length) := by unfold Hid; rw [hbc, List.length_map, LBK.out]; rfl
  have OBC : Hid (∀ v ∈ bc, v.oneCell' = true) := by unfold Hid; rw [hbc]; exact cells_u8 _
  have HRA := Lib.hid hra
  have HRC := Lib.hid hrc
  have HLA := Lib.hid hra.len
  have HLC := Lib.hid hrc.len
  have HBC := Lib.hid hbc
  clear hkc hnc hbk hbc hra hrc hk hn
  go_enter Tryd.func50, Tryd.ntmps50
  go_upto_region 1 with (fail)
  obtain ⟨w0, hw0⟩ : ∃ w0, w0 = (w.alloc (Obj.cells kc.toArray 28)).alloc (Obj.cells nc.toArray 30) := ⟨_, rfl⟩
  have B0 : Hid (Blk w0 w.heap.size 28 kc) := by unfold Hid; rw [hw0]; exact (Blk.new w _ _).alloc _
  have B1 : Hid (Blk w0 (w.heap.size + 1) 30 nc) := by unfold Hid; rw [hw0]; exact Blk.at_new _ _ _ _ _ rfl (by simp)
  have W0 : Hid (Below w.heap.size w w0) := by unfold Hid; rw [hw0]; exact ((Below.refl _ _).alloc (Nat.le_refl _) _).alloc (by simp) _
  change Code.wp _ _ _ _ ((w.alloc (Obj.cells kc.toArray 28)).alloc (Obj.cells nc.toArray 30))
  rw [← hw0]
  clear hw0
  go_wp2_with (first
    | ((with_reducible refine load_law rfl 28 (.tmp 4) rfl w.heap.size 0 rfl kc _ Tryd.underlying28 rfl IK.out B0.out.cells ?_))
    | ((with_reducible refine load_law rfl 30 (.tmp 5) rfl (w.heap.size + 1) 0 rfl nc _ Tryd.underlying30 rfl IN.out B1.out.cells ?_)))
  refine (CB.out w0).mono ?_
  rintro e w1 ⟨rfl, hX⟩
  have W1 := Lib.hid (W0.out.trans (hX.mono W0.out.size))
  clear hX B0 B1 W0 CB IK IN
  go_upto_region 2 with (first
    | ((with_reducible refine storeGen_law rfl 32 (.tmp 9) (.tmp 15) rfl w1.heap.size rfl bc rfl 32 (List.replicate 64 (.int .u8 0)) IB.out LBC.out OBC.out w1.heap.size w1 ?_ ?_ (Nat.le_refl _) ?_)
       · exact Blk.at_new _ _ 32 _ _ (by rfl) rfl
       · exact (Below.refl _ _).alloc (Nat.le_refl _) _
       intro w2 B2 X2))
  have W2 := Lib.hid (W1.out.trans (X2.out.mono W1.out.size))
  obtain ⟨gb, hgb⟩ : ∃ g, g = w1.heap.size := ⟨_, rfl⟩
  rw [← hgb] at B2
  rw [← hgb]
  clear X2 hgb W1
  go_upto_region 3 with (fail)
  obtain ⟨g1, hg1⟩ : ∃ g, g = w2.heap.size := ⟨_, rfl⟩
  obtain ⟨wb, hwb⟩ : ∃ x, x = w2.alloc (Obj.cells (List.replicate 32 (.int .u8 0)).toArray 28) := ⟨_, rfl⟩
  change Code.wp _ _ _ _ (w2.alloc (Obj.cells (List.replicate 32 (.int .u8 0)).toArray 28))
  have C1 : Blk wb.drew g1 28 (List.replicate 32 (.int .u8 0)) := by rw [hwb, hg1]; exact Blk.new w2 _ _
  have C2 : Blk wb.drew gb 32 bc := by rw [hwb]; exact B2.out.alloc _
  have XB : Below w2.heap.size w2 wb.drew := by rw [hwb]; exact ((Below.refl _ _).alloc (Nat.le_refl _) _).drew
  rw [← hwb, ← hg1]
  have RB : Rd wb.drew (some ⟨gb, 0, none⟩) 32 64 (bk.take 32) := Rd.of_block C2 (by rw [List.length_take, LBK.out]; rfl) (by omega) (by unfold maxLen; omega) (fun j hj => by
    rw [HBC.out, Nat.zero_add]
    have hj2 : j < bk.length := by rw [LBK.out]; omega
    simp [List.getD_eq_getElem?_getD, List.getElem?_take, hj, List.getElem?_eq_getElem hj2])
  obtain ⟨w3, hcopy, hB3, hO3⟩ := copy_into (off := 0) (dLen := 32) (dCap := 32) C1 RB (by simp)
  have hsl1 := fun W => sliceAt_all 28 32 Tryd.underlying28 g1 0 W
  have hsl2 := fun W => sliceAt_h 32 64 Tryd.underlying32 gb 0 32 (by omega) W
  rw [show ((32 : Nat) : Int) = 32 from rfl] at hsl2
  have hcells : (List.replicate 32 (Value.int .u8 0)).take 0 ++ ((bk.take 32).take (min 32 32)).map cellOf ++ (List.replicate 32 (Value.int .u8 0)).drop (0 + min 32 32) = (bk.take 32).map cellOf := by
    rw [Nat.min_self, List.take_take, Nat.min_self, List.take_zero, List.nil_append, List.drop_of_length_le (by simp), List.append_nil]
  rw [hcells] at hB3
  obtain ⟨k1, hk1⟩ : ∃ l, l = bk.take 32 := ⟨_, rfl⟩
  have LK1 : Hid (k1.length = 32) := by unfold Hid; rw [hk1, List.length_take, LBK.out]; rfl
  rw [← hk1] at hB3 HMARK
  have B3 := Lib.hid hB3
  have X3 : Below w2.heap.size w2 w3 := below_of_only XB hO3 (by omega) XB.size
  have W3 := Lib.hid (W2.out.trans (X3.mono W2.out.size))
  clear hwb hB3 hO3 C1 C2 RB hcells hk1 XB X3 B2 W2 hg1 HBC
  refine wp_region_still_tail 2 (by kernel_rfl) (by kernel_rfl) ?_
  simp only [List.take_succ_cons, List.take_zero, List.drop_succ_cons, List.drop_zero]
  have hD : ({ wb with drawn := wb.drawn + 1 } : World) = wb.drew := rfl
  rw [hD]
  clear hD
  generalize wb.drew = wd at *
  repeat still_step
  refine wpStill_nil ?_
  have HRA3 := Lib.hid (HRA.out.below W3.out)
  have HRC3 := Lib.hid (HRC.out.below W3.out)
  have E0 := Lib.hid (Ow.empty w3 w3.heap.size)
  have LN0 : Hid (([] : List UInt8).length + n ≤ 140737488355328) := by unfold Hid; simp; omega
  go_upto_region 5 with (first
    | (at_builtin; refine onto_law rfl (.const (.slice none 0 0)) (.tmp 19) rfl rfl rfl HRA3.out E0.out LN0.out (Nat.le_refl _) (Below.refl _ _) ?_; intro v4 w4 O4 X4))
  clear hcopy hsl1 hsl2 E0 LN0
  rw [List.nil_append] at O4
  obtain ⟨A4, c4, rfl, _, _⟩ := O4.out.value
  rw [HLA.out] at O4
  rw [HLA.out]
  have L4 := HLA
  go_loopw [11] (fun v wr => ∃ (AP : Option Addr) (np cp : Nat) (m : List UInt8), v = .slice AP np cp ∧ np ≤ 300000 ∧ Hid (m.length = np) ∧ Hid (np ≤ ad.length + 15) ∧ Hid (Ae.up m = Ae.up ad) ∧ Hid (Ow wr w3.heap.size (.slice AP np cp) m) ∧ Hid (Below w3.heap.size w3 wr)) (fun v _ => Ae.gap (sliceLen v))
  case atStart => exact ⟨_, _, _, _, rfl, by omega, L4, by unfold Hid; have := L4.out; omega, rfl, O4, X4⟩
  case round =>
    clear O4 X4 L4
    obtain ⟨AP, np, cp, m, rfl, hnm, LM, LB, HU, OM, XM⟩ := hrel
    by_cases h16 : np % 16 = 0
    · have hne : (((np : Int) % 16) != 0) = false := by simp; omega
      have HUP : Hid (m = Ae.up ad) := by unfold Hid; rw [← HU.out, Ae.up_of m (by rw [LM.out]; exact h16)]
      obtain ⟨u1, hu1⟩ : ∃ u, u = Ae.up ad := ⟨_, rfl⟩
      rw [← hu1] at HUP
      have HU1 := Lib.hid hu1
      have hm1 := HUP.out
      subst hm1
      have HRC5 := Lib.hid (HRC3.out.below XM.out)
      have LN1 : Hid (m.length + n' ≤ 140737488355328) := by unfold Hid; rw [LM.out]; omega
      clear hu1 HUP
      go_upto_region 8 with (first
        | (at_builtin; refine onto_law rfl (.tmp 28) (.tmp 29) rfl rfl rfl HRC5.out OM.out LN1.out XM.out.size XM.out ?_; intro v6 w6 O6 X6))
      obtain ⟨t6, ht6⟩ : ∃ t, t = m ++ cc := ⟨_, rfl⟩
      rw [← ht6] at O6
      obtain ⟨n6, hn6⟩ : ∃ x, x = t6.length := ⟨_, rfl⟩
      obtain ⟨A6, c6, rfl, _, _⟩ := O6.out.value
      rw [← hn6] at O6
      rw [← hn6]
      have L6 : Hid (t6.length = n6) := hn6.symm
      have hn6b : n6 ≤ 250000 := by
        rw [hn6, ht6, List.length_append, LM.out, HLC.out]
        have := LB.out
        have := HLA.out
        omega
      have HT6 : Hid (t6 = Ae.up ad ++ cc) := by unfold Hid; rw [ht6, HU1.out]
      clear ht6 hn6 HRC5 LN1 OM XM hne h16 HU
      go_loopw [11] (fun v wr => ∃ (AM : Option Addr) (nm cm : Nat) (m : List UInt8), v = .slice AM nm cm ∧ nm ≤ 300000 ∧ Hid (m.length = nm) ∧ Hid (nm ≤ t6.length + 15) ∧ Hid (Ae.up m = Ae.up t6) ∧ Hid (Ow wr w3.heap.size (.slice AM nm cm) m) ∧ Hid (Below w3.heap.size w3 wr)) (fun v _ => Ae.gap (sliceLen v))
      case atStart => exact ⟨_, _, _, _, rfl, by omega, L6, by unfold Hid; have := L6.out; omega, rfl, O6, X6⟩
      case round =>
        clear O6 X6 L6
        obtain ⟨AM, nm, cm, m, rfl, hnm, LM, LB, HU, OM, XM⟩ := hrel
        by_cases h16 : nm % 16 = 0
        · have hne : (((nm : Int) % 16) != 0) = false := by simp; omega
          have HUP : Hid (m = Ae.up t6) := by unfold Hid; rw [← HU.out, Ae.up_of m (by rw [LM.out]; exact h16)]
          have HTM : Hid (m = Ae.up (Ae.up ad ++ cc)) := by unfold Hid; rw [HUP.out, HT6.out]
          obtain ⟨e1, he1⟩ : ∃ e, e = Pol.bytesN 8 (n : Int) := ⟨_, rfl⟩
          obtain ⟨e2, he2⟩ : ∃ e, e = Pol.bytesN 8 (n' : Int) := ⟨_, rfl⟩
          have LE1 : Hid (e1.length = 8) := by unfold Hid; rw [he1, Pol.bytesN_length]
          have LE2 : Hid (e2.length = 8) := by unfold Hid; rw [he2, Pol.bytesN_length]
          have HTXT : Hid (m ++ e1 ++ e2 = Ae.text ad cc) := by unfold Hid Ae.text; rw [← HTM.out, he1, he2, HLA.out, HLC.out]
          have CE1 : Hid (∀ W, Calls Tryd.prog 58 #[.int .i64 (n : Int)] W (RetB W e1)) := fun W => by rw [he1]; exact reight_any n W (by omega)
          have CE2 : Hid (∀ W, Calls Tryd.prog 58 #[.int .i64 (n' : Int)] W (RetB W e2)) := fun W => by rw [he2]; exact reight_any n' W (by omega)
          obtain ⟨T, hT⟩ : ∃ T, T = (Ae.mark key nonce ad cc).map cellOf := ⟨_, rfl⟩
          obtain ⟨kk, hkk⟩ : ∃ c, c = k1.map cellOf := ⟨_, rfl⟩
          have hnmb : nm ≤ 300000 := hnm
          have CT : Hid (∀ (W : World) (AX : Option Addr) (nx cx : Nat), nx ≤ 1000000 → Rd W AX nx cx (m ++ e1 ++ e2) → Calls Tryd.prog 25 #[.agg kk.toArray, .slice AX nx cx] W fun e w' => e = .returned (.agg T.toArray) ∧ Below W.heap.size W w') := fun W AX nx cx hx h => by
            rw [hkk, hT, HMARK.out, ← HTXT.out]
            exact rtag_any k1 LK1.out h hx
          have hTl : T.length = 16 := by rw [hT, List.length_map, Ae.mark_length]
          have IT : Hid ((Tryd.prog.info? 37).map (·.size) = some T.length) := by unfold Hid; rw [hTl]; kernel_rfl
          have LT : Hid ((List.replicate 16 (Value.int .u8 0)).length = T.length) := by unfold Hid; rw [hTl]; rfl
          have OT : Hid (∀ v ∈ T, v.oneCell' = true) := by unfold Hid; rw [hT]; exact cells_u8 _
          have IKK : Hid ((Tryd.prog.info? 28).map (·.size) = some kk.length) := by unfold Hid; rw [hkk, List.length_map, LK1.out]; kernel_rfl
          have BKK : Hid (Blk w3 g1 28 kk) := by unfold Hid; rw [hkk]; exact B3.out
          have HTT := Lib.hid hT
          have LM5 : Hid (m.length + 8 ≤ 140737488355328) := by unfold Hid; rw [LM.out]; omega
          have LM9 : Hid ((m ++ e1).length + 8 ≤ 140737488355328) := by unfold Hid; rw [List.length_append, LM.out, LE1.out]; omega
          have LTX : Hid ((m ++ e1 ++ e2).length ≤ 1000000) := by unfold Hid; rw [List.length_append, List.length_append, LM.out, LE1.out, LE2.out]; omega
          clear he1 he2 hT hkk hTl HTM HTXT
          go_upto_region 10 with (fail)
          refine wp_region_any (by kernel_rfl) ?_
          change wpAny _ _ _ _ _ _ _ (World.drew _)
          have DO : Hid (Ow wr.drew w3.heap.size (.slice AM nm cm) m) := OM.out
          have DX : Hid (Below w3.heap.size w3 wr.drew) := XM.out.drew
          clear OM XM hne
          generalize wr.drew = w5 at *
          refine wpAny_take (i := 1) (oi := ?oi8) (v := .slice AM nm cm) ?hi8 (by kernel_rfl) (by kernel_rfl) (by kernel_rfl) ?hQ8 ?hy8 ?rest8
          case hi8 => simp only [List.getElem?_toArray, List.getElem?_cons_succ, List.getElem?_cons_zero]; rfl
          case hQ8 => exact fun _ _ _ h => h
          case hy8 => exact Or.inl ⟨by rfl, by intro w; go_simp⟩
          try simp only [Act.put, List.setIfInBounds_toArray, List.set_cons_zero, List.set_cons_succ]
          refine wpAny_take (i := 2) (oi := ?oi9) (v := .slice A n c) ?hi9 (by kernel_rfl) (by kernel_rfl) (by kernel_rfl) ?hQ9 ?hy9 ?rest9
          case hi9 => simp only [List.getElem?_toArray, List.getElem?_cons_succ, List.getElem?_cons_zero]; rfl
          case hQ9 => exact fun _ _ _ h => h
          case hy9 => exact Or.inl ⟨by rfl, by intro w; go_simp⟩
          try simp only [Act.put, List.setIfInBounds_toArray, List.set_cons_zero, List.set_cons_succ]
          refine wpAny_take (i := 3) (oi := ?oi10) (v := .int .i64 (n : Int)) ?hi10 (by kernel_rfl) (by kernel_rfl) (by kernel_rfl) ?hQ10 ?hy10 ?rest10
          case hi10 => simp only [List.getElem?_toArray, List.getElem?_cons_succ, List.getElem?_cons_zero]; rfl
          case hQ10 => exact fun _ _ _ h => h
          case hy10 => exact Or.inl ⟨by rfl, by intro w; go_simp⟩
          try simp only [Act.put, List.setIfInBounds_toArray, List.set_cons_zero, List.set_cons_succ]
          refine wpAny_take (i := 6) (oi := ?oi11) (v := .slice A' n' c') ?hi11 (by kernel_rfl) (by kernel_rfl) (by kernel_rfl) ?hQ11 ?hy11 ?rest11
          case hi11 => simp only [List.getElem?_toArray, List.getElem?_cons_succ, List.getElem?_cons_zero]; rfl
          case hQ11 => exact fun _ _ _ h => h
          case hy11 => exact Or.inl ⟨by rfl, by intro w; go_simp⟩
          try simp only [Act.put, List.setIfInBounds_toArray, List.set_cons_zero, List.set_cons_succ]
          refine wpAny_take (i := 7) (oi := ?oi12) (v := .int .i64 (n' : Int)) ?hi12 (by kernel_rfl) (by kernel_rfl) (by kernel_rfl) ?hQ12 ?hy12 ?rest12
          case hi12 => simp only [List.getElem?_toArray, List.getElem?_cons_succ, List.getElem?_cons_zero]; rfl
          case hQ12 => exact fun _ _ _ h => h
          case hy12 => exact Or.inl ⟨by rfl, by intro w; go_simp⟩
          try simp only [Act.put, List.setIfInBounds_toArray, List.set_cons_zero, List.set_cons_succ]
          refine phase (fun i => if i = 5 then [4] else if i = 8 then [5] else if i = 9 then [5, 8] else if i = 10 then [0, 9] else []) (fun d a w' => ∃ x12 x38 x42 x43 x46 x47 x48 : Value, a = { tmps := #[.agg kc.toArray, .agg nc.toArray, .slice A n c, .slice A' n' c', .pointer (some ⟨w.heap.size, 0, none⟩), .pointer (some ⟨w.heap.size + 1, 0, none⟩), undef, undef, .slice none 0 0, .pointer (some ⟨gb, 0, none⟩), .pointer (some ⟨g1, 0, none⟩), .slice AM nm cm, x12, .agg kc.toArray, .agg nc.toArray, .agg bc.toArray, .slice (some ⟨g1, 0, none⟩) 32 32, .slice (some ⟨gb, 0, none⟩) 32 64, .int .i64 32, .slice A n c, .slice A4 n c4, .slice AP np cp, .int .i64 (np : Int), .int .i64 ((np : Int) % 16), .bool false, u25, u26, u27, .slice AP np cp, .slice A' n' c', .slice A6 n6 c6, .slice AM nm cm, .int .i64 (nm : Int), .int .i64 ((nm : Int) % 16), .bool false, u35, u36, u37, x38, .slice AM nm cm, .slice A n c, .int .i64 (n : Int), x42, x43, .slice A' n' c', .int .i64 (n' : Int), x46, x47, x48, undef], defers := [] } ∧ Hid (Below w3.heap.size w3 w')
            ∧ (d 0 = true → x38 = .agg kk.toArray) ∧ (d 4 = true → d 5 = false → Hid (∃ AX cx, x42 = .slice AX 8 cx ∧ Rd w' AX 8 cx e1)) ∧ (d 5 = false → Hid (Ow w' w3.heap.size (.slice AM nm cm) m)) ∧ (d 5 = true → d 9 = false → Hid (Ow w' w3.heap.size x43 (m ++ e1)))
            ∧ (d 8 = true → d 9 = false → Hid (∃ AX cx, x46 = .slice AX 8 cx ∧ Rd w' AX 8 cx e2)) ∧ (d 9 = true → Hid (∃ AX nx cx, x47 = .slice AX nx cx ∧ nx ≤ 1000000 ∧ Rd w' AX nx cx (m ++ e1 ++ e2))) ∧ (d 10 = true → x48 = .agg T.toArray)
            ∧ (d 5 = false → d 8 = false ∧ d 9 = false) ∧ (d 11 = true → Hid (∃ g, x12 = .pointer (some ⟨g, 0, none⟩) ∧ w3.heap.size ≤ g ∧ Blk w' g 37 (List.replicate 16 (.int .u8 0))))) [0, 4, 5, 8, 9, 10, 11] ?step 1 7 [0, 4, 5, 8, 9, 10, 11] _ _ _ rfl (by decide) (fun _ h => h) (by kernel_rfl) ?init ?fin
          case init =>
            refine ⟨_, _, _, _, _, _, _, rfl, DX, fun h => absurd h (by decide), fun h => absurd h (by decide), fun _ => DO, fun h => absurd h (by decide), fun h => absurd h (by decide), fun h => absurd h (by decide), fun h => absurd h (by decide), fun _ => ⟨by decide, by decide⟩, fun h => absurd h (by decide)⟩
          case step =>
            intro i hi d a w6 hI hdi hdeps
            obtain ⟨x12, x38, x42, x43, x46, x47, x48, rfl, BW6, h0, h4, hm0, h5, h8, h9, h10, h589, h11⟩ := hI
            have hs6 := BW6.out.size
            have H4' : Hid (∀ w7, Below w6.heap.size w6 w7 → (d 4 = true → d 5 = false → Hid (∃ AX cx, x42 = .slice AX 8 cx ∧ Rd w7 AX 8 cx e1))) := fun w7 hX a b => by obtain ⟨AX, cx, e, hR⟩ := (h4 a b).out; exact ⟨AX, cx, e, hR.below hX⟩
            have HM' : Hid (∀ w7, Below w6.heap.size w6 w7 → (d 5 = false → Hid (Ow w7 w3.heap.size (.slice AM nm cm) m))) := fun w7 hX b => (hm0 b).out.keep hX
            have H5' : Hid (∀ w7, Below w6.heap.size w6 w7 → (d 5 = true → d 9 = false → Hid (Ow w7 w3.heap.size x43 (m ++ e1)))) := fun w7 hX a b => (h5 a b).out.keep hX
            have H8' : Hid (∀ w7, Below w6.heap.size w6 w7 → (d 8 = true → d 9 = false → Hid (∃ AX cx, x46 = .slice AX 8 cx ∧ Rd w7 AX 8 cx e2))) := fun w7 hX a b => by obtain ⟨AX, cx, e, hR⟩ := (h8 a b).out; exact ⟨AX, cx, e, hR.below hX⟩
            have H9' : Hid (∀ w7, Below w6.heap.size w6 w7 → (d 9 = true → Hid (∃ AX nx cx, x47 = .slice AX nx cx ∧ nx ≤ 1000000 ∧ Rd w7 AX nx cx (m ++ e1 ++ e2)))) := fun w7 hX a => by obtain ⟨AX, nx, cx, e, hx, hR⟩ := (h9 a).out; exact ⟨AX, nx, cx, e, hx, hR.below hX⟩
            have H11' : Hid (∀ w7, Below w6.heap.size w6 w7 → (d 11 = true → Hid (∃ g, x12 = .pointer (some ⟨g, 0, none⟩) ∧ w3.heap.size ≤ g ∧ Blk w7 g 37 (List.replicate 16 (.int .u8 0))))) := fun w7 hX a => by obtain ⟨g, e, hg, hB⟩ := (h11 a).out; exact ⟨g, e, hg, hB.below hX hB.lt⟩
            simp only [List.mem_cons, List.not_mem_nil, or_false] at hi
            rcases hi with rfl | rfl | rfl | rfl | rfl | rfl | rfl
            · refine wpOp_step (o := ?os1) ?hos1 (fun K hK => ?_)
              case hos1 => simp only [List.getElem?_toArray, List.getElem?_cons_succ, List.getElem?_cons_zero]; rfl
              refine step_loadL rfl 28 (.tmp 10) rfl g1 0 rfl kk _ Tryd.underlying28 rfl IKK.out (BKK.out.below BW6.out BKK.out.lt).cells (hK _ _ ?_)
              clear hK K
              try simp only [Act.put, List.setIfInBounds_toArray, List.set_cons_zero, List.set_cons_succ]
              exact ⟨x12, _, x42, x43, x46, x47, x48, rfl, BW6, fun _ => rfl, fun a b => h4 (by simpa using a) (by simpa using b), fun b => hm0 (by simpa using b), fun a b => h5 (by simpa using a) (by simpa using b), fun a b => h8 (by simpa using a) (by simpa using b), fun a => h9 (by simpa using a), fun a => h10 (by simpa using a), fun b => by simpa using h589 (by simpa using b), fun a => h11 (by simpa using a)⟩
            · refine wpOp_step (o := ?os2) ?hos2 (fun K hK => ?_)
              case hos2 => simp only [List.getElem?_toArray, List.getElem?_cons_succ, List.getElem?_cons_zero]; rfl
              clear h4 hm0 h5 h8 h9 h11
              go_simp
              refine (CE1.out w6).mono ?_
              rintro e w7 ⟨v7, rfl, hO, hX⟩
              refine hK _ _ ?_
              clear hK K
              try simp only [Act.put, List.setIfInBounds_toArray, List.set_cons_zero, List.set_cons_succ]
              obtain ⟨AX, cx, rfl, hR, _⟩ := hO.value
              rw [LE1.out] at hR
              rw [LE1.out]
              exact ⟨x12, x38, _, x43, x46, x47, x48, rfl, BW6.out.trans (hX.mono hs6), fun a => h0 (by simpa using a), fun _ _ => ⟨_, _, rfl, hR⟩, fun b => HM'.out w7 hX (by simpa using b), fun a b => H5'.out w7 hX (by simpa using a) (by simpa using b), fun a b => H8'.out w7 hX (by simpa using a) (by simpa using b), fun a => H9'.out w7 hX (by simpa using a), fun a => h10 (by simpa using a), fun b => by simpa using h589 (by simpa using b), fun a => H11'.out w7 hX (by simpa using a)⟩
            · obtain ⟨AX, cx, rfl, hR⟩ := (h4 (hdeps 4 (by simp)) hdi).out
              have hO := (hm0 hdi).out
              obtain ⟨bx, ox, rfl, _, _⟩ := hR.at_ (by omega)
              refine wpOp_step (o := ?os3) ?hos3 (fun K hK => ?_)
              case hos3 => simp only [List.getElem?_toArray, List.getElem?_cons_succ, List.getElem?_cons_zero]; rfl
              refine step_app (w0 := w3) rfl (.tmp 39) (.tmp 42) rfl rfl rfl hR hO LM5.out (by omega) hs6 BW6.out ?_
              intro v7 w7 O7 X7 G7 _
              refine hK _ _ ?_
              clear hK K
              try simp only [Act.put, List.setIfInBounds_toArray, List.set_cons_zero, List.set_cons_succ]
              refine ⟨x12, x38, _, v7, x46, x47, x48, rfl, X7, fun a => h0 (by simpa using a), fun _ b => absurd b (by simp), fun b => absurd b (by simp), fun _ _ => O7, fun a b => ?_, fun a => ?_, fun a => h10 (by simpa using a), fun b => absurd b (by simp), fun a => ?_⟩
              · rw [(h589 hdi).1] at a; exact absurd a (by simp)
              · rw [(h589 hdi).2] at a; exact absurd a (by simp)
              · obtain ⟨g, e, hg, hB⟩ := (h11 (by simpa using a)).out
                exact ⟨g, e, hg, (G7.out.block g hB.lt (blk_apart hB hO (by decide))).trans hB⟩
            · have hd5 := hdeps 5 (by simp)
              refine wpOp_step (o := ?os4) ?hos4 (fun K hK => ?_)
              case hos4 => simp only [List.getElem?_toArray, List.getElem?_cons_succ, List.getElem?_cons_zero]; rfl
              clear h4 hm0 h5 h8 h9 h11
              go_simp
              refine (CE2.out w6).mono ?_
              rintro e w7 ⟨v7, rfl, hO, hX⟩
              refine hK _ _ ?_
              clear hK K
              try simp only [Act.put, List.setIfInBounds_toArray, List.set_cons_zero, List.set_cons_succ]
              obtain ⟨AX, cx, rfl, hR, _⟩ := hO.value
              rw [LE2.out] at hR
              rw [LE2.out]
              exact ⟨x12, x38, x42, x43, _, x47, x48, rfl, BW6.out.trans (hX.mono hs6), fun a => h0 (by simpa using a), fun a b => H4'.out w7 hX (by simpa using a) (by simpa using b), fun b => HM'.out w7 hX (by simpa using b), fun a b => H5'.out w7 hX (by simpa using a) (by simpa using b), fun _ _ => ⟨_, _, rfl, hR⟩, fun a => H9'.out w7 hX (by simpa using a), fun a => h10 (by simpa using a), fun b => absurd b (by simp [hd5]), fun a => H11'.out w7 hX (by simpa using a)⟩
            · obtain ⟨AX, cx, rfl, hR⟩ := (h8 (hdeps 8 (by simp)) hdi).out
              have hd5 := hdeps 5 (by simp)
              have hO := (h5 hd5 hdi).out
              obtain ⟨bx, ox, rfl, _, _⟩ := hR.at_ (by omega)
              refine wpOp_step (o := ?os5) ?hos5 (fun K hK => ?_)
              case hos5 => simp only [List.getElem?_toArray, List.getElem?_cons_succ, List.getElem?_cons_zero]; rfl
              refine step_app (w0 := w3) rfl (.tmp 43) (.tmp 46) rfl rfl rfl hR hO LM9.out (by omega) hs6 BW6.out ?_
              intro v7 w7 O7 X7 G7 _
              refine hK _ _ ?_
              clear hK K
              try simp only [Act.put, List.setIfInBounds_toArray, List.set_cons_zero, List.set_cons_succ]
              obtain ⟨A7, c7, rfl, hR7, _⟩ := O7.out.value
              refine ⟨x12, x38, x42, x43, _, _, x48, rfl, X7, fun a => h0 (by simpa using a), fun _ b => absurd b (by simp [hd5]), fun b => absurd b (by simp [hd5]), fun _ b => absurd b (by simp), fun _ b => absurd b (by simp), fun _ => ⟨_, _, _, rfl, LTX.out, hR7⟩, fun a => h10 (by simpa using a), fun b => absurd b (by simp [hd5]), fun a => ?_⟩
              obtain ⟨g, e, hg, hB⟩ := (h11 (by simpa using a)).out
              exact ⟨g, e, hg, (G7.out.block g hB.lt (blk_apart hB hO (by decide))).trans hB⟩
            · obtain rfl := h0 (hdeps 0 (by simp))
              obtain ⟨AX, nx, cx, rfl, hnx, hR⟩ := (h9 (hdeps 9 (by simp))).out
              have HRX := Lib.hid hR
              refine wpOp_step (o := ?os6) ?hos6 (fun K hK => ?_)
              case hos6 => simp only [List.getElem?_toArray, List.getElem?_cons_succ, List.getElem?_cons_zero]; rfl
              clear h4 hm0 h5 h8 h9 h11 hR
              go_simp
              refine (CT.out w6 AX nx cx hnx HRX.out).mono ?_
              rintro e w7 ⟨rfl, hX⟩
              refine hK _ _ ?_
              clear hK K
              try simp only [Act.put, List.setIfInBounds_toArray, List.set_cons_zero, List.set_cons_succ]
              exact ⟨x12, _, x42, x43, x46, _, _, rfl, BW6.out.trans (hX.mono hs6), fun _ => rfl, fun a b => H4'.out w7 hX (by simpa using a) (by simpa using b), fun b => HM'.out w7 hX (by simpa using b), fun a b => H5'.out w7 hX (by simpa using a) (by simpa using b), fun a b => H8'.out w7 hX (by simpa using a) (by simpa using b), fun a => H9'.out w7 hX (by simpa using a), fun _ => rfl, fun b => by simpa using h589 (by simpa using b), fun a => H11'.out w7 hX (by simpa using a)⟩
            · refine wpOp_step (o := ?os7) ?hos7 (fun K hK => ?_)
              case hos7 => simp only [List.getElem?_toArray, List.getElem?_cons_succ, List.getElem?_cons_zero]; rfl
              clear h4 hm0 h5 h8 h9 h11
              go_simp
              refine hK _ _ ?_
              clear hK K
              try simp only [Act.put, List.setIfInBounds_toArray, List.set_cons_zero, List.set_cons_succ]
              have hX : Below w6.heap.size w6 (w6.alloc (Obj.cells (List.replicate 16 (.int .u8 0)).toArray 37)) := (Below.refl _ _).alloc (Nat.le_refl _) _
              exact ⟨_, x38, x42, x43, x46, x47, x48, rfl, BW6.out.trans (hX.mono hs6), fun a => h0 (by simpa using a), fun a b => H4'.out _ hX (by simpa using a) (by simpa using b), fun b => HM'.out _ hX (by simpa using b), fun a b => H5'.out _ hX (by simpa using a) (by simpa using b), fun a b => H8'.out _ hX (by simpa using a) (by simpa using b), fun a => H9'.out _ hX (by simpa using a), fun a => h10 (by simpa using a), fun b => by simpa using h589 (by simpa using b), fun _ => ⟨_, rfl, hs6, Blk.at_new _ _ _ _ _ (by rfl) rfl⟩⟩
          case fin =>
            intro a w6 hI
            obtain ⟨x12, x38, x42, x43, x46, x47, x48, rfl, BW6, h0, h4, hm0, h5, h8, h9, h10, h589, h11⟩ := hI
            obtain rfl := h10 (by decide)
            obtain ⟨gt, rfl, hgt, hBt⟩ := (h11 (by decide)).out
            clear h0 h4 hm0 h5 h8 h9 h10 h11
            have WZ : Below w.heap.size w w6 := W3.out.trans (BW6.out.mono W3.out.size)
            dsimp only
            refine wpAny_ready (rs := [12]) (by kernel_rfl) (by simp) ?_
            refine AllReady.cons (o := ?pz) ?qz (fun K hK => ?_) AllReady.nil
            case qz => simp only [List.getElem?_toArray, List.getElem?_cons_succ, List.getElem?_cons_zero]; rfl
            refine step_storeAll rfl 37 (.tmp 12) (.tmp 48) rfl gt rfl T rfl 37 (List.replicate 16 (Value.int .u8 0)) hBt IT.out LT.out OT.out (hK _ _ ?_)
            clear hK K
            try simp only [Act.put, List.setIfInBounds_toArray, List.set_cons_zero, List.set_cons_succ]
            refine wpAny_done (by kernel_rfl) ?_ _
            have GT : Hid (Blk (w6.setRow gt T.toArray) gt 37 T) := Blk.row hBt
            have hwg : w.heap.size ≤ gt := Nat.le_trans W3.out.size hgt
            have GW := Lib.hid (below_setRow WZ hwg T.toArray)
            clear hBt WZ BW6
            generalize w6.setRow gt T.toArray = w7 at *
            have hsl := fun W => sliceAt_all 37 16 Tryd.underlying37 gt 0 W
            go_wp2_with fail
            go_ret
            refine ⟨gt, rfl, Rd.of_block GT.out (Ae.mark_length _ _ _ _) (Nat.le_refl _) (by unfold maxLen; omega) (fun j hj => ?_), hwg, GW.out⟩
            rw [HTT.out, Nat.zero_add]
            have hj2 : j < (Ae.mark key nonce ad cc).length := by rw [Ae.mark_length]; exact hj
            simp [List.getD_eq_getElem?_getD, List.getElem?_eq_getElem hj2]
        · have hne : (((nm : Int) % 16) != 0) = true := by simp; omega
          have HU2 : Hid (Ae.up (m ++ [0]) = Ae.up t6) := by unfold Hid; rw [Ae.up_more m (by rw [LM.out]; exact h16), HU.out]
          have LM1 : Hid (m.length + 1 ≤ 140737488355328) := by unfold Hid; rw [LM.out]; omega
          have LB2 : Hid (nm + 1 ≤ t6.length + 15) := by
            unfold Hid
            have h1 := Ae.up_length m
            have h2 := (Ae.up_length t6).2.2
            rw [HU.out] at h1
            have h3 := LM.out
            omega
          go_wp2_with (first
            | (at_builtin; refine push_law rfl (.tmp 35) (.tmp 36) rfl rfl rfl (0 : UInt8) OM.out rfl LM1.out XM.out.size XM.out ?_; intro v2 w2 O2 X2))
          obtain ⟨A2, c2, rfl, _, _⟩ := O2.out.value
          have hl2 : (m ++ [(0 : UInt8)]).length = nm + 1 := by rw [List.length_append, LM.out]; rfl
          rw [hl2] at O2
          rw [hl2]
          have LM2 := Lib.hid hl2
          have hb3 : nm + 1 ≤ 300000 := by have := LB2.out; omega
          clear hl2
          go_roundw
          case rel => exact ⟨_, _, _, _, rfl, hb3, LM2, LB2, HU2, O2, X2⟩
          case measure => simp [sliceLen, Ae.gap]; omega
    · have hne : (((np : Int) % 16) != 0) = true := by simp; omega
      have HU2 : Hid (Ae.up (m ++ [0]) = Ae.up ad) := by unfold Hid; rw [Ae.up_more m (by rw [LM.out]; exact h16), HU.out]
      have LM1 : Hid (m.length + 1 ≤ 140737488355328) := by unfold Hid; rw [LM.out]; omega
      have LB2 : Hid (np + 1 ≤ ad.length + 15) := by
        unfold Hid
        have h1 := Ae.up_length m
        have h2 := (Ae.up_length ad).2.2
        rw [HU.out] at h1
        have h3 := LM.out
        omega
      go_wp2_with (first
        | (at_builtin; refine push_law rfl (.tmp 25) (.tmp 26) rfl rfl rfl (0 : UInt8) OM.out rfl LM1.out XM.out.size XM.out ?_; intro v2 w2 O2 X2))
      obtain ⟨A2, c2, rfl, _, _⟩ := O2.out.value
      have hl2 : (m ++ [(0 : UInt8)]).length = np + 1 := by rw [List.length_append, LM.out]; rfl
      rw [hl2] at O2
      rw [hl2]
      have LM2 := Lib.hid hl2
      have hb3 : np + 1 ≤ 300000 := by have := LB2.out; omega
      clear hl2
      go_roundw
      case rel => exact ⟨_, _, _, _, rfl, hb3, LM2, LB2, HU2, O2, X2⟩
      case measure => simp [sliceLen, Ae.gap]; omega
end Go.Proofs.YtknpngeaodlmhaaDoor
