import Derived.Deep.CutRange
import Derived.Deep.DeepCutAuto
import Derived.Test.YtajgjeialbgijaaDoorSRz
import Derived.Test.YtajgjeialbgijaaDoorSVc
namespace Go.Proofs.YtajgjeialbgijaaDoor.versChain
set_option linter.unusedVariables false
set_option linter.unusedSimpArgs false
set_option maxRecDepth 100000
open Go.RowKit Vs
theorem turn4 (t : Int) : ∃ k : Nat, k < 4 ∧ (t.tmod 4 + 4).tmod 4 = (k : Int) := by
  have h0 : -4 < t.tmod 4 := by
    rcases Int.le_total 0 t with h | h
    · have := Int.tmod_nonneg 4 h; omega
    · have h3 := Int.tmod_lt_of_pos (-t) (show (0 : Int) < 4 by decide)
      rw [Int.neg_tmod] at h3
      omega
  have := Int.tmod_lt_of_pos (t.tmod 4 + 4) (show (0 : Int) < 4 by decide)
  have := Int.tmod_nonneg 4 (show 0 ≤ t.tmod 4 + 4 by omega)
  exact ⟨((t.tmod 4 + 4).tmod 4).toNat, by omega, by omega⟩
theorem set_same {l : List Value} {k : Nat} {x : Value} (h : l[k]? = some x) : l.set k x = l := by
  apply List.ext_getElem?
  intro j
  rw [List.getElem?_set]
  by_cases hj : k = j
  · subst hj
    have hk := (List.getElem?_eq_some_iff.1 h).1
    rw [if_pos rfl, if_pos hk, h]
  · rw [if_neg hj]
theorem turn4w (t : Int) : IntKind.i64.wrap (t.tmod 4 + 4) = t.tmod 4 + 4 := by
  have h1 := Int.tmod_lt_of_pos t (show (0 : Int) < 4 by decide)
  have h2 : -4 < t.tmod 4 := by
    rcases Int.le_total 0 t with h | h
    · have := Int.tmod_nonneg 4 h; omega
    · have h3 := Int.tmod_lt_of_pos (-t) (show (0 : Int) < 4 by decide)
      rw [Int.neg_tmod] at h3
      omega
  rw [IntKind.wrap_i64]
  omega
set_option maxRecDepth 100000 in
set_option maxHeartbeats 4000000 in
theorem walk {P : BxP} (hB : BoxOk P) {A1 A2 : Option Addr} {n1 c1 n2 c2 : Nat} {ls : List Int} (w : World) (hg : Gl w) (hr1 : RdZ w A1 n1 c1 ls) (hr2 : RdT w A2 n2) (hl2 : n2 ≤ maxLen) : Calls Tryd.prog 3 #[.slice A1 n1 c1, .slice A2 n2 c2] w fun e w' => e = .returned (.bool true) ∧ Below w.heap.size w w' := by
  have HG := Lib.hid hg
  have hsz := hg.size
  have hn1 : n1 ≤ maxLen := Nat.le_trans hr1.cap hr1.max
  unfold maxLen at hn1 hl2
  have HR1 := Lib.hid hr1
  have HR2 := Lib.hid hr2
  have CG : Hid (∀ W, Gl W → Calls Tryd.prog 7 #[] W fun e w' => e = .returned (.bool true) ∧ Below W.heap.size W w') := fun W hW => begun14_any hB hW
  have ZB := Lib.hid zero_blk
  have BZ0 := Lib.hid vbuilt0
  have IZ0 := Lib.hid (vinfo zero_ok)
  have OZ0 := Lib.hid (cells_one zero)
  obtain ⟨Z, hZ⟩ : ∃ X, X = zero.cells := ⟨_, rfl⟩
  rw [← hZ] at BZ0 IZ0 OZ0
  have LZ0 : Hid (zero.cells.length = Z.length) := by unfold Hid; rw [hZ]
  have HZC := Lib.hid hZ
  have W := Lib.hid (Below.refl w.heap.size w)
  clear hg hr1 hr2 hZ
  go_enter Tryd.func3, Tryd.ntmps3
  go_upto_region 6 with (first
    | (go_at_call 7; (with_reducible refine (CG.out _ (HG.out.below W.out hsz)).mono ?_); rintro e w2 ⟨rfl, hX⟩; replace W := Lib.hid (W.out.trans (hX.mono W.out.size)); clear hX; have W2s : Hid (w.heap.size ≤ w2.heap.size) := W.out.size)
    | (with_reducible refine build_law rfl 30 #[] rfl Z (by simp only [List.map_toArray, List.map_cons, List.map_nil]; exact built_of (BZ0.out) rfl) ?_)
    | ((with_reducible refine storeGen_law rfl 30 (.tmp 7) (.tmp 16) rfl w2.heap.size rfl Z rfl 30 zero.cells IZ0.out LZ0.out OZ0.out w2.heap.size w2 ?_ ?_ (Nat.le_refl _) ?_); (exact ZB.out w2); (exact alloc_below w2 _); intro w3 B7 hX'; have hX := hX'.out; clear hX'; replace W := Lib.hid (W.out.trans (hX.mono W.out.size)); clear hX))
  obtain ⟨q7, hq7⟩ : ∃ q, q = w2.heap.size := ⟨_, rfl⟩
  rw [← hq7] at B7 W2s ⊢
  rw [HZC.out] at B7
  have hw7 := W2s.out
  have h73 := B7.out.lt
  clear hq7 W2s
  try simp only [Act.put]
  go_upto_region 7 with (fail)
  have B8 : Hid (Blk (w3.alloc (.cells #[.int .i64 0, .int .i64 0, .int .i64 0, .int .i64 0] 28)) w3.heap.size 28 (zero.vec.map iv)) := Blk.at_new _ _ 28 _ _ rfl rfl
  have hX := alloc_below w3 (.cells #[.int .i64 0, .int .i64 0, .int .i64 0, .int .i64 0] 28)
  replace B7 := Lib.hid (B7.out.below hX B7.out.lt)
  replace W := Lib.hid (W.out.trans (hX.mono W.out.size))
  clear hX
  generalize w3.alloc (.cells #[.int .i64 0, .int .i64 0, .int .i64 0, .int .i64 0] 28) = w4 at *
  obtain ⟨q8, hq8⟩ : ∃ q, q = w3.heap.size := ⟨_, rfl⟩
  rw [← hq8] at B8 h73 ⊢
  have h84 := B8.out.lt
  clear hq8
  obtain ⟨z8, hz8⟩ : ∃ z, z = w4.heap.size := ⟨_, rfl⟩
  rw [← hz8] at h84
  have HZ8 : Hid (z8 ≤ w4.heap.size) := Nat.le_of_eq hz8
  have hz80 : w.heap.size ≤ z8 := by omega
  clear hz8
  go_wp2_with fail
  go_loopw [6, 9] (fun vall iv9 wr => ∃ (i : Nat) (last : V) (L : List V), i ≤ 15 ∧ iv9 = .int .i64 (i : Int) ∧ Hid (Ch i last L) ∧ Hid (Blk wr q7 30 last.cells) ∧ Hid (Blk wr q8 28 (last.vec.map iv)) ∧ Hid (Ow2 wr z8 30 104 vall (versL L)) ∧ Hid (z8 ≤ wr.heap.size) ∧ Hid (Below w.heap.size w wr)) (fun _ iv9 _ => 15 - (intOf iv9).toNat)
  case atStart => exact ⟨0, zero, [], by omega, rfl, Ch.nil, B7, B8, Ow2.empty _ _ _ _, HZ8, W⟩
  case round =>
    clear B7 B8 HZ8 W w4
    obtain ⟨i, last, L, hi15, rfl, HC, B7, B8, OA, HZ8, W⟩ := hrel
    by_cases hin : i < n1
    case neg =>
      have hd : decide ((i : Int) < (n1 : Int)) = false := decide_eq_false (by omega)
      go_wp2_with fail
      go_ret
      exact ⟨rfl, W.out⟩
    by_cases hi : i < 15
    case neg =>
      obtain rfl : i = 15 := by omega
      have hd : decide (((15 : Nat) : Int) < (n1 : Int)) = true := decide_eq_true (by omega)
      go_wp2_with fail
      go_ret
      exact ⟨rfl, W.out⟩
    have hd1 : decide ((i : Int) < (n1 : Int)) = true := decide_eq_true (by omega)
    have hd2 : decide ((i : Int) < 15) = true := decide_eq_true (by omega)
    obtain ⟨bl, ol, rfl, hbl, hcl⟩ := HR1.out.at_ (by omega)
    obtain ⟨z, hz⟩ : ∃ z, z = ls.getD i 0 := ⟨_, rfl⟩
    have c0 : wr.cell? ⟨bl, ol + i, none⟩ = some (.int .i64 z) := (World.cell?_of_block (a := ⟨bl, ol + i, none⟩) (W.out.block bl hbl)).trans ((hcl i hin).trans (by rw [hz]))
    have hzw := HR1.out.lo z (by rw [hz, List.getD_eq_getElem?_getD, List.getElem?_eq_getElem (by have := HR1.out.len; omega)]; exact List.getElem_mem _)
    clear hz hcl hbl
    obtain ⟨k, hk, e4⟩ := turn4 z
    have e5 := turn4w z
    obtain ⟨cz, hcz⟩ : ∃ c : Int, c = (k : Int) + 1 := ⟨_, rfl⟩
    have d1 : IntKind.i64.wrap (1 + (k : Int)) = cz := by rw [hcz, IntKind.wrap_i64]; omega
    have d2 : IntKind.i64.wrap (cz - 1) = (k : Int) := by rw [hcz, IntKind.wrap_i64]; omega
    have HCZ := Lib.hid hcz
    clear hcz
    obtain ⟨AL, cl, rfl, hRL, _⟩ := OA.out.rd
    have hLl : (versL L).length = i := by rw [versL, List.length_map, HC.out.len]
    have RL : Hid (Rd2 wr 104 AL i cl (versL L)) := by unfold Hid; rw [← hLl]; exact hRL
    have hOA := OA.out
    rw [hLl] at hOA ⊢
    replace OA := Lib.hid hOA
    clear hRL hOA hLl
    have HNO := Lib.hid (next_ok HC.out.ok cz)
    have CN : Hid (∀ W, Gl W → Calls Tryd.prog 8 #[vval last, .int .i64 cz] W fun e w' => e = .returned (vval (next last cz)) ∧ Below W.heap.size W w') := fun W hW => vnext_any HC.out.ok cz hW
    have ILs := Lib.hid (vinfo HC.out.ok)
    have INx := Lib.hid (vinfo HNO.out)
    have ONx := Lib.hid (cells_one (next last cz))
    have LNx : Hid (zero.cells.length = (next last cz).cells.length) := by unfold Hid; rw [cells_length zero_ok, cells_length HNO.out]
    obtain ⟨o, ho⟩ : ∃ o, o = mine last cz := ⟨_, rfl⟩
    have hoi : 0 ≤ o ∧ o ≤ (i : Int) := by rw [ho, HCZ.out]; exact ch_own HC.out hi hk
    have hto : cz.toNat - 1 = k := by have := HCZ.out; omega
    have hoc : (last.vec.map iv)[k]? = some (.int .i64 o) := by
      have hvl := HC.out.ok.vec
      rw [List.getElem?_map, List.getElem?_eq_getElem (by omega), Option.map_some, ho, mine, hto, List.getD_eq_getElem?_getD, List.getElem?_eq_getElem (by omega)]
      rfl
    obtain ⟨o1, ho1⟩ : ∃ o1, o1 = o + 1 := ⟨_, rfl⟩
    have d3 : IntKind.i64.wrap (o + 1) = o1 := by rw [ho1, IntKind.wrap_i64]; omega
    have HO : Hid (o1 = mine last cz + 1) := by unfold Hid; rw [ho1, ho]
    clear ho ho1
    have hvset : (last.vec.map iv).set k (.int .i64 o1) = (last.vec.set k o1).map iv := by rw [List.map_set]; rfl
    have HVS := Lib.hid hvset
    have HOC := Lib.hid hoc
    clear hvset hoc hto
    unfold vval at CN
    obtain ⟨LC, hLC⟩ : ∃ X, X = last.cells := ⟨_, rfl⟩
    rw [← hLC] at CN ILs B7
    obtain ⟨NX, hNX⟩ : ∃ X, X = (next last cz).cells := ⟨_, rfl⟩
    rw [← hNX] at CN INx ONx LNx
    have HNC := Lib.hid hNX
    obtain ⟨VL, hVL⟩ : ∃ X, X = last.vec.map iv := ⟨_, rfl⟩
    rw [← hVL] at B8 HVS HOC
    obtain ⟨VL1, hVL1⟩ : ∃ X, X = (last.vec.set k o1).map iv := ⟨_, rfl⟩
    rw [← hVL1] at HVS
    have HVL1 := Lib.hid hVL1
    have hzr := HZ8.out
    have HLC := Lib.hid hLC
    clear hLC hNX hVL hVL1
    go_upto_region 12 with (first
      | (with_reducible refine load_law rfl 30 (.tmp 7) rfl q7 0 rfl LC _ Tryd.underlying30 rfl ILs.out B7.out.cells ?_)
      | (go_at_call 8; (with_reducible refine (CN.out _ (HG.out.below W.out hsz)).mono ?_); rintro e w5 ⟨rfl, hX⟩; replace B7 := Lib.hid (B7.out.below hX B7.out.lt); replace B8 := Lib.hid (B8.out.below hX B8.out.lt); replace W := Lib.hid (W.out.trans (hX.mono W.out.size)); replace OA := Lib.hid (OA.out.below hX); replace RL := Lib.hid (RL.out.below hX); replace HZ8 : Hid (z8 ≤ _) := Nat.le_trans HZ8.out hX.size; clear hX; have W5s : Hid (w.heap.size ≤ w5.heap.size) := W.out.size; have Z5 := HZ8.out; have HOWN : Hid (∀ g, (Value.slice AL i cl).ownBlock = some g → g < w5.heap.size) := (fun g hg => (World.ownsRow.lt OA.out.own g hg).2))
      | ((with_reducible refine storeGen_law rfl 30 (.tmp 11) (.tmp 37) rfl w5.heap.size rfl NX rfl 30 zero.cells INx.out LNx.out ONx.out w5.heap.size w5 ?_ ?_ (Nat.le_refl _) ?_); (exact ZB.out w5); (exact alloc_below w5 _); intro w6 BQ hX'; have hX := hX'.out; clear hX'; replace B7 := Lib.hid (B7.out.below hX B7.out.lt); replace B8 := Lib.hid (B8.out.below hX B8.out.lt); replace W := Lib.hid (W.out.trans (hX.mono W.out.size)); replace OA := Lib.hid (OA.out.below hX); replace RL := Lib.hid (RL.out.below hX); replace HZ8 : Hid (z8 ≤ _) := Nat.le_trans HZ8.out hX.size; clear hX))
    obtain ⟨q, hq⟩ : ∃ q, q = w5.heap.size := ⟨_, rfl⟩
    have h6q : w5.heap.size < w6.heap.size := BQ.out.lt
    rw [← hq] at BQ h6q Z5 W5s HOWN ⊢
    have hq0 := W5s.out
    have hown : ∀ g, (Value.slice AL i cl).ownBlock = some g → g < q := HOWN.out
    clear hq W5s HOWN c0 CN e4 e5 d1
    try simp only [Act.put]
    have c8 : w6.cell? ⟨q8, k, none⟩ = some (.int .i64 o) := (B8.out.cell k).trans HOC.out
    have f8 : w6.frozen? ⟨q8, k, none⟩ = false := B8.out.frozen _
    go_upto_region 13 with (fail)
    clear c8 f8
    have B8' : Hid (Blk (w6.setCell ⟨q8, k, none⟩ (.int .i64 o1)) q8 28 VL1) := by have := B8.out.set_ k (.int .i64 o1); rw [HVS.out] at this; exact this
    have B7' : Hid (Blk (w6.setCell ⟨q8, k, none⟩ (.int .i64 o1)) q7 30 LC) := B7.out.far (p := ⟨q8, k, none⟩) (by show q7 ≠ q8; omega) _
    have BQ' : Hid (Blk (w6.setCell ⟨q8, k, none⟩ (.int .i64 o1)) q 30 NX) := BQ.out.far (p := ⟨q8, k, none⟩) (by show q ≠ q8; omega) _
    have OA' : Hid (Ow2 (w6.setCell ⟨q8, k, none⟩ (.int .i64 o1)) z8 30 104 (.slice AL i cl) (versL L)) := OA.out.keep fun g hg => Below.heap_setCell _ _ _ _ (fun e => OA.out.ne B8.out (by decide) (by have e' : g = q8 := e; rw [← e']; exact hg.symm))
    have W' : Hid (Below w.heap.size w (w6.setCell ⟨q8, k, none⟩ (.int .i64 o1))) := W.out.setCell (by show w.heap.size ≤ q8; omega) _
    have HZ' : Hid (z8 ≤ (w6.setCell ⟨q8, k, none⟩ (.int .i64 o1)).heap.size) := Nat.le_trans HZ8.out (setCell_size _ _ _)
    have hq6 : q < (w6.setCell ⟨q8, k, none⟩ (.int .i64 o1)).heap.size := BQ'.out.lt
    clear B7 B8 BQ OA W HZ8 RL h6q HVS HOC
    generalize w6.setCell ⟨q8, k, none⟩ (.int .i64 o1) = w7 at *
    obtain ⟨eb, heb⟩ : ∃ eb : Bool, (∃ b2 o2, A2 = some ⟨b2, o2, none⟩ ∧ i < n2 ∧ w7.cell? ⟨b2, o2 + i, none⟩ = some (.bool eb)) ∨ (n2 ≤ i ∧ eb = false) := by
      by_cases h : i < n2
      · obtain ⟨b2, o2, tb, e, hc, hlt⟩ := HR2.out i h
        exact ⟨tb, .inl ⟨b2, o2, e, h, (World.cell?_of_block (a := ⟨b2, o2 + i, none⟩) (W'.out.block b2 hlt)).trans hc⟩⟩
      · exact ⟨false, .inr ⟨by omega, rfl⟩⟩
    go_cut [53] from 17 to 110 (fun v wx => v = .bool eb ∧ Hid (w7 = wx))
    case first =>
      rcases heb with ⟨b2, o2, rfl, h2, hc⟩ | ⟨h2, rfl⟩
      · have hd3 : decide ((i : Int) < (n2 : Int)) = true := decide_eq_true (by omega)
        go_wp2_with fail
        go_meet
        case rel => exact ⟨rfl, rfl⟩
      · have hd3 : decide ((i : Int) < (n2 : Int)) = false := decide_eq_false (by omega)
        go_wp2_with fail
        go_meet
        case rel => exact ⟨rfl, rfl⟩
    case rest =>
      obtain ⟨rfl, HW⟩ := hcut
      have hw := HW.out
      subst hw
      clear HW heb
      obtain ⟨ez, hez⟩ : ∃ z : Int, z = if eb = true then 1 else 0 := ⟨_, rfl⟩
      have hez2 : ez = 0 ∨ ez = 1 := by rw [hez]; cases eb <;> simp
      have HNE : Hid ((next last cz).ep = last.ep) := by unfold Hid; rw [HCZ.out]; rw [ch_next HC.out hi hk]
      have hep := HC.out.ep
      have NE67 : Hid (NX[67]? = some (.int .i64 last.ep)) := by unfold Hid; rw [HNC.out, at_ep HNO.out, HNE.out]
      obtain ⟨EC, hEC⟩ : ∃ X, X = ({ next last cz with ep := last.ep + ez } : V).cells := ⟨_, rfl⟩
      have SE : Hid (NX.set 67 (.int .i64 (last.ep + ez)) = EC) := by unfold Hid; rw [HNC.out, hEC]; exact set_ep HNO.out _
      have HEC := Lib.hid hEC
      have HEZ := Lib.hid hez
      obtain ⟨ep0, hep0⟩ : ∃ z, z = last.ep := ⟨_, rfl⟩
      rw [← hep0] at NE67 SE hep
      have HEP0 := Lib.hid hep0
      clear hEC hez hep0
      go_upto_if 53 with (fail)
      go_cut [9] from 17 to 110 (fun v wx => v = .int .i64 (i : Int) ∧ Hid (Blk wx q 30 EC) ∧ Hid (Blk wx q7 30 LC) ∧ Hid (Blk wx q8 28 VL1) ∧ Hid (Ow2 wx z8 30 104 (.slice AL i cl) (versL L)) ∧ Hid (z8 ≤ wx.heap.size) ∧ Hid (Below w.heap.size w wx) ∧ Hid (q < wx.heap.size))
      case first =>
        cases eb with
        | false =>
          obtain rfl : ez = 0 := HEZ.out
          have hEN : Hid (NX = EC) := by
            unfold Hid
            have h1 := SE.out
            rw [Int.add_zero] at h1
            rw [← h1]
            exact (set_same NE67.out).symm
          have BE : Hid (Blk w7 q 30 EC) := by unfold Hid; rw [← hEN.out]; exact BQ'.out
          clear hEN
          go_wp2_with fail
          go_meet
          case rel => exact ⟨rfl, BE, B7', B8', OA', HZ', W', hq6⟩
        | true =>
          obtain rfl : ez = 1 := HEZ.out
          have c7 : w7.cell? ⟨q, 67, none⟩ = some (.int .i64 ep0) := (BQ'.out.cell 67).trans NE67.out
          have f7 : w7.frozen? ⟨q, 67, none⟩ = false := BQ'.out.frozen _
          have BE : Hid (Blk (w7.setCell ⟨q, 67, none⟩ (.int .i64 (ep0 + 1))) q 30 EC) := by have := BQ'.out.set_ 67 (.int .i64 (ep0 + 1)); rw [SE.out] at this; exact this
          have B7x : Hid (Blk (w7.setCell ⟨q, 67, none⟩ (.int .i64 (ep0 + 1))) q7 30 LC) := B7'.out.far (p := ⟨q, 67, none⟩) (by show q7 ≠ q; omega) _
          have B8x : Hid (Blk (w7.setCell ⟨q, 67, none⟩ (.int .i64 (ep0 + 1))) q8 28 VL1) := B8'.out.far (p := ⟨q, 67, none⟩) (by show q8 ≠ q; omega) _
          have OAx : Hid (Ow2 (w7.setCell ⟨q, 67, none⟩ (.int .i64 (ep0 + 1))) z8 30 104 (.slice AL i cl) (versL L)) := OA'.out.keep fun g hg => Below.heap_setCell _ _ _ _ (by show g ≠ q; have := hown g hg; omega)
          have Wx : Hid (Below w.heap.size w (w7.setCell ⟨q, 67, none⟩ (.int .i64 (ep0 + 1)))) := W'.out.setCell (by show w.heap.size ≤ q; omega) _
          have HZx : Hid (z8 ≤ (w7.setCell ⟨q, 67, none⟩ (.int .i64 (ep0 + 1))).heap.size) := Nat.le_trans HZ'.out (setCell_size _ _ _)
          have hqx : Hid (q < (w7.setCell ⟨q, 67, none⟩ (.int .i64 (ep0 + 1))).heap.size) := BE.out.lt
          go_wp2_with fail
          go_meet
          case rel => exact ⟨rfl, BE, B7x, B8x, OAx, HZx, Wx, hqx⟩
      case rest =>
        clear B7' B8' BQ' OA' W' HZ' hq6
        obtain ⟨rfl, BQ, B7, B8, OA, HZ8, W, hqc⟩ := hcut
        have HEQ : Hid (EC.set 35 (.int .u8 (i : Int)) = (chN last cz ez (UInt8.ofNat i)).cells) := by
          have hok : Ok ({ next last cz with ep := last.ep + ez } : V) := ⟨HNO.out.prev, HNO.out.root, HNO.out.vec, HNO.out.tag, HNO.out.client, HNO.out.n, HNO.out.count, by have h1 := hep; have h2 := HEP0.out; show In (last.ep + ez); unfold In; rw [← h2]; omega, HNO.out.each⟩
          have h1 := set_root hok 0 (UInt8.ofNat i) (by omega)
          have h2 : cellOf (UInt8.ofNat i) = .int .u8 (i : Int) := by unfold cellOf; rw [UInt8.toNat_ofNat']; congr 1; omega
          unfold Hid
          rw [HEC.out, ← h2]
          exact h1
        have E35 : ∃ x, EC[35]? = some x ∧ x.oneCell' = true := by
          have hok : EC.length = 104 := by rw [← SE.out, List.length_set, HNC.out, cells_length HNO.out]
          have h1 : EC[35]? = some EC[35] := List.getElem?_eq_getElem (by omega)
          exact ⟨_, h1, cells_one ({ next last cz with ep := last.ep + ez } : V) _ (by rw [← HEC.out]; exact List.getElem_mem _)⟩
        obtain ⟨ov, hov, hov1⟩ := E35
        obtain ⟨VC, hVC⟩ : ∃ X, X = (chN last cz ez (UInt8.ofNat i)).cells := ⟨_, rfl⟩
        rw [← hVC] at HEQ
        have HVC := Lib.hid hVC
        have c9 : wc.cell? ⟨q, 35, none⟩ = some ov := (BQ.out.cell 35).trans hov
        have f9 : wc.frozen? ⟨q, 35, none⟩ = false := BQ.out.frozen _
        have d5 : IntKind.u8.wrap (i : Int) = (i : Int) := by rw [IntKind.wrap_u8]; omega
        clear hov hVC
        go_upto_region 16 with (fail)
        clear c9 f9 d5 hov1 ov
        have BV : Hid (Blk (wc.setCell ⟨q, 35, none⟩ (.int .u8 (i : Int))) q 30 VC) := by have := BQ.out.set_ 35 (.int .u8 (i : Int)); rw [HEQ.out] at this; exact this
        have BL : Hid (Blk (wc.setCell ⟨q, 35, none⟩ (.int .u8 (i : Int))) q7 30 LC) := B7.out.far (p := ⟨q, 35, none⟩) (by show q7 ≠ q; omega) _
        have BE : Hid (Blk (wc.setCell ⟨q, 35, none⟩ (.int .u8 (i : Int))) q8 28 VL1) := B8.out.far (p := ⟨q, 35, none⟩) (by show q8 ≠ q; omega) _
        have OX : Hid (Ow2 (wc.setCell ⟨q, 35, none⟩ (.int .u8 (i : Int))) z8 30 104 (.slice AL i cl) (versL L)) := OA.out.keep fun g hg => Below.heap_setCell _ _ _ _ (by show g ≠ q; have := hown g hg; omega)
        have WX : Hid (Below w.heap.size w (wc.setCell ⟨q, 35, none⟩ (.int .u8 (i : Int)))) := W.out.setCell (by show w.heap.size ≤ q; omega) _
        have HZX : Hid (z8 ≤ (wc.setCell ⟨q, 35, none⟩ (.int .u8 (i : Int))).heap.size) := Nat.le_trans HZ8.out (setCell_size _ _ _)
        clear BQ B7 B8 OA HZ8 W hqc HEQ
        replace BV := Lib.hid BV.out.drew
        replace BL := Lib.hid BL.out.drew
        replace BE := Lib.hid BE.out.drew
        replace OX : Hid (Ow2 (wc.setCell ⟨q, 35, none⟩ (.int .u8 (i : Int))).drew z8 30 104 (.slice AL i cl) (versL L)) := OX.out.keep fun _ _ => rfl
        replace WX := Lib.hid WX.out.drew
        replace HZX : Hid (z8 ≤ (wc.setCell ⟨q, 35, none⟩ (.int .u8 (i : Int))).drew.heap.size) := HZX.out
        refine wp_region_any (by kernel_rfl) ?_
        change wpAny _ _ _ _ _ _ _ (World.drew _)
        generalize (wc.setCell ⟨q, 35, none⟩ (.int .u8 (i : Int))).drew = w9 at *
        have d7 : IntKind.i64.wrap ((i : Int) + 1) = (i : Int) + 1 := by rw [IntKind.wrap_i64]; omega
        have heb2 : 0 ≤ ez ∧ ez ≤ 1 := by omega
        have hvn := ch_n HC.out hi hk ez (UInt8.ofNat i)
        have hvc := ch_count HC.out hi hk ez (UInt8.ofNat i)
        have hvv := ch_vec HC.out hi hk ez (UInt8.ofNat i)
        have hvo := ch_ok HC.out hi hk ez (UInt8.ofNat i) heb2
        have hvf := ch_follows HC.out hi hk ez (UInt8.ofNat i) hez2
        have hvm := ch_may HC.out hi hk ez (UInt8.ofNat i) heb2
        have hch := ch_more HC.out hi hk ez (UInt8.ofNat i) heb2
        have hot := fun (j : Nat) (u : V) (h1 : j + 1 < i) (h2 : L[j]? = some u) => ch_other HC.out hi hk ez (UInt8.ofNat i) h1 h2
        rw [← HCZ.out] at hvn hvc hvv hvo hvf hvm hch hot
        rw [← HO.out] at hvn hvv
        have HCH := Lib.hid hch
        have HOT := Lib.hid hot
        obtain ⟨nv, hnv⟩ : ∃ v, v = (chN last cz ez (UInt8.ofNat i)) := ⟨_, rfl⟩
        rw [← hnv] at hvn hvc hvv hvo hvf hvm HCH HOT HVC
        have HVO := Lib.hid hvo
        have CF : Hid (∀ W, Gl W → Calls Tryd.prog 9 #[vval last, vval nv] W fun e w' => e = .returned (.bool true) ∧ Below W.heap.size W w') := fun W hW => by rw [← hvf]; exact vfollows_any HC.out.ok hvo hW
        have CM : Hid (∀ W, Calls Tryd.prog 10 #[vval nv] W fun e w' => e = .returned (.bool true) ∧ Below W.heap.size W w') := fun W => by rw [← hvm]; exact vmay_any hvo W
        have CO : Hid (∀ (j : Nat) (u : V) (W : World), j + 1 < i → L[j]? = some u → Gl W → Calls Tryd.prog 9 #[vval u, vval nv] W fun e w' => e = .returned (.bool false) ∧ Below W.heap.size W w') := fun j u W h1 h2 hW => by rw [← HOT.out j u h1 h2]; exact vfollows_any (HC.out.each j u h2).1 hvo hW
        have IVc := Lib.hid (vinfo hvo)
        have OVc := Lib.hid (cells_one nv)
        have LVc := Lib.hid (cells_length hvo)
        have V1 : Hid (nv.cells[1]? = some (.int .i64 o1)) := by unfold Hid; rw [← hvn]; rfl
        have V2 : Hid (nv.cells[2]? = some (.int .i64 ((i : Int) + 1))) := by unfold Hid; rw [← hvc]; rfl
        have LVV : Hid (∀ j x, VL1[j]? = some x → nv.cells[68 + j]? = some x) := by unfold Hid; rw [HVL1.out, ← hvv]; exact lay_vec hvo
        have hvl4 : (last.vec.set k o1).length = 4 := by rw [List.length_set]; exact HC.out.ok.vec
        have IVL : Hid ((Tryd.prog.info? 28).map (·.size) = some VL1.length) := by unfold Hid; rw [HVL1.out, List.length_map, hvl4]; kernel_rfl
        have LRW : Hid (∀ W, (Instr.buildSlice 25 1 #[(0, .agg nv.cells.toArray)]).run Tryd.prog W = .ok (.slice (some ⟨W.heap.size, 0, none⟩) 1 1) (W.alloc (.cells nv.cells.toArray 30))) := fun W => versRow hvo W
        have eVV := fun W => equalI 9998 (last.vec.set k o1) (last.vec.set k o1) hvl4 hvl4 W
        rw [decide_eq_true rfl, ← HVL1.out] at eVV
        unfold vval at CF CM CO
        have HLCC : Hid (LC = last.cells) := HLC.out
        rw [← HLCC.out] at CF
        rw [← HVC.out] at CF CM CO IVc OVc LVc V1 V2 LVV LRW
        have LLC : Hid (LC.length = 104) := by unfold Hid; rw [HLCC.out]; exact cells_length HC.out.ok
        have hvec : VL1 = nv.vec.map iv := by rw [HVL1.out, hvv]
        have HVX := Lib.hid hvec
        have EK : Hid (VL1[k]? = some (.int .i64 o1)) := by unfold Hid; rw [HVL1.out, List.getElem?_map, List.getElem?_eq_getElem (by rw [List.length_set]; have := HC.out.ok.vec; omega), Option.map_some, List.getElem_set_self]; rfl
        clear hvn hvc hvv hvo hvf hvm hch hot hnv heb2 hvl4 hvec hez2 HLCC
        refine phaseL (fun i => []) (fun d a w' => ∃ x62 x63 : Value, a = { tmps := #[.slice (some ⟨bl, ol, none⟩) n1 c1, .slice A2 n2 c2, undef, undef, u4, .bool true, .slice AL i cl, .pointer (some ⟨q7, 0, none⟩), .pointer (some ⟨q8, 0, none⟩), .int .i64 (i : Int), .int .i64 cz, .pointer (some ⟨q, 0, none⟩), u12, .bool true, .bool true, .bool false, .agg Z.toArray, u17, u18, u19, u20, u21, u22, u23, u24, u25, u26, u27, u28, u29, u30, u31, u32, u33, u34, u35, u36, u37, u38, u39, u40, u41, u42, u43, u44, u45, u46, u47, u48, u49, u50, u51, u52, u53, u54, u55, u56, u57, .int .i64 (i : Int), .int .u8 (i : Int), .pointer (some ⟨q, 35, none⟩), .pointer (some ⟨q, 35, none⟩), x62, x63, u64, u65, u66, u67, u68, u69, u70, u71, u72, u73, u74, u75, u76, u77, u78, u79, u80, u81, u82, u83, u84, u85, u86, u87, u88, u89, u90, u91, u92, u93, u94, u95, u96, u97, u98, u99, u100, u101, u102, u103, u104, u105, u106, u107, u108, u109, u110], defers := [] } ∧ Hid (Below w9.heap.size w9 w') ∧ (d 0 = true → x62 = .agg LC.toArray) ∧ (d 1 = true → x63 = .agg VC.toArray)) [0, 1] ?step1 29 2 [0, 1] _ _ _ rfl (by decide) (fun _ h => h) (Fits.of (by kernel_rfl)) ?init1 ?fin1
        case init1 => refine ⟨_, _, rfl, Below.refl _ _, ?_, ?_⟩ <;> (intro h; exact absurd h (by decide))
        case step1 =>
          intro i hi d a v1 hI hdi hdeps
          obtain ⟨x62, x63, rfl, BW, h0, h1⟩ := hI
          have hsw := BW.out.size
          simp only [List.mem_cons, List.not_mem_nil, or_false] at hi
          rcases hi with rfl | rfl
          · refine wpOp_step (o := ?os2) ?hos2 (fun K hK => ?_)
            case hos2 => simp only [zge]; rfl
            refine step_loadW rfl 30 (.tmp 7) rfl q7 0 rfl LC _ Tryd.underlying30 rfl ILs.out (BL.out.below BW.out BL.out.lt).cells (hK _ _ ?_)
            clear hK K
            try simp only [zpt]
            exact ⟨_, _, rfl, BW, fun _ => rfl, fun a => by first | exact h1 (by simpa using a) | rfl⟩
          · refine wpOp_step (o := ?os3) ?hos3 (fun K hK => ?_)
            case hos3 => simp only [zge]; rfl
            refine step_loadW rfl 30 (.tmp 11) rfl q 0 rfl VC _ Tryd.underlying30 rfl IVc.out (BV.out.below BW.out BV.out.lt).cells (hK _ _ ?_)
            clear hK K
            try simp only [zpt]
            exact ⟨_, _, rfl, BW, fun a => by first | exact h0 (by simpa using a) | rfl, fun _ => rfl⟩
        case fin1 =>
          intro a v1 hI
          obtain ⟨x62, x63, rfl, BW, h0, h1⟩ := hI
          obtain rfl := h0 (by decide)
          obtain rfl := h1 (by decide)
          have hX := BW.out
          replace BV := Lib.hid (BV.out.below hX BV.out.lt)
          replace BL := Lib.hid (BL.out.below hX BL.out.lt)
          replace BE := Lib.hid (BE.out.below hX BE.out.lt)
          replace OX := Lib.hid (OX.out.below hX)
          replace WX := Lib.hid (WX.out.trans (hX.mono WX.out.size))
          replace HZX : Hid (z8 ≤ _) := Nat.le_trans HZX.out hX.size
          clear hX
          clear BW h0 h1
          try dsimp only
          refine wpAny_ready (rs := [2]) (by kernel_rfl) (by simp) ?_
          refine AllReady.cons (o := ?p4) ?q4 (fun K hK => ?_) AllReady.nil
          case q4 => simp only [zge]; rfl
          go_simp
          refine (CF.out _ (HG.out.below WX.out hsz)).mono ?_
          rintro e w100 ⟨rfl, hX⟩
          replace BV := Lib.hid (BV.out.below hX BV.out.lt)
          replace BL := Lib.hid (BL.out.below hX BL.out.lt)
          replace BE := Lib.hid (BE.out.below hX BE.out.lt)
          replace OX := Lib.hid (OX.out.below hX)
          replace WX := Lib.hid (WX.out.trans (hX.mono WX.out.size))
          replace HZX : Hid (z8 ≤ _) := Nat.le_trans HZX.out hX.size
          clear hX
          refine hK _ _ ?_
          clear hK K
          try simp only [zpt]
          refine wpAny_take (i := 3) (oi := ?oi5) (v := .bool false) ?hi5 (by kernel_rfl) (by kernel_rfl) (by kernel_rfl) ?hQ5 ?hy5 ?rest5
          case hi5 => simp only [zge]; rfl
          case hQ5 => exact fun _ _ _ h => h
          case hy5 => exact Or.inl ⟨by rfl, by intro w; go_simp <;> (intro hh; exfalso; omega)⟩
          try simp only [zpt]
          refine wpAny_take (i := 4) (oi := ?oi6) (v := .bool false) ?hi6 (by kernel_rfl) (by kernel_rfl) (by kernel_rfl) ?hQ6 ?hy6 ?rest6
          case hi6 => simp only [zge]; rfl
          case hQ6 => exact fun _ _ _ h => h
          case hy6 => exact Or.inl ⟨by rfl, by intro w; go_simp <;> (intro hh; exfalso; omega)⟩
          try simp only [zpt]
          refine wpAny_take (i := 5) (oi := ?oi7) (v := .pointer (some ⟨q, 1, none⟩)) ?hi7 (by kernel_rfl) (by kernel_rfl) (by kernel_rfl) ?hQ7 ?hy7 ?rest7
          case hi7 => simp only [zge]; rfl
          case hQ7 => exact fun _ _ _ h => h
          case hy7 => exact Or.inl ⟨by rfl, by intro w; go_simp <;> (intro hh; exfalso; omega)⟩
          try simp only [zpt]
          refine wpAny_take (i := 7) (oi := ?oi8) (v := .int .i64 cz) ?hi8 (by kernel_rfl) (by kernel_rfl) (by kernel_rfl) ?hQ8 ?hy8 ?rest8
          case hi8 => simp only [zge]; rfl
          case hQ8 => exact fun _ _ _ h => h
          case hy8 => exact Or.inl ⟨by rfl, by intro w; go_simp <;> (intro hh; exfalso; omega)⟩
          try simp only [zpt]
          refine wpAny_take (i := 8) (oi := ?oi9) (v := .int .i64 (k : Int)) ?hi9 (by kernel_rfl) (by kernel_rfl) (by kernel_rfl) ?hQ9 ?hy9 ?rest9
          case hi9 => simp only [zge]; rfl
          case hQ9 => exact fun _ _ _ h => h
          case hy9 => exact Or.inl ⟨by rfl, by intro w; go_simp <;> (intro hh; exfalso; omega)⟩
          try simp only [zpt]
          refine wpAny_take (i := 9) (oi := ?oi10) (v := .pointer (some ⟨q8, k, none⟩)) ?hi10 (by kernel_rfl) (by kernel_rfl) (by kernel_rfl) ?hQ10 ?hy10 ?rest10
          case hi10 => simp only [zge]; rfl
          case hQ10 => exact fun _ _ _ h => h
          case hy10 => exact Or.inl ⟨by rfl, by intro w; go_simp <;> (intro hh; exfalso; omega)⟩
          try simp only [zpt]
          refine phaseL (fun i => []) (fun d a w' => ∃ x68 x72 : Value, a = { tmps := #[.slice (some ⟨bl, ol, none⟩) n1 c1, .slice A2 n2 c2, undef, undef, u4, .bool true, .slice AL i cl, .pointer (some ⟨q7, 0, none⟩), .pointer (some ⟨q8, 0, none⟩), .int .i64 (i : Int), .int .i64 cz, .pointer (some ⟨q, 0, none⟩), u12, .bool true, .bool true, .bool false, .agg Z.toArray, u17, u18, u19, u20, u21, u22, u23, u24, u25, u26, u27, u28, u29, u30, u31, u32, u33, u34, u35, u36, u37, u38, u39, u40, u41, u42, u43, u44, u45, u46, u47, u48, u49, u50, u51, u52, u53, u54, u55, u56, u57, .int .i64 (i : Int), .int .u8 (i : Int), .pointer (some ⟨q, 35, none⟩), .pointer (some ⟨q, 35, none⟩), .agg LC.toArray, .agg VC.toArray, .bool true, .bool false, .bool false, .pointer (some ⟨q, 1, none⟩), x68, .int .i64 cz, .int .i64 (k : Int), .pointer (some ⟨q8, k, none⟩), x72, u73, u74, u75, u76, u77, u78, u79, u80, u81, u82, u83, u84, u85, u86, u87, u88, u89, u90, u91, u92, u93, u94, u95, u96, u97, u98, u99, u100, u101, u102, u103, u104, u105, u106, u107, u108, u109, u110], defers := [] } ∧ Hid (Below w100.heap.size w100 w') ∧ (d 6 = true → x68 = .int .i64 o1) ∧ (d 10 = true → x72 = .int .i64 o1)) [6, 10] ?step11 20 2 [6, 10] _ _ _ rfl (by decide) (fun _ h => h) (Fits.of (by kernel_rfl)) ?init11 ?fin11
          case init11 => refine ⟨_, _, rfl, Below.refl _ _, ?_, ?_⟩ <;> (intro h; exact absurd h (by decide))
          case step11 =>
            intro i hi d a v11 hI hdi hdeps
            obtain ⟨x68, x72, rfl, BW, h6, h10⟩ := hI
            have hsw := BW.out.size
            simp only [List.mem_cons, List.not_mem_nil, or_false] at hi
            rcases hi with rfl | rfl
            · have c0 : v11.cell? ⟨q, 1, none⟩ = some (.int .i64 o1) := ((BV.out.below BW.out BV.out.lt).cell 1).trans V1.out
              refine wpOp_step (o := ?os12) ?hos12 (fun K hK => ?_)
              case hos12 => simp only [zge]; rfl
              go_simp
              refine hK _ _ ?_
              clear hK K
              try simp only [zpt]
              exact ⟨_, _, rfl, BW, fun _ => rfl, fun a => by first | exact h10 (by simpa using a) | rfl⟩
            · have c0 : v11.cell? ⟨q8, k, none⟩ = some (.int .i64 o1) := ((BE.out.below BW.out BE.out.lt).cell k).trans EK.out
              refine wpOp_step (o := ?os13) ?hos13 (fun K hK => ?_)
              case hos13 => simp only [zge]; rfl
              go_simp
              refine hK _ _ ?_
              clear hK K
              try simp only [zpt]
              exact ⟨_, _, rfl, BW, fun a => by first | exact h6 (by simpa using a) | rfl, fun _ => rfl⟩
          case fin11 =>
            intro a v11 hI
            obtain ⟨x68, x72, rfl, BW, h6, h10⟩ := hI
            obtain rfl := h6 (by decide)
            obtain rfl := h10 (by decide)
            have hX := BW.out
            replace BV := Lib.hid (BV.out.below hX BV.out.lt)
            replace BL := Lib.hid (BL.out.below hX BL.out.lt)
            replace BE := Lib.hid (BE.out.below hX BE.out.lt)
            replace OX := Lib.hid (OX.out.below hX)
            replace WX := Lib.hid (WX.out.trans (hX.mono WX.out.size))
            replace HZX : Hid (z8 ≤ _) := Nat.le_trans HZX.out hX.size
            clear hX
            clear BW h6 h10
            try dsimp only
            refine wpAny_take (i := 11) (oi := ?oi14) (v := .bool false) ?hi14 (by kernel_rfl) (by kernel_rfl) (by kernel_rfl) ?hQ14 ?hy14 ?rest14
            case hi14 => simp only [zge]; rfl
            case hQ14 => exact fun _ _ _ h => h
            case hy14 => exact Or.inl ⟨by rfl, by intro w; go_simp <;> (intro hh; exfalso; omega)⟩
            try simp only [zpt]
            refine wpAny_take (i := 12) (oi := ?oi15) (v := .bool false) ?hi15 (by kernel_rfl) (by kernel_rfl) (by kernel_rfl) ?hQ15 ?hy15 ?rest15
            case hi15 => simp only [zge]; rfl
            case hQ15 => exact fun _ _ _ h => h
            case hy15 => exact Or.inl ⟨by rfl, by intro w; go_simp <;> (intro hh; exfalso; omega)⟩
            try simp only [zpt]
            refine wpAny_take (i := 13) (oi := ?oi16) (v := .bool false) ?hi16 (by kernel_rfl) (by kernel_rfl) (by kernel_rfl) ?hQ16 ?hy16 ?rest16
            case hi16 => simp only [zge]; rfl
            case hQ16 => exact fun _ _ _ h => h
            case hy16 => exact Or.inl ⟨by rfl, by intro w; go_simp <;> (intro hh; exfalso; omega)⟩
            try simp only [zpt]
            refine wpAny_take (i := 14) (oi := ?oi17) (v := .pointer (some ⟨q, 68, none⟩)) ?hi17 (by kernel_rfl) (by kernel_rfl) (by kernel_rfl) ?hQ17 ?hy17 ?rest17
            case hi17 => simp only [zge]; rfl
            case hQ17 => exact fun _ _ _ h => h
            case hy17 => exact Or.inl ⟨by rfl, by intro w; go_simp <;> (intro hh; exfalso; omega)⟩
            try simp only [zpt]
            refine phaseL (fun i => []) (fun d a w' => ∃ x77 x78 : Value, a = { tmps := #[.slice (some ⟨bl, ol, none⟩) n1 c1, .slice A2 n2 c2, undef, undef, u4, .bool true, .slice AL i cl, .pointer (some ⟨q7, 0, none⟩), .pointer (some ⟨q8, 0, none⟩), .int .i64 (i : Int), .int .i64 cz, .pointer (some ⟨q, 0, none⟩), u12, .bool true, .bool true, .bool false, .agg Z.toArray, u17, u18, u19, u20, u21, u22, u23, u24, u25, u26, u27, u28, u29, u30, u31, u32, u33, u34, u35, u36, u37, u38, u39, u40, u41, u42, u43, u44, u45, u46, u47, u48, u49, u50, u51, u52, u53, u54, u55, u56, u57, .int .i64 (i : Int), .int .u8 (i : Int), .pointer (some ⟨q, 35, none⟩), .pointer (some ⟨q, 35, none⟩), .agg LC.toArray, .agg VC.toArray, .bool true, .bool false, .bool false, .pointer (some ⟨q, 1, none⟩), .int .i64 o1, .int .i64 cz, .int .i64 (k : Int), .pointer (some ⟨q8, k, none⟩), .int .i64 o1, .bool false, .bool false, .bool false, .pointer (some ⟨q, 68, none⟩), x77, x78, u79, u80, u81, u82, u83, u84, u85, u86, u87, u88, u89, u90, u91, u92, u93, u94, u95, u96, u97, u98, u99, u100, u101, u102, u103, u104, u105, u106, u107, u108, u109, u110], defers := [] } ∧ Hid (Below v11.heap.size v11 w') ∧ (d 15 = true → x77 = .agg VL1.toArray) ∧ (d 16 = true → x78 = .agg VL1.toArray)) [15, 16] ?step18 14 2 [15, 16] _ _ _ rfl (by decide) (fun _ h => h) (Fits.of (by kernel_rfl)) ?init18 ?fin18
            case init18 => refine ⟨_, _, rfl, Below.refl _ _, ?_, ?_⟩ <;> (intro h; exact absurd h (by decide))
            case step18 =>
              intro i hi d a v18 hI hdi hdeps
              obtain ⟨x77, x78, rfl, BW, h15, h16⟩ := hI
              have hsw := BW.out.size
              simp only [List.mem_cons, List.not_mem_nil, or_false] at hi
              rcases hi with rfl | rfl
              · refine wpOp_step (o := ?os19) ?hos19 (fun K hK => ?_)
                case hos19 => simp only [zge]; rfl
                refine step_loadW (by kernel_rfl) 28 (.tmp 76) rfl q 68 rfl VL1 _ Tryd.underlying28 rfl IVL.out ((BV.out.below BW.out BV.out.lt).at_ LVV.out) (hK _ _ ?_)
                clear hK K
                try simp only [zpt]
                exact ⟨_, _, rfl, BW, fun _ => rfl, fun a => by first | exact h16 (by simpa using a) | rfl⟩
              · refine wpOp_step (o := ?os20) ?hos20 (fun K hK => ?_)
                case hos20 => simp only [zge]; rfl
                refine step_loadW (by kernel_rfl) 28 (.tmp 8) rfl q8 0 rfl VL1 _ Tryd.underlying28 rfl IVL.out (BE.out.below BW.out BE.out.lt).cells (hK _ _ ?_)
                clear hK K
                try simp only [zpt]
                exact ⟨_, _, rfl, BW, fun a => by first | exact h15 (by simpa using a) | rfl, fun _ => rfl⟩
            case fin18 =>
              intro a v18 hI
              obtain ⟨x77, x78, rfl, BW, h15, h16⟩ := hI
              obtain rfl := h15 (by decide)
              obtain rfl := h16 (by decide)
              have hX := BW.out
              replace BV := Lib.hid (BV.out.below hX BV.out.lt)
              replace BL := Lib.hid (BL.out.below hX BL.out.lt)
              replace BE := Lib.hid (BE.out.below hX BE.out.lt)
              replace OX := Lib.hid (OX.out.below hX)
              replace WX := Lib.hid (WX.out.trans (hX.mono WX.out.size))
              replace HZX : Hid (z8 ≤ _) := Nat.le_trans HZX.out hX.size
              clear hX
              clear BW h15 h16
              try dsimp only
              refine wpAny_take (i := 17) (oi := ?oi21) (v := .bool false) ?hi21 (by kernel_rfl) (by kernel_rfl) (by kernel_rfl) ?hQ21 ?hy21 ?rest21
              case hi21 => simp only [zge]; rfl
              case hQ21 => exact fun _ _ _ h => h
              case hy21 => exact Or.inl ⟨by rfl, by intro w; go_simp <;> (intro hh; exfalso; omega)⟩
              try simp only [zpt]
              refine wpAny_take (i := 18) (oi := ?oi22) (v := .bool false) ?hi22 (by kernel_rfl) (by kernel_rfl) (by kernel_rfl) ?hQ22 ?hy22 ?rest22
              case hi22 => simp only [zge]; rfl
              case hQ22 => exact fun _ _ _ h => h
              case hy22 => exact Or.inl ⟨by rfl, by intro w; go_simp <;> (intro hh; exfalso; omega)⟩
              try simp only [zpt]
              refine wpAny_take (i := 19) (oi := ?oi23) (v := .bool false) ?hi23 (by kernel_rfl) (by kernel_rfl) (by kernel_rfl) ?hQ23 ?hy23 ?rest23
              case hi23 => simp only [zge]; rfl
              case hQ23 => exact fun _ _ _ h => h
              case hy23 => exact Or.inl ⟨by rfl, by intro w; go_simp <;> (intro hh; exfalso; omega)⟩
              try simp only [zpt]
              refine wpAny_take (i := 20) (oi := ?oi24) (v := .pointer (some ⟨q, 2, none⟩)) ?hi24 (by kernel_rfl) (by kernel_rfl) (by kernel_rfl) ?hQ24 ?hy24 ?rest24
              case hi24 => simp only [zge]; rfl
              case hQ24 => exact fun _ _ _ h => h
              case hy24 => exact Or.inl ⟨by rfl, by intro w; go_simp <;> (intro hh; exfalso; omega)⟩
              try simp only [zpt]
              refine wpAny_take (i := 22) (oi := ?oi25) (v := .int .i64 (i : Int)) ?hi25 (by kernel_rfl) (by kernel_rfl) (by kernel_rfl) ?hQ25 ?hy25 ?rest25
              case hi25 => simp only [zge]; rfl
              case hQ25 => exact fun _ _ _ h => h
              case hy25 => exact Or.inl ⟨by rfl, by intro w; go_simp <;> (intro hh; exfalso; omega)⟩
              try simp only [zpt]
              refine wpAny_take (i := 23) (oi := ?oi26) (v := .int .i64 ((i : Int) + 1)) ?hi26 (by kernel_rfl) (by kernel_rfl) (by kernel_rfl) ?hQ26 ?hy26 ?rest26
              case hi26 => simp only [zge]; rfl
              case hQ26 => exact fun _ _ _ h => h
              case hy26 => exact Or.inl ⟨by rfl, by intro w; go_simp <;> (intro hh; exfalso; omega)⟩
              try simp only [zpt]
              have c2 := (BV.out.cell 2).trans V2.out
              refine wpAny_ready (rs := [21]) (by kernel_rfl) (by simp) ?_
              refine AllReady.cons (o := ?p27) ?q27 (fun K hK => ?_) AllReady.nil
              case q27 => simp only [zge]; rfl
              go_simp
              refine hK _ _ ?_
              clear hK K
              try simp only [zpt]
              clear c2
              refine wpAny_take (i := 24) (oi := ?oi28) (v := .bool false) ?hi28 (by kernel_rfl) (by kernel_rfl) (by kernel_rfl) ?hQ28 ?hy28 ?rest28
              case hi28 => simp only [zge]; rfl
              case hQ28 => exact fun _ _ _ h => h
              case hy28 => exact Or.inl ⟨by rfl, by intro w; go_simp <;> (intro hh; exfalso; omega)⟩
              try simp only [zpt]
              refine wpAny_take (i := 25) (oi := ?oi29) (v := .bool false) ?hi29 (by kernel_rfl) (by kernel_rfl) (by kernel_rfl) ?hQ29 ?hy29 ?rest29
              case hi29 => simp only [zge]; rfl
              case hQ29 => exact fun _ _ _ h => h
              case hy29 => exact Or.inl ⟨by rfl, by intro w; go_simp <;> (intro hh; exfalso; omega)⟩
              try simp only [zpt]
              refine wpAny_take (i := 26) (oi := ?oi30) (v := .bool false) ?hi30 (by kernel_rfl) (by kernel_rfl) (by kernel_rfl) ?hQ30 ?hy30 ?rest30
              case hi30 => simp only [zge]; rfl
              case hQ30 => exact fun _ _ _ h => h
              case hy30 => exact Or.inl ⟨by rfl, by intro w; go_simp <;> (intro hh; exfalso; omega)⟩
              try simp only [zpt]
              refine wpAny_ready (rs := [27]) (by kernel_rfl) (by simp) ?_
              refine AllReady.cons (o := ?p31) ?q31 (fun K hK => ?_) AllReady.nil
              case q31 => simp only [zge]; rfl
              refine step_loadW (by kernel_rfl) 30 (.tmp 11) rfl q 0 rfl VC _ Tryd.underlying30 rfl IVc.out BV.out.cells (hK _ _ ?_)
              clear hK K
              try simp only [zpt]
              refine wpAny_ready (rs := [28]) (by kernel_rfl) (by simp) ?_
              refine AllReady.cons (o := ?p32) ?q32 (fun K hK => ?_) AllReady.nil
              case q32 => simp only [zge]; rfl
              go_simp
              refine (CM.out _).mono ?_
              rintro e w110 ⟨rfl, hX⟩
              replace BV := Lib.hid (BV.out.below hX BV.out.lt)
              replace BL := Lib.hid (BL.out.below hX BL.out.lt)
              replace BE := Lib.hid (BE.out.below hX BE.out.lt)
              replace OX := Lib.hid (OX.out.below hX)
              replace WX := Lib.hid (WX.out.trans (hX.mono WX.out.size))
              replace HZX : Hid (z8 ≤ _) := Nat.le_trans HZX.out hX.size
              clear hX
              refine hK _ _ ?_
              clear hK K
              try simp only [zpt]
              refine wpAny_take (i := 29) (oi := ?oi33) (v := .bool false) ?hi33 (by kernel_rfl) (by kernel_rfl) (by kernel_rfl) ?hQ33 ?hy33 ?rest33
              case hi33 => simp only [zge]; rfl
              case hQ33 => exact fun _ _ _ h => h
              case hy33 => exact Or.inl ⟨by rfl, by intro w; go_simp <;> (intro hh; exfalso; omega)⟩
              try simp only [zpt]
              refine wpAny_take (i := 30) (oi := ?oi34) (v := .bool false) ?hi34 (by kernel_rfl) (by kernel_rfl) (by kernel_rfl) ?hQ34 ?hy34 ?rest34
              case hi34 => simp only [zge]; rfl
              case hQ34 => exact fun _ _ _ h => h
              case hy34 => exact Or.inl ⟨by rfl, by intro w; go_simp <;> (intro hh; exfalso; omega)⟩
              try simp only [zpt]
              refine wpAny_done (by kernel_rfl) ?_ _
              clear eVV CF CM
              go_wp2_with fail
              go_loopw [12] (fun kk wy => ∃ j : Nat, j ≤ i ∧ kk = .int .i64 (j : Int) ∧ Hid (Blk wy q 30 VC) ∧ Hid (Blk wy q7 30 LC) ∧ Hid (Blk wy q8 28 VL1) ∧ Hid (Ow2 wy z8 30 104 (.slice AL i cl) (versL L)) ∧ Hid (Below w.heap.size w wy) ∧ Hid (z8 ≤ wy.heap.size)) (fun kk _ => i - (intOf kk).toNat)
              case atStart => exact ⟨0, Nat.zero_le _, rfl, BV, BL, BE, OX, WX, HZX⟩
              case round =>
                clear BV BL BE OX WX HZX
                obtain ⟨j, hj, rfl, BV, BL, BE, OX, WX, HZX⟩ := hrel
                have d8 : IntKind.i64.wrap ((j : Int) + 1) = (j : Int) + 1 := by rw [IntKind.wrap_i64]; omega
                by_cases hji : j + 1 < i
                · have hlb : decide ((j : Int) + 1 < (i : Int)) = true := decide_eq_true (by omega)
                  obtain ⟨u, hu⟩ : ∃ u, L[j]? = some u := ⟨_, List.getElem?_eq_getElem (by have := HC.out.len; omega)⟩
                  have huo : Ok u := (HC.out.each j u hu).1
                  obtain ⟨A3, c3, hA3, hR3, _⟩ := OX.out.rd
                  have hLl : (versL L).length = i := by rw [versL, List.length_map, HC.out.len]
                  rw [hLl] at hA3 hR3
                  injection hA3 with hA4 _ hA5
                  subst hA4
                  subst hA5
                  obtain ⟨bq, oq, rfl, hbq, hcq⟩ := hR3.at_ (by omega)
                  have hLE := hcq j (by omega)
                  have hue : (versL L).getD j [] = u.cells := by rw [List.getD_eq_getElem?_getD, versL, List.getElem?_map, hu]; rfl
                  rw [hue] at hLE
                  have hix := fun W => index_vers bq oq i cl j (by omega) W
                  obtain ⟨po, hpo⟩ : ∃ p, p = oq + j * 104 := ⟨_, rfl⟩
                  rw [← hpo] at hLE hix
                  obtain ⟨UC, hUC⟩ : ∃ X, X = u.cells := ⟨_, rfl⟩
                  rw [← hUC] at hLE
                  have LEL := Lib.hid hLE
                  have HBQ := Lib.hid hbq
                  have IU := Lib.hid (vinfo huo)
                  have CU : Hid (∀ W, Gl W → Calls Tryd.prog 9 #[.agg u.cells.toArray, .agg VC.toArray] W fun e w' => e = .returned (.bool false) ∧ Below W.heap.size W w') := fun W hW => CO.out j u W hji hu hW
                  rw [← hUC] at CU IU
                  clear hLE hcq hR3 hue hpo hUC huo hu hbq hLl
                  go_upto_region 21 with (fail)
                  replace BV := Lib.hid BV.out.drew
                  replace BL := Lib.hid BL.out.drew
                  replace BE := Lib.hid BE.out.drew
                  replace LEL : Hid (∀ y x, UC[y]? = some x → wr.drew.cell? ⟨bq, po + y, none⟩ = some x) := LEL.out
                  replace HBQ : Hid (bq < wr.drew.heap.size) := HBQ.out
                  replace OX : Hid (Ow2 wr.drew z8 30 104 (.slice (some ⟨bq, oq, none⟩) i cl) (versL L)) := OX.out.keep fun _ _ => rfl
                  replace WX := Lib.hid WX.out.drew
                  replace HZX : Hid (z8 ≤ wr.drew.heap.size) := HZX.out
                  refine wp_region_any (by kernel_rfl) ?_
                  change wpAny _ _ _ _ _ _ _ (World.drew _)
                  generalize wr.drew = wz at *
                  refine wpAny_take (i := 0) (oi := ?oi35) (v := .slice (some ⟨bq, oq, none⟩) i cl) ?hi35 (by kernel_rfl) (by kernel_rfl) (by kernel_rfl) ?hQ35 ?hy35 ?rest35
                  case hi35 => simp only [zge]; rfl
                  case hQ35 => exact fun _ _ _ h => h
                  case hy35 => exact Or.inl ⟨by rfl, by intro w; go_simp⟩
                  try simp only [zpt]
                  refine wpAny_take (i := 1) (oi := ?oi36) (v := .int .i64 (j : Int)) ?hi36 (by kernel_rfl) (by kernel_rfl) (by kernel_rfl) ?hQ36 ?hy36 ?rest36
                  case hi36 => simp only [zge]; rfl
                  case hQ36 => exact fun _ _ _ h => h
                  case hy36 => exact Or.inl ⟨by rfl, by intro w; go_simp⟩
                  try simp only [zpt]
                  refine wpAny_take (i := 2) (oi := ?oi37) (v := .pointer (some ⟨bq, po, none⟩)) ?hi37 (by kernel_rfl) (by kernel_rfl) (by kernel_rfl) ?hQ37 ?hy37 ?rest37
                  case hi37 => simp only [zge]; rfl
                  case hQ37 => exact fun _ _ _ h => h
                  case hy37 => exact Or.inl ⟨by rfl, by intro w; go_simp⟩
                  try simp only [zpt]
                  clear hix
                  refine phaseL (fun i => []) (fun d a w' => ∃ x103 x104 : Value, a = { tmps := #[.slice (some ⟨bl, ol, none⟩) n1 c1, .slice A2 n2 c2, undef, undef, u4, .bool true, .slice (some ⟨bq, oq, none⟩) i cl, .pointer (some ⟨q7, 0, none⟩), .pointer (some ⟨q8, 0, none⟩), .int .i64 (i : Int), .int .i64 cz, .pointer (some ⟨q, 0, none⟩), .int .i64 (j : Int), .bool true, .bool true, .bool false, .agg Z.toArray, u17, u18, u19, u20, u21, u22, u23, u24, u25, u26, u27, u28, u29, u30, u31, u32, u33, u34, u35, u36, u37, u38, u39, u40, u41, u42, u43, u44, u45, u46, u47, u48, u49, u50, u51, u52, u53, u54, u55, u56, u57, .int .i64 (i : Int), .int .u8 (i : Int), .pointer (some ⟨q, 35, none⟩), .pointer (some ⟨q, 35, none⟩), .agg LC.toArray, .agg VC.toArray, .bool true, .bool false, .bool false, .pointer (some ⟨q, 1, none⟩), .int .i64 o1, .int .i64 cz, .int .i64 (k : Int), .pointer (some ⟨q8, k, none⟩), .int .i64 o1, .bool false, .bool false, .bool false, .pointer (some ⟨q, 68, none⟩), .agg VL1.toArray, .agg VL1.toArray, .bool false, .bool false, .bool false, .pointer (some ⟨q, 2, none⟩), .int .i64 ((i : Int) + 1), .int .i64 (i : Int), .int .i64 ((i : Int) + 1), .bool false, .bool false, .bool false, .agg VC.toArray, .bool true, .bool false, .bool false, .int .i64 (j : Int), .int .i64 ((j : Int) + 1), .slice (some ⟨bq, oq, none⟩) i cl, .int .i64 (i : Int), .bool true, u98, u99, .slice (some ⟨bq, oq, none⟩) i cl, .int .i64 (j : Int), .pointer (some ⟨bq, po, none⟩), x103, x104, u105, u106, u107, u108, u109, u110], defers := [] } ∧ Hid (Below wz.heap.size wz w') ∧ (d 3 = true → x103 = .agg UC.toArray) ∧ (d 4 = true → x104 = .agg VC.toArray)) [3, 4] ?step38 1 2 [3, 4] _ _ _ rfl (by decide) (fun _ h => h) (Fits.of (by kernel_rfl)) ?init38 ?fin38
                  case init38 => refine ⟨_, _, rfl, Below.refl _ _, ?_, ?_⟩ <;> (intro h; exact absurd h (by decide))
                  case step38 =>
                    intro i hi d a v38 hI hdi hdeps
                    obtain ⟨x103, x104, rfl, BW, h3, h4⟩ := hI
                    have hsw := BW.out.size
                    simp only [List.mem_cons, List.not_mem_nil, or_false] at hi
                    rcases hi with rfl | rfl
                    · refine wpOp_step (o := ?os39) ?hos39 (fun K hK => ?_)
                      case hos39 => simp only [zge]; rfl
                      refine step_loadW (by kernel_rfl) 30 (.tmp 102) rfl bq po rfl UC _ Tryd.underlying30 rfl IU.out (fun y x hy => (BW.out.cell (p := ⟨bq, po + y, none⟩) HBQ.out).trans (LEL.out y x hy)) (hK _ _ ?_)
                      clear hK K
                      try simp only [zpt]
                      exact ⟨_, _, rfl, BW, fun _ => rfl, fun a => by first | exact h4 (by simpa using a) | rfl⟩
                    · refine wpOp_step (o := ?os40) ?hos40 (fun K hK => ?_)
                      case hos40 => simp only [zge]; rfl
                      refine step_loadW (by kernel_rfl) 30 (.tmp 11) rfl q 0 rfl VC _ Tryd.underlying30 rfl IVc.out (BV.out.below BW.out BV.out.lt).cells (hK _ _ ?_)
                      clear hK K
                      try simp only [zpt]
                      exact ⟨_, _, rfl, BW, fun a => by first | exact h3 (by simpa using a) | rfl, fun _ => rfl⟩
                  case fin38 =>
                    intro a v38 hI
                    obtain ⟨x103, x104, rfl, BW, h3, h4⟩ := hI
                    obtain rfl := h3 (by decide)
                    obtain rfl := h4 (by decide)
                    have hX := BW.out
                    replace BV := Lib.hid (BV.out.below hX BV.out.lt)
                    replace BL := Lib.hid (BL.out.below hX BL.out.lt)
                    replace BE := Lib.hid (BE.out.below hX BE.out.lt)
                    replace OX := Lib.hid (OX.out.below hX)
                    replace WX := Lib.hid (WX.out.trans (hX.mono WX.out.size))
                    replace HZX : Hid (z8 ≤ _) := Nat.le_trans HZX.out hX.size
                    clear hX
                    clear BW h3 h4
                    try dsimp only
                    refine wpAny_ready (rs := [5]) (by kernel_rfl) (by simp) ?_
                    refine AllReady.cons (o := ?p41) ?q41 (fun K hK => ?_) AllReady.nil
                    case q41 => simp only [zge]; rfl
                    go_simp
                    refine (CU.out _ (HG.out.below WX.out hsz)).mono ?_
                    rintro e w120 ⟨rfl, hX⟩
                    replace BV := Lib.hid (BV.out.below hX BV.out.lt)
                    replace BL := Lib.hid (BL.out.below hX BL.out.lt)
                    replace BE := Lib.hid (BE.out.below hX BE.out.lt)
                    replace OX := Lib.hid (OX.out.below hX)
                    replace WX := Lib.hid (WX.out.trans (hX.mono WX.out.size))
                    replace HZX : Hid (z8 ≤ _) := Nat.le_trans HZX.out hX.size
                    clear hX
                    refine hK _ _ ?_
                    clear hK K
                    try simp only [zpt]
                    refine wpAny_done (by kernel_rfl) ?_ _
                    clear CU IU LEL HBQ
                    go_wp2_with fail
                    go_roundw
                    case rel => exact ⟨j + 1, by omega, by go_num, BV, BL, BE, OX, WX, HZX⟩
                    case measure => simp [intOf]; omega
                · have hlb : decide ((j : Int) + 1 < (i : Int)) = false := decide_eq_false (by omega)
                  go_upto_region 23 with (fail)
                  replace BV := Lib.hid BV.out.drew
                  replace BL := Lib.hid BL.out.drew
                  replace BE := Lib.hid BE.out.drew
                  replace OX : Hid (Ow2 wr.drew z8 30 104 (.slice AL i cl) (versL L)) := OX.out.keep fun _ _ => rfl
                  replace WX := Lib.hid WX.out.drew
                  replace HZX : Hid (z8 ≤ wr.drew.heap.size) := HZX.out
                  refine wp_region_any (by kernel_rfl) ?_
                  change wpAny _ _ _ _ _ _ _ (World.drew _)
                  generalize wr.drew = wz at *
                  have HOB : Hid (∀ g, (Value.slice AL i cl).ownBlock = some g → z8 ≤ g ∧ g < q) := fun g hg => ⟨(World.ownsRow.lt OX.out.own g hg).1, hown g hg⟩
                  have HLN : Hid (L.length = i) := HC.out.len
                  clear hown
                  refine wpAny_take (i := 0) (oi := ?oi42) (v := .slice AL i cl) ?hi42 (by kernel_rfl) (by kernel_rfl) (by kernel_rfl) ?hQ42 ?hy42 ?rest42
                  case hi42 => simp only [zge]; rfl
                  case hQ42 => exact fun _ _ _ h => h
                  case hy42 => exact Or.inl ⟨by rfl, by intro w; go_simp⟩
                  try simp only [zpt]
                  refine phaseL (fun i => if i = 2 then [1] else if i = 3 then [2] else if i = 5 then [3, 1, 2] else []) (fun d a w' => ∃ x107 x108 x109 x110 x6 : Value, a = { tmps := #[.slice (some ⟨bl, ol, none⟩) n1 c1, .slice A2 n2 c2, undef, undef, u4, .bool true, x6, .pointer (some ⟨q7, 0, none⟩), .pointer (some ⟨q8, 0, none⟩), .int .i64 (i : Int), .int .i64 cz, .pointer (some ⟨q, 0, none⟩), .int .i64 (j : Int), .bool true, .bool true, .bool false, .agg Z.toArray, u17, u18, u19, u20, u21, u22, u23, u24, u25, u26, u27, u28, u29, u30, u31, u32, u33, u34, u35, u36, u37, u38, u39, u40, u41, u42, u43, u44, u45, u46, u47, u48, u49, u50, u51, u52, u53, u54, u55, u56, u57, .int .i64 (i : Int), .int .u8 (i : Int), .pointer (some ⟨q, 35, none⟩), .pointer (some ⟨q, 35, none⟩), .agg LC.toArray, .agg VC.toArray, .bool true, .bool false, .bool false, .pointer (some ⟨q, 1, none⟩), .int .i64 o1, .int .i64 cz, .int .i64 (k : Int), .pointer (some ⟨q8, k, none⟩), .int .i64 o1, .bool false, .bool false, .bool false, .pointer (some ⟨q, 68, none⟩), .agg VL1.toArray, .agg VL1.toArray, .bool false, .bool false, .bool false, .pointer (some ⟨q, 2, none⟩), .int .i64 ((i : Int) + 1), .int .i64 (i : Int), .int .i64 ((i : Int) + 1), .bool false, .bool false, .bool false, .agg VC.toArray, .bool true, .bool false, .bool false, .int .i64 (j : Int), .int .i64 ((j : Int) + 1), .slice AL i cl, .int .i64 (i : Int), .bool false, u98, u99, u100, u101, u102, u103, u104, u105, .slice AL i cl, x107, x108, x109, x110], defers := [] } ∧ Hid (Below w.heap.size w w') ∧ (Hid (Blk w' q 30 VC)) ∧ (Hid (Blk w' q7 30 LC)) ∧ (Hid (Blk w' q8 28 VL1)) ∧ (Hid (z8 ≤ w'.heap.size)) ∧ (d 3 = true → d 2 = true) ∧ (d 5 = true → d 3 = true) ∧ (d 5 = true → x109 = x6) ∧ (d 2 = true → d 3 = false → Hid (∃ g, x108 = .slice (some ⟨g, 0, none⟩) 1 1 ∧ Blk w' g 30 VC)) ∧ (d 3 = false → Hid (Ow2 w' z8 30 104 (.slice AL i cl) (versL L))) ∧ (d 3 = true → Hid (Ow2 w' z8 30 104 x109 (versL (L ++ [nv])))) ∧ (d 1 = true → x107 = .agg VC.toArray) ∧ (d 4 = true → x110 = .agg VC.toArray)) [1, 2, 3, 4, 5] ?step43 1 5 [1, 2, 3, 4, 5] _ _ _ rfl (by decide) (fun _ h => h) (Fits.of (by kernel_rfl)) ?init43 ?fin43
                  case init43 => refine ⟨_, _, _, _, _, rfl, WX, BV, BL, BE, HZX, (by intro h; exact absurd h (by decide)), (by intro h; exact absurd h (by decide)), (by intro h; exact absurd h (by decide)), (by intro h; exact absurd h (by decide)), fun _ => OX, (by intro h; exact absurd h (by decide)), ?_, ?_⟩ <;> (intro h; exact absurd h (by decide))
                  case step43 =>
                    intro i hi d a v43 hI hdi hdeps
                    obtain ⟨x107, x108, x109, x110, x6, rfl, BW, BV, BL, BE, HZ, r3, r5, e5, s2, o0, o3, h1, h4⟩ := hI
                    have hsw := BW.out.size
                    simp only [List.mem_cons, List.not_mem_nil, or_false] at hi
                    rcases hi with rfl | rfl | rfl | rfl | rfl
                    · refine wpOp_step (o := ?os44) ?hos44 (fun K hK => ?_)
                      case hos44 => simp only [zge]; rfl
                      refine step_loadW (by kernel_rfl) 30 (.tmp 11) rfl q 0 rfl VC _ Tryd.underlying30 rfl IVc.out BV.out.cells (hK _ _ ?_)
                      clear hK K
                      try simp only [zpt]
                      exact ⟨_, _, _, _, _, rfl, BW, BV, BL, BE, HZ, fun a => by simpa using r3 (by simpa using a), fun a => by simpa using r5 (by simpa using a), fun a => e5 (by simpa using a), fun a b => s2 (by simpa using a) (by simpa using b), fun a => o0 (by simpa using a), fun a => o3 (by simpa using a), fun _ => rfl, fun a => by first | exact h4 (by simpa using a) | rfl⟩
                    · obtain rfl := h1 (hdeps 1 (by simp))
                      have hX := alloc_below v43 (.cells VC.toArray 30)
                      have hS : Hid (∃ g, (Value.slice (some ⟨v43.heap.size, 0, none⟩) 1 1) = .slice (some ⟨g, 0, none⟩) 1 1 ∧ Blk (v43.alloc (.cells VC.toArray 30)) g 30 VC) := ⟨_, rfl, Blk.new v43 _ _⟩
                      refine wpOp_step (o := ?os45) ?hos45 (fun K hK => ?_)
                      case hos45 => simp only [zge]; rfl
                      refine step_bslice (by kernel_rfl) 25 1 #[(0, .tmp 107)] rfl (by simp only [List.map_toArray, List.map_cons, List.map_nil]; exact LRW.out v43) (hK _ _ ?_)
                      clear hK K
                      try simp only [zpt]
                      exact ⟨_, _, _, _, _, rfl, BW.out.trans (hX.mono BW.out.size), BV.out.below hX BV.out.lt, BL.out.below hX BL.out.lt, BE.out.below hX BE.out.lt, Nat.le_trans HZ.out hX.size, fun _ => by simp, fun a => by simpa using r5 (by simpa using a), fun a => e5 (by simpa using a), fun _ _ => hS, fun a => (o0 (by simpa using a)).out.below hX, fun a => absurd (r3 (by simpa using a)) (by simp [hdi]), fun a => by first | exact h1 (by simpa using a) | rfl, fun a => by first | exact h4 (by simpa using a) | rfl⟩
                    · obtain ⟨g2, rfl, hb2⟩ := (s2 (hdeps 2 (by simp)) hdi).out
                      rw [HVC.out] at hb2
                      obtain ⟨y, u43, hrun, hO, hgr, _⟩ := push_vers (ty := 25) (o0 hdi).out hb2 HVO.out (by rw [HLN.out]; omega) HZ.out
                      have hO3 := Lib.hid hO
                      refine wpOp_step (o := ?os46) ?hos46 (fun K hK => ?_)
                      case hos46 => simp only [zge]; rfl
                      refine step_append (by kernel_rfl) (.tmp 106) (.tmp 108) 25 25 rfl rfl rfl hrun (hK _ _ ?_)
                      clear hK K
                      try simp only [zpt]
                      exact ⟨_, _, _, _, _, rfl, BW.out.grown hgr hsw (fun g hg => by have := HOB.out g hg; omega), (hgr.block q BV.out.lt (by intro hh; have hh1 := HOB.out _ hh.symm; omega)).trans BV.out, (hgr.block q7 BL.out.lt (by intro hh; have hh1 := HOB.out _ hh.symm; omega)).trans BL.out, (hgr.block q8 BE.out.lt (by intro hh; have hh1 := HOB.out _ hh.symm; omega)).trans BE.out, Nat.le_trans HZ.out hgr.size, fun _ => by simp [hdeps 2 (by simp)], fun _ => by simp, fun a => absurd (r5 (by simpa using a)) (by simp [hdi]), fun _ a => absurd a (by simp), fun a => absurd a (by simp), fun _ => hO3, fun a => by first | exact h1 (by simpa using a) | rfl, fun a => by first | exact h4 (by simpa using a) | rfl⟩
                    · refine wpOp_step (o := ?os47) ?hos47 (fun K hK => ?_)
                      case hos47 => simp only [zge]; rfl
                      refine step_loadW (by kernel_rfl) 30 (.tmp 11) rfl q 0 rfl VC _ Tryd.underlying30 rfl IVc.out BV.out.cells (hK _ _ ?_)
                      clear hK K
                      try simp only [zpt]
                      exact ⟨_, _, _, _, _, rfl, BW, BV, BL, BE, HZ, fun a => by simpa using r3 (by simpa using a), fun a => by simpa using r5 (by simpa using a), fun a => e5 (by simpa using a), fun a b => s2 (by simpa using a) (by simpa using b), fun a => o0 (by simpa using a), fun a => o3 (by simpa using a), fun a => by first | exact h1 (by simpa using a) | rfl, fun _ => rfl⟩
                    · refine wpOp_step (o := ?os48) ?hos48 (fun K hK => ?_)
                      case hos48 => simp only [zge]; rfl
                      go_simp
                      refine hK _ _ ?_
                      clear hK K
                      try simp only [zpt]
                      exact ⟨_, _, _, _, _, rfl, BW, BV, BL, BE, HZ, fun a => by simpa using r3 (by simpa using a), fun _ => by simp [hdeps 3 (by simp)], fun _ => rfl, fun a b => s2 (by simpa using a) (by simpa using b), fun a => o0 (by simpa using a), fun a => o3 (by simpa using a), fun a => by first | exact h1 (by simpa using a) | rfl, fun a => by first | exact h4 (by simpa using a) | rfl⟩
                  case fin43 =>
                    intro a v43 hI
                    obtain ⟨x107, x108, x109, x110, x6, rfl, BW, BV, BL, BE, HZ, r3, r5, e5, s2, o0, o3, h1, h4⟩ := hI
                    obtain rfl := h1 (by decide)
                    obtain rfl := h4 (by decide)
                    obtain rfl := e5 (by decide)
                    replace OX := o3 (by decide)
                    replace WX := BW
                    replace HZX := HZ
                    clear h1 h4 o3 o0 s2 r3 r5 BW HZ
                    try dsimp only
                    refine wpAny_ready (rs := [6]) (by kernel_rfl) (by simp) ?_
                    refine AllReady.cons (o := ?p49) ?q49 (fun K hK => ?_) AllReady.nil
                    case q49 => simp only [zge]; rfl
                    have hB' : Hid (Blk (v43.setRow q7 VC.toArray) q7 30 VC) := BL.out.row
                    have hV' : Hid (Blk (v43.setRow q7 VC.toArray) q 30 VC) := BV.out.rowFar (by omega) _
                    have hE' : Hid (Blk (v43.setRow q7 VC.toArray) q8 28 VL1) := BE.out.rowFar (by omega) _
                    have hO' : Hid (Ow2 (v43.setRow q7 VC.toArray) z8 30 104 x109 (versL (L ++ [nv]))) := OX.out.keep fun g hg => by
                      have hh := (World.ownsRow.lt OX.out.own g hg).1
                      exact setRow_other _ _ _ _ (by omega)
                    have hW' : Hid (Below w.heap.size w (v43.setRow q7 VC.toArray)) := below_setRow WX.out (by omega) _
                    have hZ' : Hid (z8 ≤ (v43.setRow q7 VC.toArray).heap.size) := Nat.le_trans HZX.out (setRow_below v43 (B := 0) (Nat.zero_le _) _).size
                    refine step_storeAll rfl 30 (.tmp 7) (.tmp 110) rfl q7 rfl VC rfl 30 LC BL.out IVc.out (by rw [LLC.out, LVc.out]) OVc.out (hK _ _ ?_)
                    clear hK K
                    try simp only [zpt]
                    clear BV BL BE OX WX HZX
                    generalize v43.setRow q7 VC.toArray = wy at *
                    refine wpAny_done (by kernel_rfl) ?_ _
                    go_wp2_with fail
                    go_roundw
                    case rel => exact ⟨i + 1, nv, L ++ [nv], by omega, by go_num, HCH, by unfold Hid; rw [← HVC.out]; exact hB'.out, by unfold Hid; rw [← HVX.out]; exact hE'.out, hO', hZ', hW'⟩
                    case measure => simp [intOf]; omega
end Go.Proofs.YtajgjeialbgijaaDoor.versChain
