/- The contract of package aead's tag. -/
import Derived.Test.YtpbfeobifpmjbaaDoorAePa
import Derived.Test.YtpbfeobifpmjbaaDoorGchr
namespace Go.Proofs.YtpbfeobifpmjbaaDoor
set_option linter.unusedVariables false
set_option linter.unusedSimpArgs false
set_option maxRecDepth 100000
open Go.RowKit

/-- The value reads as these bytes. -/
def Got (w : World) (x : Value) (l : List UInt8) : Prop := ∃ A n c, x = .slice A n c ∧ Rd w A n c l
theorem Got.below {w w' : World} {x : Value} {l : List UInt8} (h : Got w x l) (hb : Below w.heap.size w w') : Got w' x l := by
  obtain ⟨A, n, c, e, hr⟩ := h
  exact ⟨A, n, c, e, hr.below hb⟩
/-- Six parts in a row. -/
theorem lit_parts6 (w : World) {a0 a1 a2 a3 a4 a5 : Option Addr} {n0 n1 n2 n3 n4 n5 c0 c1 c2 c3 c4 c5 : Nat} {l0 l1 l2 l3 l4 l5 : List UInt8} (h0 : Rd w a0 n0 c0 l0) (h1 : Rd w a1 n1 c1 l1) (h2 : Rd w a2 n2 c2 l2) (h3 : Rd w a3 n3 c3 l3) (h4 : Rd w a4 n4 c4 l4) (h5 : Rd w a5 n5 c5 l5) :
    RdP (w.alloc (.cells #[.slice a0 n0 c0, .slice a1 n1 c1, .slice a2 n2 c2, .slice a3 n3 c3, .slice a4 n4 c4, .slice a5 n5 c5] 28)) (some ⟨w.heap.size, 0, none⟩) 6 [l0, l1, l2, l3, l4, l5] :=
  ⟨rfl, fun j hj => by
    have hX := (Below.refl w.heap.size w).alloc (Nat.le_refl _) (.cells #[.slice a0 n0 c0, .slice a1 n1 c1, .slice a2 n2 c2, .slice a3 n3 c3, .slice a4 n4 c4, .slice a5 n5 c5] 28)
    have hB := Blk.new w 28 [.slice a0 n0 c0, .slice a1 n1 c1, .slice a2 n2 c2, .slice a3 n3 c3, .slice a4 n4 c4, .slice a5 n5 c5]
    match j, hj with
    | 0, _ => exact ⟨w.heap.size, 0, a0, n0, c0, rfl, by simp, hB.cell 0, h0.below hX⟩
    | 1, _ => exact ⟨w.heap.size, 0, a1, n1, c1, rfl, by simp, hB.cell 1, h1.below hX⟩
    | 2, _ => exact ⟨w.heap.size, 0, a2, n2, c2, rfl, by simp, hB.cell 2, h2.below hX⟩
    | 3, _ => exact ⟨w.heap.size, 0, a3, n3, c3, rfl, by simp, hB.cell 3, h3.below hX⟩
    | 4, _ => exact ⟨w.heap.size, 0, a4, n4, c4, rfl, by simp, hB.cell 4, h4.below hX⟩
    | 5, _ => exact ⟨w.heap.size, 0, a5, n5, c5, rfl, by simp, hB.cell 5, h5.below hX⟩⟩
theorem text_parts (ad cc : List UInt8) : [ad, List.replicate (Ae.gap ad.length) 0, cc, List.replicate (Ae.gap cc.length) 0, Pol.bytesN 8 (ad.length : Int), Pol.bytesN 8 (cc.length : Int)].flatten = Ae.text ad cc := by
  rw [Ae.text, Ae.up_front _ _ (Ae.up_length ad).1]
  simp [Ae.up]
/-- What holds while the parts of tag's last line come up. -/
structure TagI (w5 : World) (kk mk : List Value) (ad r1 cc r2 e1 e2 tx : List UInt8) (d : Nat → Bool) (w' : World) (x17 x21 x25 x28 x31 x32 x33 x34 : Value) : Prop where
  bel : Below w5.heap.size w5 w'
  i0 : d 0 = true → x17 = .agg kk.toArray
  i4 : d 4 = true → Got w' x21 r1
  i8 : d 8 = true → Got w' x25 r2
  i11 : d 11 = true → Got w' x28 e1
  i14 : d 14 = true → Got w' x31 e2
  i15 : d 15 = true → ∃ g, x32 = .slice (some ⟨g, 0, none⟩) 6 6 ∧ RdP w' (some ⟨g, 0, none⟩) 6 [ad, r1, cc, r2, e1, e2]
  i16 : d 16 = true → Got w' x33 tx
  i17 : d 17 = true → x34 = .agg mk.toArray
theorem TagI.below {w5 : World} {kk mk : List Value} {ad r1 cc r2 e1 e2 tx : List UInt8} {d : Nat → Bool} {w' w'' : World} {x17 x21 x25 x28 x31 x32 x33 x34 : Value} (h : TagI w5 kk mk ad r1 cc r2 e1 e2 tx d w' x17 x21 x25 x28 x31 x32 x33 x34) (hb : Below w'.heap.size w' w'') : TagI w5 kk mk ad r1 cc r2 e1 e2 tx d w'' x17 x21 x25 x28 x31 x32 x33 x34 :=
  ⟨h.bel.trans (hb.mono h.bel.size), h.i0, fun a => (h.i4 a).below hb, fun a => (h.i8 a).below hb, fun a => (h.i11 a).below hb, fun a => (h.i14 a).below hb, fun a => by obtain ⟨g, e, hr⟩ := h.i15 a; exact ⟨g, e, hr.below hb⟩, fun a => (h.i16 a).below hb, h.i17⟩

set_option maxRecDepth 100000 in
set_option maxHeartbeats 8000000 in
theorem tag_any (key nonce : List UInt8) {w : World} {A A' : Option Addr} {n c n' c' : Nat} {ad cc : List UInt8} (hk : key.length = 32) (hn : nonce.length = 12) (hra : Rd w A n c ad) (hrc : Rd w A' n' c' cc) (hn1 : n ≤ 100000) (hn2 : n' ≤ 100000) :
    Calls Tryd.prog 41 #[.agg (key.map cellOf).toArray, .agg (nonce.map cellOf).toArray, .slice A n c, .slice A' n' c'] w fun e w' => e = .returned (.agg ((Ae.mark key nonce ad cc).map cellOf).toArray) ∧ Below w.heap.size w w' := by
  obtain ⟨kc, hkc⟩ : ∃ c, c = key.map cellOf := ⟨_, rfl⟩
  obtain ⟨nc, hnc⟩ : ∃ c, c = nonce.map cellOf := ⟨_, rfl⟩
  have CB := Lib.hid (fun W => cblock_any key nonce 0 W hk hn)
  rw [← hkc, ← hnc] at CB
  rw [← hkc, ← hnc]
  obtain ⟨bk, hbk⟩ : ∃ l, l = Cha.block key 0 nonce := ⟨_, rfl⟩
  rw [← hbk] at CB
  have LBK : Hid (bk.length = 64) := by unfold Hid; rw [hbk]; exact Cha.block_length key 0 nonce
  obtain ⟨bc, hbc⟩ : ∃ c, c = bk.map cellOf := ⟨_, rfl⟩
  rw [← hbc] at CB
  obtain ⟨k1, hk1⟩ : ∃ l, l = bk.take 32 := ⟨_, rfl⟩
  have LK1 : Hid (k1.length = 32) := by unfold Hid; rw [hk1, List.length_take, LBK.out]; rfl
  obtain ⟨kk, hkk⟩ : ∃ c, c = k1.map cellOf := ⟨_, rfl⟩
  obtain ⟨tx, htx⟩ : ∃ l, l = Ae.text ad cc := ⟨_, rfl⟩
  obtain ⟨T, hT⟩ : ∃ T, T = (Ae.mark key nonce ad cc).map cellOf := ⟨_, rfl⟩
  have hTL : T.length = 16 := by rw [hT, List.length_map, Ae.mark_length]
  have IT : Hid ((Tryd.prog.info? 82).map (·.size) = some T.length) := by unfold Hid; rw [hTL]; kernel_rfl
  have LT : Hid ((List.replicate 16 (Value.int .u8 0)).length = T.length) := by unfold Hid; rw [hTL]; rfl
  have OT : Hid (∀ v ∈ T, v.oneCell' = true) := by unfold Hid; rw [hT]; exact cells_u8 _
  have CT := Lib.hid (fun (W : World) (AX : Option Addr) (nx cx : Nat) (h : Rd W AX nx cx tx) => ptag_any k1 LK1.out h)
  have hMT : (Pol.tag k1 tx).map cellOf = T := by rw [hT, Ae.mark, ← hbk, ← hk1, ← htx]
  rw [hMT, ← hkk] at CT
  rw [← hT]
  have IK : Hid ((Tryd.prog.info? 33).map (·.size) = some kc.length) := by unfold Hid; rw [hkc, List.length_map, hk]; kernel_rfl
  have IN : Hid ((Tryd.prog.info? 58).map (·.size) = some nc.length) := by unfold Hid; rw [hnc, List.length_map, hn]; kernel_rfl
  have IB : Hid ((Tryd.prog.info? 101).map (·.size) = some bc.length) := by unfold Hid; rw [hbc, List.length_map, LBK.out]; kernel_rfl
  have LBC : Hid ((List.replicate 64 (Value.int .u8 0)).length = bc.length) := by unfold Hid; rw [hbc, List.length_map, LBK.out]; rfl
  have OBC : Hid (∀ v ∈ bc, v.oneCell' = true) := by unfold Hid; rw [hbc]; exact cells_u8 _
  have I1 : Hid ((Tryd.prog.info? 33).map (·.size) = some kk.length) := by unfold Hid; rw [hkk, List.length_map, LK1.out]; kernel_rfl
  have L1 : Hid ((List.replicate 32 (Value.int .u8 0)).length = kk.length) := by unfold Hid; rw [hkk, List.length_map, LK1.out]; rfl
  have O1 : Hid (∀ v ∈ kk, v.oneCell' = true) := by unfold Hid; rw [hkk]; exact cells_u8 _
  have KB : Hid (∀ (j : Nat) v, kk[j]? = some v → bc[j]? = some v) := by
    unfold Hid
    intro j v hv
    rw [hkk, hk1, List.map_take, List.getElem?_take] at hv
    rw [hbc]
    split at hv
    · exact hv
    · cases hv
  have CN1 := Lib.hid (fun W => noughts_any n W (by omega))
  have CN2 := Lib.hid (fun W => noughts_any n' W (by omega))
  have CE1 := Lib.hid (fun W => eight_any n W (by omega))
  have CE2 := Lib.hid (fun W => eight_any n' W (by omega))
  obtain ⟨r1, hr1⟩ : ∃ l, l = List.replicate (Ae.gap n) (0 : UInt8) := ⟨_, rfl⟩
  obtain ⟨r2, hr2⟩ : ∃ l, l = List.replicate (Ae.gap n') (0 : UInt8) := ⟨_, rfl⟩
  obtain ⟨e1, he1⟩ : ∃ l, l = Pol.bytesN 8 (n : Int) := ⟨_, rfl⟩
  obtain ⟨e2, he2⟩ : ∃ l, l = Pol.bytesN 8 (n' : Int) := ⟨_, rfl⟩
  have HTX : Hid ([ad, r1, cc, r2, e1, e2].flatten = tx) := by unfold Hid; rw [hr1, hr2, he1, he2, htx, ← text_parts, hra.len, hrc.len]
  have htl : tx.length ≤ 900000 := by rw [htx]; have := Ae.text_length ad cc; rw [hra.len, hrc.len] at this; omega
  have htp : 0 < tx.length := by rw [← HTX.out, he2]; simp only [List.flatten_cons, List.length_append, Pol.bytesN_length, List.flatten_nil]; omega
  have CC := Lib.hid (fun (W : World) (AX : Option Addr) (cx : Nat) (h : RdP W AX 6 [ad, r1, cc, r2, e1, e2]) => concat_any (c := cx) h (by omega) (by rw [HTX.out]; exact htp) (by rw [HTX.out]; exact htl))
  rw [HTX.out] at CC
  rw [← hr1] at CN1
  rw [← hr2] at CN2
  rw [← he1] at CE1
  rw [← he2] at CE2
  have HRA := Lib.hid hra
  have HRC := Lib.hid hrc
  clear hkc hnc hbk hbc hra hrc hk hn hT hTL hMT hkk hk1 htx htl htp hr1 hr2 he1 he2 HTX
  go_enter Tryd.func41, Tryd.ntmps41
  go_upto_region 1 with (fail)
  obtain ⟨w0, hw0⟩ : ∃ w0, w0 = ((w.alloc (Obj.cells kc.toArray 33)).alloc (Obj.cells nc.toArray 58)).alloc (Obj.cells (List.replicate 16 (.int .u8 0)).toArray 82) := ⟨_, rfl⟩
  have B0 : Hid (Blk w0 w.heap.size 33 kc) := by unfold Hid; rw [hw0]; exact ((Blk.new w _ _).alloc _).alloc _
  have B1 : Hid (Blk w0 (w.heap.size + 1) 58 nc) := by unfold Hid; rw [hw0]; exact (Blk.at_new _ _ _ _ _ rfl (by simp)).alloc _
  obtain ⟨gz, hgz⟩ : ∃ g, g = w.heap.size + 1 + 1 := ⟨_, rfl⟩
  have BZ : Hid (Blk w0 gz 82 (List.replicate 16 (.int .u8 0))) := by unfold Hid; rw [hw0, hgz]; exact Blk.at_new _ _ _ _ _ rfl (by simp)
  have W0 : Hid (Below w.heap.size w w0) := by unfold Hid; rw [hw0]; exact (((Below.refl _ _).alloc (Nat.le_refl _) _).alloc (by simp) _).alloc (by simp <;> omega) _
  have hgw : w.heap.size ≤ gz := by omega
  change Code.wp _ _ _ _ (((w.alloc (Obj.cells kc.toArray 33)).alloc (Obj.cells nc.toArray 58)).alloc (Obj.cells (List.replicate 16 (.int .u8 0)).toArray 82))
  rw [← hw0, ← hgz]
  clear hw0 hgz
  go_wp2_with (first
    | ((with_reducible refine load_law rfl 33 (.tmp 4) rfl w.heap.size 0 rfl kc _ Tryd.underlying33 rfl IK.out B0.out.cells ?_))
    | ((with_reducible refine load_law rfl 58 (.tmp 5) rfl (w.heap.size + 1) 0 rfl nc _ Tryd.underlying58 rfl IN.out B1.out.cells ?_)))
  refine (CB.out w0).mono ?_
  rintro e w1 ⟨rfl, hX⟩
  have W1 := Lib.hid (W0.out.trans (hX.mono W0.out.size))
  have BZ1 := Lib.hid (BZ.out.below hX BZ.out.lt)
  clear hX B0 B1 W0 CB IK IN BZ
  go_upto_region 2 with (first
    | ((with_reducible refine storeGen_law rfl 101 (.tmp 9) (.tmp 13) rfl w1.heap.size rfl bc rfl 101 (List.replicate 64 (.int .u8 0)) IB.out LBC.out OBC.out w1.heap.size w1 ?_ ?_ (Nat.le_refl _) ?_)
       · exact Blk.at_new _ _ 101 _ _ (by rfl) rfl
       · exact (Below.refl _ _).alloc (Nat.le_refl _) _
       intro w2 B2 X2))
  have W2 := Lib.hid (W1.out.trans (X2.out.mono W1.out.size))
  have BZ2 := Lib.hid (BZ1.out.below X2.out BZ1.out.lt)
  obtain ⟨gb, hgb⟩ : ∃ g, g = w1.heap.size := ⟨_, rfl⟩
  rw [← hgb] at B2
  rw [← hgb]
  clear X2 hgb W1 BZ1
  have hsl := fun W => sliceAt_all 101 64 Tryd.underlying101 gb 0 W
  have hCK : Hid (∀ (j : Nat) v, kk[j]? = some v → w2.cell? ⟨gb, 0 + j, none⟩ = some v) := fun j v hv => B2.out.cells j v (KB.out j v hv)
  have hap : ∀ W, (Instr.arrayAt 33 (.slice (some ⟨gb, 0, none⟩) 64 64)).run Tryd.prog W = .ok (.pointer (some ⟨gb, 0, none⟩)) W := fun W => by simp [Instr.arrayAt, run_underlying Tryd.underlying33]
  go_upto_region 3 with (first
    | ((with_reducible refine load_law rfl 33 (.tmp 15) rfl gb 0 rfl kk _ Tryd.underlying33 rfl I1.out hCK.out ?_))
    | ((with_reducible refine storeGen_law rfl 33 (.tmp 10) (.tmp 16) rfl w2.heap.size rfl kk rfl 33 (List.replicate 32 (.int .u8 0)) I1.out L1.out O1.out w2.heap.size w2 ?_ ?_ (Nat.le_refl _) ?_)
       · exact Blk.at_new _ _ 33 _ _ (by rfl) rfl
       · exact (Below.refl _ _).alloc (Nat.le_refl _) _
       intro w3 B3 X3))
  have W3 := Lib.hid (W2.out.trans (X3.out.mono W2.out.size))
  have BZ3 := Lib.hid (BZ2.out.below X3.out BZ2.out.lt)
  obtain ⟨g1, hg1⟩ : ∃ g, g = w2.heap.size := ⟨_, rfl⟩
  rw [← hg1] at B3
  rw [← hg1]
  clear X3 hg1 W2 BZ2 B2 hCK hap hsl
  refine wp_region_any (by kernel_rfl) ?_
  change wpAny _ _ _ _ _ _ _ (World.drew _)
  have D3 : Hid (Blk w3.drew g1 33 kk) := B3.out.drew
  have DZ : Hid (Blk w3.drew gz 82 (List.replicate 16 (.int .u8 0))) := BZ3.out.drew
  have DW : Hid (Below w.heap.size w w3.drew) := W3.out.drew
  clear B3 BZ3 W3
  generalize w3.drew = w5 at *
  refine wpAny_take (i := 1) (oi := ?oit0) (v := .slice A n c) ?hit0 (by kernel_rfl) (by kernel_rfl) (by kernel_rfl) ?hQt0 ?hyt0 ?restt0
  case hit0 => simp only [List.getElem?_toArray, List.getElem?_cons_succ, List.getElem?_cons_zero]; rfl
  case hQt0 => exact fun _ _ _ h => h
  case hyt0 => exact Or.inl ⟨by rfl, by intro w; go_simp⟩
  try simp only [Act.put, List.setIfInBounds_toArray, List.set_cons_zero, List.set_cons_succ]
  refine wpAny_take (i := 2) (oi := ?oit1) (v := .slice A n c) ?hit1 (by kernel_rfl) (by kernel_rfl) (by kernel_rfl) ?hQt1 ?hyt1 ?restt1
  case hit1 => simp only [List.getElem?_toArray, List.getElem?_cons_succ, List.getElem?_cons_zero]; rfl
  case hQt1 => exact fun _ _ _ h => h
  case hyt1 => exact Or.inl ⟨by rfl, by intro w; go_simp⟩
  try simp only [Act.put, List.setIfInBounds_toArray, List.set_cons_zero, List.set_cons_succ]
  refine wpAny_take (i := 3) (oi := ?oit2) (v := .int .i64 (n : Int)) ?hit2 (by kernel_rfl) (by kernel_rfl) (by kernel_rfl) ?hQt2 ?hyt2 ?restt2
  case hit2 => simp only [List.getElem?_toArray, List.getElem?_cons_succ, List.getElem?_cons_zero]; rfl
  case hQt2 => exact fun _ _ _ h => h
  case hyt2 => exact Or.inl ⟨by rfl, by intro w; go_simp⟩
  try simp only [Act.put, List.setIfInBounds_toArray, List.set_cons_zero, List.set_cons_succ]
  refine wpAny_take (i := 5) (oi := ?oit3) (v := .slice A' n' c') ?hit3 (by kernel_rfl) (by kernel_rfl) (by kernel_rfl) ?hQt3 ?hyt3 ?restt3
  case hit3 => simp only [List.getElem?_toArray, List.getElem?_cons_succ, List.getElem?_cons_zero]; rfl
  case hQt3 => exact fun _ _ _ h => h
  case hyt3 => exact Or.inl ⟨by rfl, by intro w; go_simp⟩
  try simp only [Act.put, List.setIfInBounds_toArray, List.set_cons_zero, List.set_cons_succ]
  refine wpAny_take (i := 6) (oi := ?oit4) (v := .slice A' n' c') ?hit4 (by kernel_rfl) (by kernel_rfl) (by kernel_rfl) ?hQt4 ?hyt4 ?restt4
  case hit4 => simp only [List.getElem?_toArray, List.getElem?_cons_succ, List.getElem?_cons_zero]; rfl
  case hQt4 => exact fun _ _ _ h => h
  case hyt4 => exact Or.inl ⟨by rfl, by intro w; go_simp⟩
  try simp only [Act.put, List.setIfInBounds_toArray, List.set_cons_zero, List.set_cons_succ]
  refine wpAny_take (i := 7) (oi := ?oit5) (v := .int .i64 (n' : Int)) ?hit5 (by kernel_rfl) (by kernel_rfl) (by kernel_rfl) ?hQt5 ?hyt5 ?restt5
  case hit5 => simp only [List.getElem?_toArray, List.getElem?_cons_succ, List.getElem?_cons_zero]; rfl
  case hQt5 => exact fun _ _ _ h => h
  case hyt5 => exact Or.inl ⟨by rfl, by intro w; go_simp⟩
  try simp only [Act.put, List.setIfInBounds_toArray, List.set_cons_zero, List.set_cons_succ]
  refine wpAny_take (i := 9) (oi := ?oit6) (v := .slice A n c) ?hit6 (by kernel_rfl) (by kernel_rfl) (by kernel_rfl) ?hQt6 ?hyt6 ?restt6
  case hit6 => simp only [List.getElem?_toArray, List.getElem?_cons_succ, List.getElem?_cons_zero]; rfl
  case hQt6 => exact fun _ _ _ h => h
  case hyt6 => exact Or.inl ⟨by rfl, by intro w; go_simp⟩
  try simp only [Act.put, List.setIfInBounds_toArray, List.set_cons_zero, List.set_cons_succ]
  refine wpAny_take (i := 10) (oi := ?oit7) (v := .int .i64 (n : Int)) ?hit7 (by kernel_rfl) (by kernel_rfl) (by kernel_rfl) ?hQt7 ?hyt7 ?restt7
  case hit7 => simp only [List.getElem?_toArray, List.getElem?_cons_succ, List.getElem?_cons_zero]; rfl
  case hQt7 => exact fun _ _ _ h => h
  case hyt7 => exact Or.inl ⟨by rfl, by intro w; go_simp⟩
  try simp only [Act.put, List.setIfInBounds_toArray, List.set_cons_zero, List.set_cons_succ]
  refine wpAny_take (i := 12) (oi := ?oit8) (v := .slice A' n' c') ?hit8 (by kernel_rfl) (by kernel_rfl) (by kernel_rfl) ?hQt8 ?hyt8 ?restt8
  case hit8 => simp only [List.getElem?_toArray, List.getElem?_cons_succ, List.getElem?_cons_zero]; rfl
  case hQt8 => exact fun _ _ _ h => h
  case hyt8 => exact Or.inl ⟨by rfl, by intro w; go_simp⟩
  try simp only [Act.put, List.setIfInBounds_toArray, List.set_cons_zero, List.set_cons_succ]
  refine wpAny_take (i := 13) (oi := ?oit9) (v := .int .i64 (n' : Int)) ?hit9 (by kernel_rfl) (by kernel_rfl) (by kernel_rfl) ?hQt9 ?hyt9 ?restt9
  case hit9 => simp only [List.getElem?_toArray, List.getElem?_cons_succ, List.getElem?_cons_zero]; rfl
  case hQt9 => exact fun _ _ _ h => h
  case hyt9 => exact Or.inl ⟨by rfl, by intro w; go_simp⟩
  try simp only [Act.put, List.setIfInBounds_toArray, List.set_cons_zero, List.set_cons_succ]
  refine phase (fun i => if i = 8 then [4] else if i = 11 then [8] else if i = 14 then [11] else if i = 15 then [4, 8, 11, 14] else if i = 16 then [15] else if i = 17 then [0, 16] else []) (fun d a w' => ∃ x17 x21 x25 x28 x31 x32 x33 x34 : Value, a = { tmps := #[.agg kc.toArray, .agg nc.toArray, .slice A n c, .slice A' n' c', .pointer (some ⟨w.heap.size, 0, none⟩), .pointer (some ⟨w.heap.size + 1, 0, none⟩), undef, undef, .pointer (some ⟨gz, 0, none⟩), .pointer (some ⟨gb, 0, none⟩), .pointer (some ⟨g1, 0, none⟩), .agg kc.toArray, .agg nc.toArray, .agg bc.toArray, .slice (some ⟨gb, 0, none⟩) 64 64, .pointer (some ⟨gb, 0, none⟩), .agg kk.toArray, x17, .slice A n c, .slice A n c, .int .i64 (n : Int), x21, .slice A' n' c', .slice A' n' c', .int .i64 (n' : Int), x25, .slice A n c, .int .i64 (n : Int), x28, .slice A' n' c', .int .i64 (n' : Int), x31, x32, x33, x34], defers := [] } ∧ Hid (TagI w5 kk T ad r1 cc r2 e1 e2 tx d w' x17 x21 x25 x28 x31 x32 x33 x34)) [0, 4, 8, 11, 14, 15, 16, 17] ?step 1 8 [0, 4, 8, 11, 14, 15, 16, 17] _ _ _ rfl (by decide) (fun _ h => h) (by kernel_rfl) ?init ?fin
  case init =>
    refine ⟨_, _, _, _, _, _, _, _, rfl, Below.refl _ _, ?_, ?_, ?_, ?_, ?_, ?_, ?_, ?_⟩ <;> (intro h; exact absurd h (by decide))
  case step =>
    intro i hi d a w6 hI hdi hdeps
    obtain ⟨x17, x21, x25, x28, x31, x32, x33, x34, rfl, HI⟩ := hI
    simp only [List.mem_cons, List.not_mem_nil, or_false] at hi
    rcases hi with rfl | rfl | rfl | rfl | rfl | rfl | rfl | rfl
    · refine wpOp_step (o := ?osa0) ?hosa0 (fun K hK => ?_)
      case hosa0 => simp only [List.getElem?_toArray, List.getElem?_cons_succ, List.getElem?_cons_zero]; rfl
      refine step_loadL rfl 33 (.tmp 10) rfl g1 0 rfl kk _ Tryd.underlying33 rfl I1.out (D3.out.below HI.out.bel D3.out.lt).cells (hK _ _ ?_)
      clear hK K
      try simp only [Act.put, List.setIfInBounds_toArray, List.set_cons_zero, List.set_cons_succ]
      have hJ := HI.out
      exact ⟨_, _, _, _, _, _, _, _, rfl, hJ.bel, fun _ => rfl, fun a => hJ.i4 (by simpa using a), fun a => hJ.i8 (by simpa using a), fun a => hJ.i11 (by simpa using a), fun a => hJ.i14 (by simpa using a), fun a => hJ.i15 (by simpa using a), fun a => hJ.i16 (by simpa using a), fun a => hJ.i17 (by simpa using a)⟩
    · refine wpOp_step (o := ?osa4) ?hosa4 (fun K hK => ?_)
      case hosa4 => simp only [List.getElem?_toArray, List.getElem?_cons_succ, List.getElem?_cons_zero]; rfl
      go_simp
      refine (CN1.out w6).mono ?_
      rintro e w7 ⟨g, rfl, hR, hX⟩
      have hJ := HI.out.below hX
      refine hK _ _ ?_
      clear hK K
      try simp only [Act.put, List.setIfInBounds_toArray, List.set_cons_zero, List.set_cons_succ]
      exact ⟨_, _, _, _, _, _, _, _, rfl, hJ.bel, fun a => hJ.i0 (by simpa using a), fun _ => ⟨_, _, _, rfl, hR⟩, fun a => hJ.i8 (by simpa using a), fun a => hJ.i11 (by simpa using a), fun a => hJ.i14 (by simpa using a), fun a => hJ.i15 (by simpa using a), fun a => hJ.i16 (by simpa using a), fun a => hJ.i17 (by simpa using a)⟩
    · refine wpOp_step (o := ?osa8) ?hosa8 (fun K hK => ?_)
      case hosa8 => simp only [List.getElem?_toArray, List.getElem?_cons_succ, List.getElem?_cons_zero]; rfl
      go_simp
      refine (CN2.out w6).mono ?_
      rintro e w7 ⟨g, rfl, hR, hX⟩
      have hJ := HI.out.below hX
      refine hK _ _ ?_
      clear hK K
      try simp only [Act.put, List.setIfInBounds_toArray, List.set_cons_zero, List.set_cons_succ]
      exact ⟨_, _, _, _, _, _, _, _, rfl, hJ.bel, fun a => hJ.i0 (by simpa using a), fun a => hJ.i4 (by simpa using a), fun _ => ⟨_, _, _, rfl, hR⟩, fun a => hJ.i11 (by simpa using a), fun a => hJ.i14 (by simpa using a), fun a => hJ.i15 (by simpa using a), fun a => hJ.i16 (by simpa using a), fun a => hJ.i17 (by simpa using a)⟩
    · refine wpOp_step (o := ?osa11) ?hosa11 (fun K hK => ?_)
      case hosa11 => simp only [List.getElem?_toArray, List.getElem?_cons_succ, List.getElem?_cons_zero]; rfl
      go_simp
      refine (CE1.out w6).mono ?_
      rintro e w7 ⟨g, rfl, hR, hX⟩
      have hJ := HI.out.below hX
      refine hK _ _ ?_
      clear hK K
      try simp only [Act.put, List.setIfInBounds_toArray, List.set_cons_zero, List.set_cons_succ]
      exact ⟨_, _, _, _, _, _, _, _, rfl, hJ.bel, fun a => hJ.i0 (by simpa using a), fun a => hJ.i4 (by simpa using a), fun a => hJ.i8 (by simpa using a), fun _ => ⟨_, _, _, rfl, hR⟩, fun a => hJ.i14 (by simpa using a), fun a => hJ.i15 (by simpa using a), fun a => hJ.i16 (by simpa using a), fun a => hJ.i17 (by simpa using a)⟩
    · refine wpOp_step (o := ?osa14) ?hosa14 (fun K hK => ?_)
      case hosa14 => simp only [List.getElem?_toArray, List.getElem?_cons_succ, List.getElem?_cons_zero]; rfl
      go_simp
      refine (CE2.out w6).mono ?_
      rintro e w7 ⟨g, rfl, hR, hX⟩
      have hJ := HI.out.below hX
      refine hK _ _ ?_
      clear hK K
      try simp only [Act.put, List.setIfInBounds_toArray, List.set_cons_zero, List.set_cons_succ]
      exact ⟨_, _, _, _, _, _, _, _, rfl, hJ.bel, fun a => hJ.i0 (by simpa using a), fun a => hJ.i4 (by simpa using a), fun a => hJ.i8 (by simpa using a), fun a => hJ.i11 (by simpa using a), fun _ => ⟨_, _, _, rfl, hR⟩, fun a => hJ.i15 (by simpa using a), fun a => hJ.i16 (by simpa using a), fun a => hJ.i17 (by simpa using a)⟩
    · obtain ⟨q1, m1, d1, rfl, hR1⟩ := HI.out.i4 (hdeps 4 (by simp))
      obtain ⟨q2, m2, d2, rfl, hR2⟩ := HI.out.i8 (hdeps 8 (by simp))
      obtain ⟨q3, m3, d3, rfl, hR3⟩ := HI.out.i11 (hdeps 11 (by simp))
      obtain ⟨q4, m4, d4, rfl, hR4⟩ := HI.out.i14 (hdeps 14 (by simp))
      have RA6 := (HRA.out.below DW.out).below HI.out.bel
      have RC6 := (HRC.out.below DW.out).below HI.out.bel
      have HP := Lib.hid (lit_parts6 w6 RA6 hR1 RC6 hR2 hR3 hR4)
      have hX := (Below.refl w6.heap.size w6).alloc (Nat.le_refl _) (.cells #[.slice A n c, .slice q1 m1 d1, .slice A' n' c', .slice q2 m2 d2, .slice q3 m3 d3, .slice q4 m4 d4] 28)
      have HJ := Lib.hid (HI.out.below hX)
      clear hR1 hR2 hR3 hR4 RA6 RC6 hX
      refine wpOp_step (o := ?osa15) ?hosa15 (fun K hK => ?_)
      case hosa15 => simp only [List.getElem?_toArray, List.getElem?_cons_succ, List.getElem?_cons_zero]; rfl
      go_simp
      have hJ := HJ.out
      refine hK _ _ ?_
      clear hK K
      try simp only [Act.put, List.setIfInBounds_toArray, List.set_cons_zero, List.set_cons_succ]
      exact ⟨_, _, _, _, _, _, _, _, rfl, hJ.bel, fun a => hJ.i0 (by simpa using a), fun a => hJ.i4 (by simpa using a), fun a => hJ.i8 (by simpa using a), fun a => hJ.i11 (by simpa using a), fun a => hJ.i14 (by simpa using a), fun _ => ⟨_, rfl, HP.out⟩, fun a => hJ.i16 (by simpa using a), fun a => hJ.i17 (by simpa using a)⟩
    · obtain ⟨g, rfl, hR⟩ := HI.out.i15 (hdeps 15 (by simp))
      have HP := Lib.hid hR
      clear hR
      refine wpOp_step (o := ?osa16) ?hosa16 (fun K hK => ?_)
      case hosa16 => simp only [List.getElem?_toArray, List.getElem?_cons_succ, List.getElem?_cons_zero]; rfl
      go_simp
      refine (CC.out w6 _ _ HP.out).mono ?_
      rintro e w7 ⟨v, rfl, hO, hX⟩
      obtain ⟨A3, c3, rfl, hR3, _⟩ := hO.value
      have hJ := HI.out.below hX
      refine hK _ _ ?_
      clear hK K
      try simp only [Act.put, List.setIfInBounds_toArray, List.set_cons_zero, List.set_cons_succ]
      exact ⟨_, _, _, _, _, _, _, _, rfl, hJ.bel, fun a => hJ.i0 (by simpa using a), fun a => hJ.i4 (by simpa using a), fun a => hJ.i8 (by simpa using a), fun a => hJ.i11 (by simpa using a), fun a => hJ.i14 (by simpa using a), fun a => hJ.i15 (by simpa using a), fun _ => ⟨_, _, _, rfl, hR3⟩, fun a => hJ.i17 (by simpa using a)⟩
    · obtain rfl := HI.out.i0 (hdeps 0 (by simp))
      obtain ⟨q1, m1, d1, rfl, hR1⟩ := HI.out.i16 (hdeps 16 (by simp))
      have HR1 := Lib.hid hR1
      clear hR1
      refine wpOp_step (o := ?osa17) ?hosa17 (fun K hK => ?_)
      case hosa17 => simp only [List.getElem?_toArray, List.getElem?_cons_succ, List.getElem?_cons_zero]; rfl
      go_simp
      refine (CT.out w6 _ _ _ HR1.out).mono ?_
      rintro e w7 ⟨rfl, hX⟩
      have hJ := HI.out.below hX
      refine hK _ _ ?_
      clear hK K
      try simp only [Act.put, List.setIfInBounds_toArray, List.set_cons_zero, List.set_cons_succ]
      exact ⟨_, _, _, _, _, _, _, _, rfl, hJ.bel, fun a => hJ.i0 (by simpa using a), fun a => hJ.i4 (by simpa using a), fun a => hJ.i8 (by simpa using a), fun a => hJ.i11 (by simpa using a), fun a => hJ.i14 (by simpa using a), fun a => hJ.i15 (by simpa using a), fun a => hJ.i16 (by simpa using a), fun _ => rfl⟩
  case fin =>
    intro a w6 hI
    obtain ⟨x17, x21, x25, x28, x31, x32, x33, x34, rfl, HI⟩ := hI
    obtain rfl := HI.out.i17 (by decide)
    have FZ := DZ.out.below HI.out.bel DZ.out.lt
    have FW := DW.out.trans (HI.out.bel.mono DW.out.size)
    clear HI
    dsimp only
    refine wpAny_ready (rs := [18]) (by kernel_rfl) (by simp) ?_
    refine AllReady.cons (o := ?pz) ?qz (fun K hK => ?_) AllReady.nil
    case qz => simp only [List.getElem?_toArray, List.getElem?_cons_succ, List.getElem?_cons_zero]; rfl
    refine step_storeAll rfl 82 (.tmp 8) (.tmp 34) rfl gz rfl T rfl 82 (List.replicate 16 (Value.int .u8 0)) FZ IT.out LT.out OT.out (hK _ _ ?_)
    clear hK K
    try simp only [Act.put, List.setIfInBounds_toArray, List.set_cons_zero, List.set_cons_succ]
    refine wpAny_done (by kernel_rfl) ?_ _
    have GZ : Hid (Blk (w6.setRow gz T.toArray) gz 82 T) := Blk.row FZ
    have GW := Lib.hid (below_setRow FW (g := gz) hgw T.toArray)
    clear FZ FW
    generalize w6.setRow gz T.toArray = w7 at *
    go_wp2_with fail
    exact bodyPost_ret (results_cell_row rfl _ _ gz 82 T.toArray (0, 0) _ rfl GZ.out Tryd.underlying82 rfl (by rw [IT.out]; simp)) rfl ⟨rfl, GW.out⟩
end Go.Proofs.YtpbfeobifpmjbaaDoor
