import Derived.Test.YtmidbpjdpakkoaaDoorSTbg
namespace Go.Proofs.YtmidbpjdpakkoaaDoor.proofAll
set_option linter.unusedVariables false
set_option linter.unusedSimpArgs false
set_option maxRecDepth 100000
open Go.RowKit
set_option maxRecDepth 100000 in
set_option maxHeartbeats 4000000 in
theorem walk (hB : BegunOk) {A A' : Option Addr} {n c n' c' : Nat} {ks vs : List Int} (k v : Int) (w : World) (hg : Gl w) (ha : RdZ w A n c ks) (hb : RdZ w A' n' c' vs) (hk1 : -9223372036854775808 ≤ k) (hk2 : k ≤ 9223372036854775807) :
    Calls Tryd.prog 6 #[.slice A n c, .slice A' n' c', .int .i64 k, .int .i64 v] w fun e w' => e = .returned (.bool true) ∧ Below w.heap.size w w' := by
  have HG := Lib.hid hg
  have hsz := hg.size
  have CG : Hid (∀ W, Below w.heap.size w W → Calls Tryd.prog 14 #[] W fun e w' => e = .returned (.bool true) ∧ Below W.heap.size W w') := fun W hW => hB (hg.below hW hsz)
  have CGR : Hid (∀ W, Below w.heap.size w W → Calls Tryd.prog 15 #[.slice A n c, .slice A' n' c', .int .i64 9] W fun e w' => ∃ g v l, e = .returned (.tuple #[.pointer (some ⟨g, 0, none⟩), v, .bool true]) ∧ W.heap.size ≤ g ∧ TreeAt w' g l ∧ Ow2 w' W.heap.size 47 64 v (pairs l) ∧ l.length ≤ 9 ∧ Below W.heap.size W w') := fun W hW => grown_any (hg.below hW hsz) (ha.below hW) (hb.below hW) (most := 9) (by omega)
  have BZ0 := Lib.hid zero_built
  have IZ := Lib.hid zero_info
  have OZ := Lib.hid zero_one
  have HZL : Hid ((List.replicate 32 (Value.int .u8 0)).length = 32) := rfl
  have HZN : Hid (Tm.none32.map cellOf = (List.replicate 32 (Value.int .u8 0))) := rfl
  have ZB0 : Hid (∀ W : World, Blk (W.alloc (.cells (List.replicate 32 (Value.int .u8 0)).toArray 30)) W.heap.size 30 (List.replicate 32 (Value.int .u8 0))) := fun W => Blk.new W 30 _
  have ZPB : Hid (∀ W : World, Blk (W.alloc (.cells (proofL (.slice none 0 0) false (List.replicate 32 (Value.int .u8 0)) (List.replicate 32 (Value.int .u8 0))).toArray 38)) W.heap.size 38 (proofL (.slice none 0 0) false (List.replicate 32 (Value.int .u8 0)) (List.replicate 32 (Value.int .u8 0)))) := fun W => Blk.new W 38 _
  have HZP : Hid ((proofL (.slice none 0 0) false (List.replicate 32 (Value.int .u8 0)) (List.replicate 32 (Value.int .u8 0))).length = 66) := rfl
  obtain ⟨Z, hZ⟩ : ∃ Z, Z = List.replicate 32 (Value.int .u8 0) := ⟨_, rfl⟩
  rw [← hZ] at BZ0 IZ OZ HZL HZN
  have ZB : Hid (∀ W : World, Blk (W.alloc (.cells (List.replicate 32 (Value.int .u8 0)).toArray 30)) W.heap.size 30 Z) := fun W => by rw [hZ]; exact ZB0.out W
  have HZE : Hid ((List.replicate 32 (Value.int .u8 0)) = Z) := hZ.symm
  obtain ⟨ZP, hZP⟩ : ∃ Z, Z = (proofL (.slice none 0 0) false (List.replicate 32 (Value.int .u8 0)) (List.replicate 32 (Value.int .u8 0))) := ⟨_, rfl⟩
  have ZPB' : Hid (∀ W : World, Blk (W.alloc (.cells (proofL (.slice none 0 0) false (List.replicate 32 (Value.int .u8 0)) (List.replicate 32 (Value.int .u8 0))).toArray 38)) W.heap.size 38 ZP) := fun W => by rw [hZP]; exact ZPB.out W
  have HZPE : Hid ((proofL (.slice none 0 0) false (List.replicate 32 (Value.int .u8 0)) (List.replicate 32 (Value.int .u8 0))) = ZP) := hZP.symm
  rw [← hZP] at HZP
  have W := Lib.hid (Below.refl w.heap.size w)
  clear hg ha hb hZ hZP ZB0 ZPB
  go_enter Tryd.func6, Tryd.ntmps6
  go_upto_region 4 with (first
    | (go_at_call 14; refine (CG.out w W.out).mono ?_; rintro e w2 ⟨rfl, hX⟩; replace W := Lib.hid (W.out.trans (hX.mono W.out.size)); clear hX))
  go_upto_region 7 with (first
    | (go_at_call 15; refine (CGR.out w2 W.out).mono ?_; rintro e w3 ⟨g, vl, l, rfl, hgw0, hT, hO, hlen, hX⟩; obtain ⟨AL, cl, hvl0, hRL, _⟩ := hO.rd; obtain rfl := hvl0; have T := Lib.hid hT; have RL := Lib.hid hRL; have HLN := Lib.hid hlen; have hgw := Nat.le_trans W.out.size hgw0; have W2S := W.out.size; replace W := Lib.hid (W.out.trans (hX.mono W.out.size)); have OL := Lib.hid (hO.base W2S); clear hT hO hX hRL hgw0 hlen W2S CGR CG))
  obtain ⟨nl, hnl⟩ : ∃ z, z = (pairs l).length := ⟨_, rfl⟩
  have HNL : Hid (nl = l.length) := by unfold Hid; rw [hnl]; simp [pairs]
  rw [← hnl] at RL ⊢
  have OL' : Hid (Ow2 w3 w.heap.size 47 64 (.slice AL nl cl) (pairs l)) := by rw [hnl]; exact OL.out
  clear hnl OL
  have hfit := T.out.fit
  have hkl := nm_length k
  have hvl := sm_length v
  have hrl := Tm.root_length 0 l
  obtain ⟨l', hl'⟩ : ∃ l', l' = Tm.put (nm k, sm v) l := ⟨_, rfl⟩
  have hrl' := Tm.root_length 0 l'
  obtain ⟨P, hP⟩ : ∃ P, P = Tm.prove l (nm k) := ⟨_, rfl⟩
  have hlen' : l'.length ≤ 10 := by have := (Tm.put_le (nm k, sm v) l).2.2; have := HLN.out; rw [hl']; omega
  have hfit' : Tm.Fit 0 l' := by rw [hl']; exact hfit.more0 hkl hvl
  have hgl := get_length (k := nm k) hfit.len
  have CN : Hid (∀ W, Calls Tryd.prog 20 #[.int .i64 k] W fun e w' => e = .returned (hv (nm k)) ∧ Below W.heap.size W w') := fun W => nm_any k hk1 hk2 W
  have CS : Hid (∀ W, Calls Tryd.prog 27 #[.int .i64 v] W fun e w' => e = .returned (hv (sm v)) ∧ Below W.heap.size W w') := fun W => sm_any v W
  have CV : Hid (∀ W, TreeAt W g l → Calls Tryd.prog 21 #[.pointer (some ⟨g, 0, none⟩), hv (nm k)] W fun e w' => ∃ PP : List Value, e = .returned (.agg PP.toArray) ∧ PrfAt w' W.heap.size (.agg PP.toArray) P ∧ (Tryd.prog.info? 38).map (·.size) = some PP.length ∧ (∀ v ∈ PP, v.oneCell' = true) ∧ PP.length = 66 ∧ Below W.heap.size W w') := fun W hT => by rw [hP]; exact prove_row hT hkl
  have CR : Hid (∀ W, TreeAt W g l → Calls Tryd.prog 17 #[.pointer (some ⟨g, 0, none⟩)] W fun e w' => e = .returned (hv (Tm.root 0 l)) ∧ Below W.heap.size W w') := fun W hT => troot_any hT
  have CR' : Hid (∀ W, TreeAt W g l' → Calls Tryd.prog 17 #[.pointer (some ⟨g, 0, none⟩)] W fun e w' => e = .returned (hv (Tm.root 0 l')) ∧ Below W.heap.size W w') := fun W hT => troot_any hT
  have CP : Hid (∀ W, Below w.heap.size w W → TreeAt W g l → Calls Tryd.prog 26 #[.pointer (some ⟨g, 0, none⟩), hv (nm k), hv (sm v)] W fun e w' => (∃ b, e = .returned (.bool b)) ∧ TreeAt w' g l' ∧ W.grownBy w' (some g)) := fun W h hT => (tput_any (HG.out.below h hsz) hT (Nat.le_trans hsz hgw) (by have := HLN.out; omega) hkl hvl).mono fun e w' ⟨h1, h2⟩ => ⟨⟨_, h1⟩, by rw [hl']; exact h2⟩
  have hPI : ∀ W B x, PrfAt W B x P → PrfIn W x P := fun W B x h => by rw [hP] at h ⊢; exact prove_in hfit h
  have CK : Hid (∀ W B x, Below w.heap.size w W → PrfAt W B x P → Calls Tryd.prog 29 #[hv (Tm.root 0 l), hv (nm k), x] W fun e w' => e = .returned (.tuple #[hv ((Tm.get (nm k) l).getD Tm.none32), .bool (Tm.get (nm k) l).isSome, .bool true]) ∧ Below W.heap.size W w') := fun W B x h hQ => by
    have := pcheck_any (HG.out.below h hsz) (hPI W B x hQ) hrl hkl
    rw [hP, Tm.prove_told hfit, Tm.prove_holds hfit, Tm.prove_there hfit] at this
    exact this
  have CA : Hid (∀ W B x, Below w.heap.size w W → PrfAt W B x P → Calls Tryd.prog 30 #[hv (Tm.root 0 l), hv (nm k), hv (sm v), x] W fun e w' => e = .returned (.tuple #[hv (Tm.root 0 l'), .bool true]) ∧ Below W.heap.size W w') := fun W B x h hQ => by
    have := pafter_any (HG.out.below h hsz) (hPI W B x hQ) hrl hkl hvl
    rw [hP, Tm.prove_after hfit, Tm.prove_holds hfit] at this
    rw [hl']
    exact this
  have CGT : Hid (∀ W, TreeAt W g l → Calls Tryd.prog 19 #[.pointer (some ⟨g, 0, none⟩), hv (nm k)] W fun e w' => e = .returned (.tuple #[hv ((Tm.get (nm k) l).getD Tm.none32), .bool (Tm.get (nm k) l).isSome]) ∧ Below W.heap.size W w') := fun W hT => tget_any hT hkl
  have DW : Hid (∀ W, Rd2 W 64 AL nl cl (pairs l) → Calls Tryd.prog 31 #[.slice AL nl cl, .agg (leafL (nm k, sm v)).toArray] W fun e w' => ∃ x, e = .returned x ∧ PairsAt w' x l' ∧ Below W.heap.size W w') := fun W hR => (rwith_any hR hfit.len (by have := HLN.out; have := HNL.out; omega) (p := (nm k, sm v)) hkl hvl).mono fun e w' ⟨x, h1, h2, h3⟩ => ⟨x, h1, by rw [hl']; exact .of h2, h3⟩
  have DR : Hid (∀ W A c, Rd2 W 64 A l'.length c (pairs l') → Calls Tryd.prog 18 #[.slice A l'.length c, .int .i64 0] W fun e w' => e = .returned (hv (Tm.root 0 l')) ∧ Below W.heap.size W w') := fun W A c hR => rroot_any 257 l' 0 rfl hR hfit' (by omega)
  have E0 := Lib.hid (hash_eq _ _ hgl hgl)
  have E1 := Lib.hid (hash_eq (Tm.root 0 l') (Tm.root 0 l') hrl' hrl')
  rw [decide_eq_true rfl] at E0 E1
  have HBP : Hid (Tryd.prog.built 47 [(0, .agg ((nm k).map cellOf).toArray), (1, .agg ((sm v).map cellOf).toArray)] = some (leafL (nm k, sm v)).toArray) := builtPair (by simpa using hkl) (by simpa using hvl)
  unfold hv at CN CS CV CR CR' CP CK CA CGT DR
  have INC := Lib.hid (hash_info (hkl))
  have ONC := Lib.hid (cells_u8 (nm k))
  have LNC : Hid (Z.length = ((nm k).map cellOf).length) := by unfold Hid; rw [List.length_map, hkl, HZL.out]
  obtain ⟨NC, hNC⟩ : ∃ L, L = (nm k).map cellOf := ⟨_, rfl⟩
  have NNC : Hid (NC.length = 32) := by unfold Hid; rw [hNC, List.length_map, hkl]
  rw [← hNC] at INC ONC LNC CN CV CK CA CP CGT HBP
  have ENC := Lib.hid hNC
  clear hNC
  have ISC := Lib.hid (hash_info (hvl))
  have OSC := Lib.hid (cells_u8 (sm v))
  have LSC : Hid (Z.length = ((sm v).map cellOf).length) := by unfold Hid; rw [List.length_map, hvl, HZL.out]
  obtain ⟨SC, hSC⟩ : ∃ L, L = (sm v).map cellOf := ⟨_, rfl⟩
  have NSC : Hid (SC.length = 32) := by unfold Hid; rw [hSC, List.length_map, hvl]
  rw [← hSC] at ISC OSC LSC CS CP CA HBP
  have ESC := Lib.hid hSC
  clear hSC
  have IRC := Lib.hid (hash_info (hrl))
  have ORC := Lib.hid (cells_u8 (Tm.root 0 l))
  have LRC : Hid (Z.length = ((Tm.root 0 l).map cellOf).length) := by unfold Hid; rw [List.length_map, hrl, HZL.out]
  obtain ⟨RC, hRC⟩ : ∃ L, L = (Tm.root 0 l).map cellOf := ⟨_, rfl⟩
  have NRC : Hid (RC.length = 32) := by unfold Hid; rw [hRC, List.length_map, hrl]
  rw [← hRC] at IRC ORC LRC CR CK CA
  have ERC := Lib.hid hRC
  clear hRC
  have IQC := Lib.hid (hash_info (hrl'))
  have OQC := Lib.hid (cells_u8 (Tm.root 0 l'))
  have LQC : Hid (Z.length = ((Tm.root 0 l').map cellOf).length) := by unfold Hid; rw [List.length_map, hrl', HZL.out]
  obtain ⟨QC, hQC⟩ : ∃ L, L = (Tm.root 0 l').map cellOf := ⟨_, rfl⟩
  have NQC : Hid (QC.length = 32) := by unfold Hid; rw [hQC, List.length_map, hrl']
  rw [← hQC] at IQC OQC LQC CR' CA DR E1
  have EQC := Lib.hid hQC
  clear hQC
  have ITC := Lib.hid (hash_info (hgl))
  have OTC := Lib.hid (cells_u8 ((Tm.get (nm k) l).getD Tm.none32))
  have LTC : Hid (Z.length = (((Tm.get (nm k) l).getD Tm.none32).map cellOf).length) := by unfold Hid; rw [List.length_map, hgl, HZL.out]
  obtain ⟨TC, hTC⟩ : ∃ L, L = ((Tm.get (nm k) l).getD Tm.none32).map cellOf := ⟨_, rfl⟩
  have NTC : Hid (TC.length = 32) := by unfold Hid; rw [hTC, List.length_map, hgl]
  rw [← hTC] at ITC OTC LTC CK CGT E0
  have ETC := Lib.hid hTC
  clear hTC
  obtain ⟨PL, hPL⟩ : ∃ L, L = leafL (nm k, sm v) := ⟨_, rfl⟩
  rw [← hPL] at DW HBP
  obtain ⟨b0, hb0⟩ : ∃ b, b = (Tm.get (nm k) l).isSome := ⟨_, rfl⟩
  rw [← hb0] at CK CGT
  clear hPL hb0 hPI hP hl' hkl hvl hrl hrl' hgl hlen' hfit'
  go_upto_region 8 with (first
    | (go_at_call 20; refine (CN.out w3).mono ?_; rintro e w4 ⟨rfl, hX⟩; replace T := Lib.hid (T.out.low hX); replace OL' := Lib.hid (OL'.out.below hX); replace W := Lib.hid (W.out.trans (hX.mono W.out.size)); clear hX)
    | ((with_reducible refine storeGen_law rfl 30 (.tmp 13) (.tmp 34) rfl w4.heap.size rfl NC rfl 30 Z INC.out LNC.out ONC.out w4.heap.size w4 ?_ ?_ (Nat.le_refl _) ?_)
       · exact ZB.out w4
       · exact alloc_below w4 _
       intro w5 BL hX'; have hX := hX'.out; clear hX'; replace T := Lib.hid (T.out.low hX); replace OL' := Lib.hid (OL'.out.below hX); replace W := Lib.hid (W.out.trans (hX.mono W.out.size)); clear hX))
  obtain ⟨q1, hq1⟩ : ∃ q, q = w4.heap.size := ⟨_, rfl⟩
  rw [← hq1] at BL ⊢
  clear hq1
  go_upto_region 9 with (first
    | (with_reducible refine load_law rfl 30 (.tmp 13) rfl q1 0 rfl NC _ Tryd.underlying30 rfl INC.out BL.out.cells ?_)
    | (go_at_call 21; refine (CV.out w5 T.out).mono ?_; rintro e w6 ⟨PP, rfl, hPI, hp1, hp2, hp3, hX⟩; replace T := Lib.hid (T.out.low hX); replace OL' := Lib.hid (OL'.out.below hX); replace BL := Lib.hid (BL.out.below hX BL.out.lt); replace W := Lib.hid (W.out.trans (hX.mono W.out.size)); clear hX; have PI := Lib.hid hPI; have IPP := Lib.hid hp1; have OPP := Lib.hid hp2; have LPP : Hid (ZP.length = PP.length) := HZP.out.trans hp3.symm; clear hPI hp1 hp2 hp3)
    | ((with_reducible refine storeGen_law rfl 38 (.tmp 14) (.tmp 37) rfl w6.heap.size rfl PP rfl 38 ZP IPP.out LPP.out OPP.out w6.heap.size w6 ?_ ?_ (Nat.le_refl _) ?_)
       · exact ZPB'.out w6
       · exact alloc_below w6 _
       intro w7 BP hX'; have hX := hX'.out; clear hX'; replace T := Lib.hid (T.out.low hX); replace OL' := Lib.hid (OL'.out.below hX); replace BL := Lib.hid (BL.out.below hX BL.out.lt); replace W := Lib.hid (W.out.trans (hX.mono W.out.size)); replace PI := Lib.hid (PI.out.below hX); clear hX))
  obtain ⟨q2, hq2⟩ : ∃ q, q = w6.heap.size := ⟨_, rfl⟩
  rw [← hq2] at BP ⊢
  clear hq2
  have hX := (Below.refl w7.heap.size w7).drew
  replace T := Lib.hid (T.out.low hX)
  replace OL' := Lib.hid (OL'.out.below hX)
  replace BL := Lib.hid (BL.out.below hX BL.out.lt)
  replace BP := Lib.hid (BP.out.below hX BP.out.lt)
  replace PI := Lib.hid (PI.out.below hX)
  replace W := Lib.hid (W.out.trans (hX.mono W.out.size))
  clear hX
  refine wp_region_any (by kernel_rfl) ?_
  change wpAny _ _ _ _ _ _ _ (World.drew _)
  generalize w7.drew = wd at *
  refine wpAny_take (i := 0) (oi := ?oi1) (v := .pointer (some ⟨g, 0, none⟩)) ?hi1 (by kernel_rfl) (by kernel_rfl) (by kernel_rfl) ?hQ1 ?hy1 ?rest1
  case hi1 => simp only [zge]; rfl
  case hQ1 => exact fun _ _ _ h => h
  case hy1 => exact Or.inl ⟨by rfl, by intro w; go_simp⟩
  try simp only [zpt]
  refine phaseL (fun i => if i = 4 then [1, 2, 3] else if i = 5 then [4] else if i = 6 then [5] else if i = 7 then [5] else if i = 8 then [5] else if i = 10 then [9, 6, 4, 1, 2, 3, 5] else if i = 11 then [7, 10, 1, 2, 3, 4, 5, 6, 9] else if i = 12 then [8, 11, 1, 2, 3, 4, 5, 6, 7, 9, 10] else []) (fun d a w' => ∃ x40 x41 x42 x43 x38 x44 x45 x46 x15 x16 x17 : Value, a = { tmps := #[.slice A n c, .slice A' n' c', .int .i64 k, .int .i64 v, undef, undef, undef, undef, .bool false, .bool true, .pointer (some ⟨g, 0, none⟩), .slice AL nl cl, .bool true, .pointer (some ⟨q1, 0, none⟩), .pointer (some ⟨q2, 0, none⟩), x15, x16, x17, undef, undef, undef, .bool true, .bool true, .bool false, .tuple #[.pointer (some ⟨g, 0, none⟩), .slice AL nl cl, .bool true], .slice A n c, .slice A' n' c', .tuple #[.pointer (some ⟨g, 0, none⟩), .slice AL nl cl, .bool true], .pointer (some ⟨g, 0, none⟩), .slice AL nl cl, .bool true, .bool true, .bool false, .int .i64 k, .agg NC.toArray, .pointer (some ⟨g, 0, none⟩), .agg NC.toArray, .agg PP.toArray, x38, .pointer (some ⟨g, 0, none⟩), x40, x41, x42, x43, x44, x45, x46, undef, undef, undef, undef, undef, undef, undef, undef, undef, undef, undef, undef, undef, undef, undef, undef, undef, undef, undef, undef, undef, undef, undef, undef, undef, undef, undef, undef, undef, undef, undef, undef, undef, undef, undef, undef, undef, undef, undef, undef, undef, undef, undef, undef, undef, undef, undef, undef, undef, undef, undef, undef], defers := [] } ∧ Hid (Below wd.heap.size wd w') ∧ (d 1 = true → x40 = .agg RC.toArray) ∧ (d 2 = true → x41 = .agg NC.toArray) ∧ (d 3 = true → x42 = .agg PP.toArray) ∧ (d 4 = true → x43 = .tuple #[.agg TC.toArray, .bool b0, .bool true]) ∧ (d 5 = true → x38 = .tuple #[.agg TC.toArray, .bool b0, .bool true]) ∧ (d 6 = true → x44 = .agg TC.toArray) ∧ (d 7 = true → x45 = .bool b0) ∧ (d 8 = true → x46 = .bool true) ∧ (d 9 = true → Hid (AtN w' wd.heap.size x15 30 32)) ∧ (d 10 = true → (d 9 = true ∧ Hid (At w' wd.heap.size x15 30 TC))) ∧ (d 11 = true → x16 = .bool b0) ∧ (d 12 = true → x17 = .bool true)) [1, 2, 3, 4, 5, 6, 7, 8, 9, 10, 11, 12] ?step2 0 12 [1, 2, 3, 4, 5, 6, 7, 8, 9, 10, 11, 12] _ _ _ rfl (by decide) (fun _ h => h) (Fits.of (by kernel_rfl)) ?init2 ?fin2
  case init2 => refine ⟨_, _, _, _, _, _, _, _, _, _, _, rfl, Below.refl _ _, ?_, ?_, ?_, ?_, ?_, ?_, ?_, ?_, ?_, ?_, ?_, ?_⟩ <;> (intro h; exact absurd h (by decide))
  case step2 =>
    intro i hi d a v2 hI hdi hdeps
    obtain ⟨x40, x41, x42, x43, x38, x44, x45, x46, x15, x16, x17, rfl, BW, h1, h2, h3, h4, h5, h6, h7, h8, h9, h10, h11, h12⟩ := hI
    have hsw := BW.out.size
    simp only [List.mem_cons, List.not_mem_nil, or_false] at hi
    rcases hi with rfl | rfl | rfl | rfl | rfl | rfl | rfl | rfl | rfl | rfl | rfl | rfl
    · refine wpOp_step (o := ?os3) ?hos3 (fun K hK => ?_)
      case hos3 => simp only [zge]; rfl
      go_simp
      refine (CR.out v2 (T.out.low BW.out)).mono ?_
      rintro e u2 ⟨rfl, hX⟩
      refine hK _ _ ?_
      clear hK K
      try simp only [zpt]
      exact ⟨_, _, _, _, _, _, _, _, _, _, _, rfl, BW.out.trans (hX.mono hsw), fun _ => rfl, fun a => by first | exact h2 (by simpa using a) | rfl, fun a => by first | exact h3 (by simpa using a) | rfl, fun a => by first | exact h4 (by simpa using a) | rfl, fun a => by first | exact h5 (by simpa using a) | rfl, fun a => by first | exact h6 (by simpa using a) | rfl, fun a => by first | exact h7 (by simpa using a) | rfl, fun a => by first | exact h8 (by simpa using a) | rfl, fun a => (h9 (by simpa using a)).out.below hX, fun a => ⟨by simp [(h10 (by simpa using a)).1], (h10 (by simpa using a)).2.out.below hX⟩, fun a => by first | exact h11 (by simpa using a) | rfl, fun a => by first | exact h12 (by simpa using a) | rfl⟩
    · refine wpOp_step (o := ?os4) ?hos4 (fun K hK => ?_)
      case hos4 => simp only [zge]; rfl
      refine step_loadW rfl 30 (.tmp 13) rfl q1 0 rfl NC _ Tryd.underlying30 rfl INC.out (BL.out.below BW.out BL.out.lt).cells (hK _ _ ?_)
      clear hK K
      try simp only [zpt]
      exact ⟨_, _, _, _, _, _, _, _, _, _, _, rfl, BW, fun a => by first | exact h1 (by simpa using a) | rfl, fun _ => rfl, fun a => by first | exact h3 (by simpa using a) | rfl, fun a => by first | exact h4 (by simpa using a) | rfl, fun a => by first | exact h5 (by simpa using a) | rfl, fun a => by first | exact h6 (by simpa using a) | rfl, fun a => by first | exact h7 (by simpa using a) | rfl, fun a => by first | exact h8 (by simpa using a) | rfl, fun a => h9 (by simpa using a), fun a => ⟨by simp [(h10 (by simpa using a)).1], (h10 (by simpa using a)).2⟩, fun a => by first | exact h11 (by simpa using a) | rfl, fun a => by first | exact h12 (by simpa using a) | rfl⟩
    · refine wpOp_step (o := ?os5) ?hos5 (fun K hK => ?_)
      case hos5 => simp only [zge]; rfl
      refine step_loadW rfl 38 (.tmp 14) rfl q2 0 rfl PP _ Tryd.underlying38 rfl IPP.out (BP.out.below BW.out BP.out.lt).cells (hK _ _ ?_)
      clear hK K
      try simp only [zpt]
      exact ⟨_, _, _, _, _, _, _, _, _, _, _, rfl, BW, fun a => by first | exact h1 (by simpa using a) | rfl, fun a => by first | exact h2 (by simpa using a) | rfl, fun _ => rfl, fun a => by first | exact h4 (by simpa using a) | rfl, fun a => by first | exact h5 (by simpa using a) | rfl, fun a => by first | exact h6 (by simpa using a) | rfl, fun a => by first | exact h7 (by simpa using a) | rfl, fun a => by first | exact h8 (by simpa using a) | rfl, fun a => h9 (by simpa using a), fun a => ⟨by simp [(h10 (by simpa using a)).1], (h10 (by simpa using a)).2⟩, fun a => by first | exact h11 (by simpa using a) | rfl, fun a => by first | exact h12 (by simpa using a) | rfl⟩
    · obtain rfl := h1 (hdeps 1 (by simp))
      obtain rfl := h2 (hdeps 2 (by simp))
      obtain rfl := h3 (hdeps 3 (by simp))
      refine wpOp_step (o := ?os6) ?hos6 (fun K hK => ?_)
      case hos6 => simp only [zge]; rfl
      go_simp
      refine (CK.out v2 _ _ (W.out.trans (BW.out.mono W.out.size)) (PI.out.below BW.out)).mono ?_
      rintro e u2 ⟨rfl, hX⟩
      refine hK _ _ ?_
      clear hK K
      try simp only [zpt]
      exact ⟨_, _, _, _, _, _, _, _, _, _, _, rfl, BW.out.trans (hX.mono hsw), fun a => by first | exact h1 (by simpa using a) | rfl, fun a => by first | exact h2 (by simpa using a) | rfl, fun a => by first | exact h3 (by simpa using a) | rfl, fun _ => rfl, fun a => by first | exact h5 (by simpa using a) | rfl, fun a => by first | exact h6 (by simpa using a) | rfl, fun a => by first | exact h7 (by simpa using a) | rfl, fun a => by first | exact h8 (by simpa using a) | rfl, fun a => (h9 (by simpa using a)).out.below hX, fun a => ⟨by simp [(h10 (by simpa using a)).1], (h10 (by simpa using a)).2.out.below hX⟩, fun a => by first | exact h11 (by simpa using a) | rfl, fun a => by first | exact h12 (by simpa using a) | rfl⟩
    · obtain rfl := h4 (hdeps 4 (by simp))
      refine wpOp_step (o := ?os7) ?hos7 (fun K hK => ?_)
      case hos7 => simp only [zge]; rfl
      go_simp
      refine hK _ _ ?_
      clear hK K
      try simp only [zpt]
      exact ⟨_, _, _, _, _, _, _, _, _, _, _, rfl, BW, fun a => by first | exact h1 (by simpa using a) | rfl, fun a => by first | exact h2 (by simpa using a) | rfl, fun a => by first | exact h3 (by simpa using a) | rfl, fun a => by first | exact h4 (by simpa using a) | rfl, fun _ => rfl, fun a => by first | exact h6 (by simpa using a) | rfl, fun a => by first | exact h7 (by simpa using a) | rfl, fun a => by first | exact h8 (by simpa using a) | rfl, fun a => h9 (by simpa using a), fun a => ⟨by simp [(h10 (by simpa using a)).1], (h10 (by simpa using a)).2⟩, fun a => by first | exact h11 (by simpa using a) | rfl, fun a => by first | exact h12 (by simpa using a) | rfl⟩
    · obtain rfl := h5 (hdeps 5 (by simp))
      refine wpOp_step (o := ?os8) ?hos8 (fun K hK => ?_)
      case hos8 => simp only [zge]; rfl
      go_simp
      refine hK _ _ ?_
      clear hK K
      try simp only [zpt]
      exact ⟨_, _, _, _, _, _, _, _, _, _, _, rfl, BW, fun a => by first | exact h1 (by simpa using a) | rfl, fun a => by first | exact h2 (by simpa using a) | rfl, fun a => by first | exact h3 (by simpa using a) | rfl, fun a => by first | exact h4 (by simpa using a) | rfl, fun a => by first | exact h5 (by simpa using a) | rfl, fun _ => rfl, fun a => by first | exact h7 (by simpa using a) | rfl, fun a => by first | exact h8 (by simpa using a) | rfl, fun a => h9 (by simpa using a), fun a => ⟨by simp [(h10 (by simpa using a)).1], (h10 (by simpa using a)).2⟩, fun a => by first | exact h11 (by simpa using a) | rfl, fun a => by first | exact h12 (by simpa using a) | rfl⟩
    · obtain rfl := h5 (hdeps 5 (by simp))
      refine wpOp_step (o := ?os9) ?hos9 (fun K hK => ?_)
      case hos9 => simp only [zge]; rfl
      go_simp
      refine hK _ _ ?_
      clear hK K
      try simp only [zpt]
      exact ⟨_, _, _, _, _, _, _, _, _, _, _, rfl, BW, fun a => by first | exact h1 (by simpa using a) | rfl, fun a => by first | exact h2 (by simpa using a) | rfl, fun a => by first | exact h3 (by simpa using a) | rfl, fun a => by first | exact h4 (by simpa using a) | rfl, fun a => by first | exact h5 (by simpa using a) | rfl, fun a => by first | exact h6 (by simpa using a) | rfl, fun _ => rfl, fun a => by first | exact h8 (by simpa using a) | rfl, fun a => h9 (by simpa using a), fun a => ⟨by simp [(h10 (by simpa using a)).1], (h10 (by simpa using a)).2⟩, fun a => by first | exact h11 (by simpa using a) | rfl, fun a => by first | exact h12 (by simpa using a) | rfl⟩
    · obtain rfl := h5 (hdeps 5 (by simp))
      refine wpOp_step (o := ?os10) ?hos10 (fun K hK => ?_)
      case hos10 => simp only [zge]; rfl
      go_simp
      refine hK _ _ ?_
      clear hK K
      try simp only [zpt]
      exact ⟨_, _, _, _, _, _, _, _, _, _, _, rfl, BW, fun a => by first | exact h1 (by simpa using a) | rfl, fun a => by first | exact h2 (by simpa using a) | rfl, fun a => by first | exact h3 (by simpa using a) | rfl, fun a => by first | exact h4 (by simpa using a) | rfl, fun a => by first | exact h5 (by simpa using a) | rfl, fun a => by first | exact h6 (by simpa using a) | rfl, fun a => by first | exact h7 (by simpa using a) | rfl, fun _ => rfl, fun a => h9 (by simpa using a), fun a => ⟨by simp [(h10 (by simpa using a)).1], (h10 (by simpa using a)).2⟩, fun a => by first | exact h11 (by simpa using a) | rfl, fun a => by first | exact h12 (by simpa using a) | rfl⟩
    · have hX := alloc_below v2 (.cells (List.replicate 32 (Value.int .u8 0)).toArray 30)
      refine wpOp_step (o := ?os11) ?hos11 (fun K hK => ?_)
      case hos11 => simp only [zge]; rfl
      go_simp
      refine hK _ _ ?_
      clear hK K
      try simp only [zpt]
      exact ⟨_, _, _, _, _, _, _, _, _, _, _, rfl, BW.out.trans (hX.mono hsw), fun a => by first | exact h1 (by simpa using a) | rfl, fun a => by first | exact h2 (by simpa using a) | rfl, fun a => by first | exact h3 (by simpa using a) | rfl, fun a => by first | exact h4 (by simpa using a) | rfl, fun a => by first | exact h5 (by simpa using a) | rfl, fun a => by first | exact h6 (by simpa using a) | rfl, fun a => by first | exact h7 (by simpa using a) | rfl, fun a => by first | exact h8 (by simpa using a) | rfl, fun _ => (At.new _ _ _ hsw).n rfl, fun a => absurd (h10 (by simpa using a)).1 (by simp [hdi]), fun a => by first | exact h11 (by simpa using a) | rfl, fun a => by first | exact h12 (by simpa using a) | rfl⟩
    · obtain rfl := h6 (hdeps 6 (by simp))
      obtain ⟨qn, hqe, hqB, cs, hQ, hQl⟩ := (h9 (hdeps 9 (by simp))).out
      obtain rfl := hqe
      refine wpOp_step (o := ?os12) ?hos12 (fun K hK => ?_)
      case hos12 => simp only [zge]; rfl
      refine step_storeAll rfl 30 (.tmp 15) (.tmp 44) rfl qn rfl TC rfl 30 cs hQ ITC.out (hQl.trans NTC.out.symm) OTC.out (hK _ _ ?_)
      clear hK K
      have hS : At (v2.setRow qn TC.toArray) wd.heap.size (.pointer (some ⟨qn, 0, none⟩)) 30 TC := ⟨qn, rfl, hqB, hQ.row⟩
      have hN := hS.n NTC.out
      try simp only [zpt]
      exact ⟨_, _, _, _, _, _, _, _, _, _, _, rfl, below_setRow BW.out hqB _, fun a => by first | exact h1 (by simpa using a) | rfl, fun a => by first | exact h2 (by simpa using a) | rfl, fun a => by first | exact h3 (by simpa using a) | rfl, fun a => by first | exact h4 (by simpa using a) | rfl, fun a => by first | exact h5 (by simpa using a) | rfl, fun a => by first | exact h6 (by simpa using a) | rfl, fun a => by first | exact h7 (by simpa using a) | rfl, fun a => by first | exact h8 (by simpa using a) | rfl, fun a => hN, fun _ => ⟨by simp [hdeps 9 (by simp)], hS⟩, fun a => by first | exact h11 (by simpa using a) | rfl, fun a => by first | exact h12 (by simpa using a) | rfl⟩
    · obtain rfl := h7 (hdeps 7 (by simp))
      refine wpOp_step (o := ?os13) ?hos13 (fun K hK => ?_)
      case hos13 => simp only [zge]; rfl
      go_simp
      refine hK _ _ ?_
      clear hK K
      try simp only [zpt]
      exact ⟨_, _, _, _, _, _, _, _, _, _, _, rfl, BW, fun a => by first | exact h1 (by simpa using a) | rfl, fun a => by first | exact h2 (by simpa using a) | rfl, fun a => by first | exact h3 (by simpa using a) | rfl, fun a => by first | exact h4 (by simpa using a) | rfl, fun a => by first | exact h5 (by simpa using a) | rfl, fun a => by first | exact h6 (by simpa using a) | rfl, fun a => by first | exact h7 (by simpa using a) | rfl, fun a => by first | exact h8 (by simpa using a) | rfl, fun a => h9 (by simpa using a), fun a => ⟨by simp [(h10 (by simpa using a)).1], (h10 (by simpa using a)).2⟩, fun _ => rfl, fun a => by first | exact h12 (by simpa using a) | rfl⟩
    · obtain rfl := h8 (hdeps 8 (by simp))
      refine wpOp_step (o := ?os14) ?hos14 (fun K hK => ?_)
      case hos14 => simp only [zge]; rfl
      go_simp
      refine hK _ _ ?_
      clear hK K
      try simp only [zpt]
      exact ⟨_, _, _, _, _, _, _, _, _, _, _, rfl, BW, fun a => by first | exact h1 (by simpa using a) | rfl, fun a => by first | exact h2 (by simpa using a) | rfl, fun a => by first | exact h3 (by simpa using a) | rfl, fun a => by first | exact h4 (by simpa using a) | rfl, fun a => by first | exact h5 (by simpa using a) | rfl, fun a => by first | exact h6 (by simpa using a) | rfl, fun a => by first | exact h7 (by simpa using a) | rfl, fun a => by first | exact h8 (by simpa using a) | rfl, fun a => h9 (by simpa using a), fun a => ⟨by simp [(h10 (by simpa using a)).1], (h10 (by simpa using a)).2⟩, fun a => by first | exact h11 (by simpa using a) | rfl, fun _ => rfl⟩
  case fin2 =>
    intro a v2 hI
    obtain ⟨x40, x41, x42, x43, x38, x44, x45, x46, x15, x16, x17, rfl, BW, h1, h2, h3, h4, h5, h6, h7, h8, h9, h10, h11, h12⟩ := hI
    obtain rfl := h1 (by decide)
    obtain rfl := h2 (by decide)
    obtain rfl := h3 (by decide)
    obtain rfl := h4 (by decide)
    obtain rfl := h5 (by decide)
    obtain rfl := h6 (by decide)
    obtain rfl := h7 (by decide)
    obtain rfl := h8 (by decide)
    obtain rfl := h11 (by decide)
    obtain rfl := h12 (by decide)
    clear h1 h2 h3 h4 h5 h6 h7 h8 h11 h12
    obtain ⟨q3, rfl, hq3, hQ⟩ := (h10 (by decide)).2.out
    have BS := Lib.hid hQ
    have hX := BW.out
    replace T := Lib.hid (T.out.low hX)
    replace OL' := Lib.hid (OL'.out.below hX)
    replace BL := Lib.hid (BL.out.below hX BL.out.lt)
    replace BP := Lib.hid (BP.out.below hX BP.out.lt)
    replace PI := Lib.hid (PI.out.below hX)
    replace W := Lib.hid (W.out.trans (hX.mono W.out.size))
    clear hX BW hQ h9 h10 
    try dsimp only
    refine wpAny_done (by kernel_rfl) ?_ _
    go_upto_region 11 with (first
      | (with_reducible refine load_law rfl 30 (.tmp 13) rfl q1 0 rfl NC _ Tryd.underlying30 rfl INC.out BL.out.cells ?_)
      | (go_at_call 19; refine (CGT.out v2 T.out).mono ?_; rintro e w8 ⟨rfl, hX⟩; replace T := Lib.hid (T.out.low hX); replace OL' := Lib.hid (OL'.out.below hX); replace BL := Lib.hid (BL.out.below hX BL.out.lt); replace BP := Lib.hid (BP.out.below hX BP.out.lt); replace PI := Lib.hid (PI.out.below hX); replace BS := Lib.hid (BS.out.below hX BS.out.lt); replace W := Lib.hid (W.out.trans (hX.mono W.out.size)); clear hX)
      | ((with_reducible refine storeGen_law rfl 30 (.tmp 18) (.tmp 51) rfl w8.heap.size rfl TC rfl 30 Z ITC.out LTC.out OTC.out w8.heap.size w8 ?_ ?_ (Nat.le_refl _) ?_)
         · exact ZB.out w8
         · exact alloc_below w8 _
         intro w9 BG hX'; have hX := hX'.out; clear hX'; replace T := Lib.hid (T.out.low hX); replace OL' := Lib.hid (OL'.out.below hX); replace BL := Lib.hid (BL.out.below hX BL.out.lt); replace BP := Lib.hid (BP.out.below hX BP.out.lt); replace PI := Lib.hid (PI.out.below hX); replace BS := Lib.hid (BS.out.below hX BS.out.lt); replace W := Lib.hid (W.out.trans (hX.mono W.out.size)); clear hX))
    obtain ⟨q4, hq4⟩ : ∃ q, q = w8.heap.size := ⟨_, rfl⟩
    rw [← hq4] at BG ⊢
    clear hq4
    have hX := (Below.refl w9.heap.size w9).drew
    replace T := Lib.hid (T.out.low hX)
    replace OL' := Lib.hid (OL'.out.below hX)
    replace BL := Lib.hid (BL.out.below hX BL.out.lt)
    replace BP := Lib.hid (BP.out.below hX BP.out.lt)
    replace PI := Lib.hid (PI.out.below hX)
    replace BS := Lib.hid (BS.out.below hX BS.out.lt)
    replace BG := Lib.hid (BG.out.below hX BG.out.lt)
    replace W := Lib.hid (W.out.trans (hX.mono W.out.size))
    clear hX
    refine wp_region_any (by kernel_rfl) ?_
    change wpAny _ _ _ _ _ _ _ (World.drew _)
    generalize w9.drew = wd2 at *
    refine wpAny_take (i := 0) (oi := ?oi15) (v := .pointer (some ⟨g, 0, none⟩)) ?hi15 (by kernel_rfl) (by kernel_rfl) (by kernel_rfl) ?hQ15 ?hy15 ?rest15
    case hi15 => simp only [zge]; rfl
    case hQ15 => exact fun _ _ _ h => h
    case hy15 => exact Or.inl ⟨by rfl, by intro w; go_simp⟩
    try simp only [zpt]
    refine wpAny_take (i := 3) (oi := ?oi16) (v := .int .i64 v) ?hi16 (by kernel_rfl) (by kernel_rfl) (by kernel_rfl) ?hQ16 ?hy16 ?rest16
    case hi16 => simp only [zge]; rfl
    case hQ16 => exact fun _ _ _ h => h
    case hy16 => exact Or.inl ⟨by rfl, by intro w; go_simp⟩
    try simp only [zpt]
    refine phaseL (fun i => if i = 4 then [1] else if i = 6 then [1, 2, 4, 5] else if i = 7 then [6] else if i = 8 then [7] else if i = 9 then [7] else if i = 11 then [10, 8, 6, 1, 2, 4, 5, 7] else if i = 12 then [9, 11, 1, 2, 4, 5, 6, 7, 8, 10] else []) (fun d a w' => ∃ x55 x56 x58 x59 x60 x53 x61 x62 x19 x20 : Value, a = { tmps := #[.slice A n c, .slice A' n' c', .int .i64 k, .int .i64 v, undef, undef, undef, undef, .bool false, .bool b0, .pointer (some ⟨g, 0, none⟩), .slice AL nl cl, .bool true, .pointer (some ⟨q1, 0, none⟩), .pointer (some ⟨q2, 0, none⟩), .pointer (some ⟨q3, 0, none⟩), .bool b0, .bool true, .pointer (some ⟨q4, 0, none⟩), x19, x20, .bool true, .bool true, .bool false, .tuple #[.pointer (some ⟨g, 0, none⟩), .slice AL nl cl, .bool true], .slice A n c, .slice A' n' c', .tuple #[.pointer (some ⟨g, 0, none⟩), .slice AL nl cl, .bool true], .pointer (some ⟨g, 0, none⟩), .slice AL nl cl, .bool true, .bool true, .bool false, .int .i64 k, .agg NC.toArray, .pointer (some ⟨g, 0, none⟩), .agg NC.toArray, .agg PP.toArray, .tuple #[.agg TC.toArray, .bool b0, .bool true], .pointer (some ⟨g, 0, none⟩), .agg RC.toArray, .agg NC.toArray, .agg PP.toArray, .tuple #[.agg TC.toArray, .bool b0, .bool true], .agg TC.toArray, .bool b0, .bool true, .tuple #[.agg TC.toArray, .bool b0], .pointer (some ⟨g, 0, none⟩), .agg NC.toArray, .tuple #[.agg TC.toArray, .bool b0], .agg TC.toArray, .bool b0, x53, .pointer (some ⟨g, 0, none⟩), x55, x56, .int .i64 v, x58, x59, x60, x61, x62, undef, undef, undef, undef, undef, undef, undef, undef, undef, undef, undef, undef, undef, undef, undef, undef, undef, undef, undef, undef, undef, undef, undef, undef, undef, undef, undef, undef, undef, undef, undef, undef, undef, undef, undef, undef], defers := [] } ∧ Hid (Below wd2.heap.size wd2 w') ∧ (d 1 = true → x55 = .agg RC.toArray) ∧ (d 2 = true → x56 = .agg NC.toArray) ∧ (d 4 = true → x58 = .agg SC.toArray) ∧ (d 5 = true → x59 = .agg PP.toArray) ∧ (d 6 = true → x60 = .tuple #[.agg QC.toArray, .bool true]) ∧ (d 7 = true → x53 = .tuple #[.agg QC.toArray, .bool true]) ∧ (d 8 = true → x61 = .agg QC.toArray) ∧ (d 9 = true → x62 = .bool true) ∧ (d 10 = true → Hid (AtN w' wd2.heap.size x19 30 32)) ∧ (d 11 = true → (d 10 = true ∧ Hid (At w' wd2.heap.size x19 30 QC))) ∧ (d 12 = true → x20 = .bool true)) [1, 2, 4, 5, 6, 7, 8, 9, 10, 11, 12] ?step17 0 11 [1, 2, 4, 5, 6, 7, 8, 9, 10, 11, 12] _ _ _ rfl (by decide) (fun _ h => h) (Fits.of (by kernel_rfl)) ?init17 ?fin17
    case init17 => refine ⟨_, _, _, _, _, _, _, _, _, _, rfl, Below.refl _ _, ?_, ?_, ?_, ?_, ?_, ?_, ?_, ?_, ?_, ?_, ?_⟩ <;> (intro h; exact absurd h (by decide))
    case step17 =>
      intro i hi d a v17 hI hdi hdeps
      obtain ⟨x55, x56, x58, x59, x60, x53, x61, x62, x19, x20, rfl, BW, h1, h2, h4, h5, h6, h7, h8, h9, h10, h11, h12⟩ := hI
      have hsw := BW.out.size
      simp only [List.mem_cons, List.not_mem_nil, or_false] at hi
      rcases hi with rfl | rfl | rfl | rfl | rfl | rfl | rfl | rfl | rfl | rfl | rfl
      · refine wpOp_step (o := ?os18) ?hos18 (fun K hK => ?_)
        case hos18 => simp only [zge]; rfl
        go_simp
        refine (CR.out v17 (T.out.low BW.out)).mono ?_
        rintro e u17 ⟨rfl, hX⟩
        refine hK _ _ ?_
        clear hK K
        try simp only [zpt]
        exact ⟨_, _, _, _, _, _, _, _, _, _, rfl, BW.out.trans (hX.mono hsw), fun _ => rfl, fun a => by first | exact h2 (by simpa using a) | rfl, fun a => by first | exact h4 (by simpa using a) | rfl, fun a => by first | exact h5 (by simpa using a) | rfl, fun a => by first | exact h6 (by simpa using a) | rfl, fun a => by first | exact h7 (by simpa using a) | rfl, fun a => by first | exact h8 (by simpa using a) | rfl, fun a => by first | exact h9 (by simpa using a) | rfl, fun a => (h10 (by simpa using a)).out.below hX, fun a => ⟨by simp [(h11 (by simpa using a)).1], (h11 (by simpa using a)).2.out.below hX⟩, fun a => by first | exact h12 (by simpa using a) | rfl⟩
      · refine wpOp_step (o := ?os19) ?hos19 (fun K hK => ?_)
        case hos19 => simp only [zge]; rfl
        refine step_loadW rfl 30 (.tmp 13) rfl q1 0 rfl NC _ Tryd.underlying30 rfl INC.out (BL.out.below BW.out BL.out.lt).cells (hK _ _ ?_)
        clear hK K
        try simp only [zpt]
        exact ⟨_, _, _, _, _, _, _, _, _, _, rfl, BW, fun a => by first | exact h1 (by simpa using a) | rfl, fun _ => rfl, fun a => by first | exact h4 (by simpa using a) | rfl, fun a => by first | exact h5 (by simpa using a) | rfl, fun a => by first | exact h6 (by simpa using a) | rfl, fun a => by first | exact h7 (by simpa using a) | rfl, fun a => by first | exact h8 (by simpa using a) | rfl, fun a => by first | exact h9 (by simpa using a) | rfl, fun a => h10 (by simpa using a), fun a => ⟨by simp [(h11 (by simpa using a)).1], (h11 (by simpa using a)).2⟩, fun a => by first | exact h12 (by simpa using a) | rfl⟩
      · refine wpOp_step (o := ?os20) ?hos20 (fun K hK => ?_)
        case hos20 => simp only [zge]; rfl
        go_simp
        refine (CS.out v17 ).mono ?_
        rintro e u17 ⟨rfl, hX⟩
        refine hK _ _ ?_
        clear hK K
        try simp only [zpt]
        exact ⟨_, _, _, _, _, _, _, _, _, _, rfl, BW.out.trans (hX.mono hsw), fun a => by first | exact h1 (by simpa using a) | rfl, fun a => by first | exact h2 (by simpa using a) | rfl, fun _ => rfl, fun a => by first | exact h5 (by simpa using a) | rfl, fun a => by first | exact h6 (by simpa using a) | rfl, fun a => by first | exact h7 (by simpa using a) | rfl, fun a => by first | exact h8 (by simpa using a) | rfl, fun a => by first | exact h9 (by simpa using a) | rfl, fun a => (h10 (by simpa using a)).out.below hX, fun a => ⟨by simp [(h11 (by simpa using a)).1], (h11 (by simpa using a)).2.out.below hX⟩, fun a => by first | exact h12 (by simpa using a) | rfl⟩
      · refine wpOp_step (o := ?os21) ?hos21 (fun K hK => ?_)
        case hos21 => simp only [zge]; rfl
        refine step_loadW rfl 38 (.tmp 14) rfl q2 0 rfl PP _ Tryd.underlying38 rfl IPP.out (BP.out.below BW.out BP.out.lt).cells (hK _ _ ?_)
        clear hK K
        try simp only [zpt]
        exact ⟨_, _, _, _, _, _, _, _, _, _, rfl, BW, fun a => by first | exact h1 (by simpa using a) | rfl, fun a => by first | exact h2 (by simpa using a) | rfl, fun a => by first | exact h4 (by simpa using a) | rfl, fun _ => rfl, fun a => by first | exact h6 (by simpa using a) | rfl, fun a => by first | exact h7 (by simpa using a) | rfl, fun a => by first | exact h8 (by simpa using a) | rfl, fun a => by first | exact h9 (by simpa using a) | rfl, fun a => h10 (by simpa using a), fun a => ⟨by simp [(h11 (by simpa using a)).1], (h11 (by simpa using a)).2⟩, fun a => by first | exact h12 (by simpa using a) | rfl⟩
      · obtain rfl := h1 (hdeps 1 (by simp))
        obtain rfl := h2 (hdeps 2 (by simp))
        obtain rfl := h4 (hdeps 4 (by simp))
        obtain rfl := h5 (hdeps 5 (by simp))
        refine wpOp_step (o := ?os22) ?hos22 (fun K hK => ?_)
        case hos22 => simp only [zge]; rfl
        go_simp
        refine (CA.out v17 _ _ (W.out.trans (BW.out.mono W.out.size)) (PI.out.below BW.out)).mono ?_
        rintro e u17 ⟨rfl, hX⟩
        refine hK _ _ ?_
        clear hK K
        try simp only [zpt]
        exact ⟨_, _, _, _, _, _, _, _, _, _, rfl, BW.out.trans (hX.mono hsw), fun a => by first | exact h1 (by simpa using a) | rfl, fun a => by first | exact h2 (by simpa using a) | rfl, fun a => by first | exact h4 (by simpa using a) | rfl, fun a => by first | exact h5 (by simpa using a) | rfl, fun _ => rfl, fun a => by first | exact h7 (by simpa using a) | rfl, fun a => by first | exact h8 (by simpa using a) | rfl, fun a => by first | exact h9 (by simpa using a) | rfl, fun a => (h10 (by simpa using a)).out.below hX, fun a => ⟨by simp [(h11 (by simpa using a)).1], (h11 (by simpa using a)).2.out.below hX⟩, fun a => by first | exact h12 (by simpa using a) | rfl⟩
      · obtain rfl := h6 (hdeps 6 (by simp))
        refine wpOp_step (o := ?os23) ?hos23 (fun K hK => ?_)
        case hos23 => simp only [zge]; rfl
        go_simp
        refine hK _ _ ?_
        clear hK K
        try simp only [zpt]
        exact ⟨_, _, _, _, _, _, _, _, _, _, rfl, BW, fun a => by first | exact h1 (by simpa using a) | rfl, fun a => by first | exact h2 (by simpa using a) | rfl, fun a => by first | exact h4 (by simpa using a) | rfl, fun a => by first | exact h5 (by simpa using a) | rfl, fun a => by first | exact h6 (by simpa using a) | rfl, fun _ => rfl, fun a => by first | exact h8 (by simpa using a) | rfl, fun a => by first | exact h9 (by simpa using a) | rfl, fun a => h10 (by simpa using a), fun a => ⟨by simp [(h11 (by simpa using a)).1], (h11 (by simpa using a)).2⟩, fun a => by first | exact h12 (by simpa using a) | rfl⟩
      · obtain rfl := h7 (hdeps 7 (by simp))
        refine wpOp_step (o := ?os24) ?hos24 (fun K hK => ?_)
        case hos24 => simp only [zge]; rfl
        go_simp
        refine hK _ _ ?_
        clear hK K
        try simp only [zpt]
        exact ⟨_, _, _, _, _, _, _, _, _, _, rfl, BW, fun a => by first | exact h1 (by simpa using a) | rfl, fun a => by first | exact h2 (by simpa using a) | rfl, fun a => by first | exact h4 (by simpa using a) | rfl, fun a => by first | exact h5 (by simpa using a) | rfl, fun a => by first | exact h6 (by simpa using a) | rfl, fun a => by first | exact h7 (by simpa using a) | rfl, fun _ => rfl, fun a => by first | exact h9 (by simpa using a) | rfl, fun a => h10 (by simpa using a), fun a => ⟨by simp [(h11 (by simpa using a)).1], (h11 (by simpa using a)).2⟩, fun a => by first | exact h12 (by simpa using a) | rfl⟩
      · obtain rfl := h7 (hdeps 7 (by simp))
        refine wpOp_step (o := ?os25) ?hos25 (fun K hK => ?_)
        case hos25 => simp only [zge]; rfl
        go_simp
        refine hK _ _ ?_
        clear hK K
        try simp only [zpt]
        exact ⟨_, _, _, _, _, _, _, _, _, _, rfl, BW, fun a => by first | exact h1 (by simpa using a) | rfl, fun a => by first | exact h2 (by simpa using a) | rfl, fun a => by first | exact h4 (by simpa using a) | rfl, fun a => by first | exact h5 (by simpa using a) | rfl, fun a => by first | exact h6 (by simpa using a) | rfl, fun a => by first | exact h7 (by simpa using a) | rfl, fun a => by first | exact h8 (by simpa using a) | rfl, fun _ => rfl, fun a => h10 (by simpa using a), fun a => ⟨by simp [(h11 (by simpa using a)).1], (h11 (by simpa using a)).2⟩, fun a => by first | exact h12 (by simpa using a) | rfl⟩
      · have hX := alloc_below v17 (.cells (List.replicate 32 (Value.int .u8 0)).toArray 30)
        refine wpOp_step (o := ?os26) ?hos26 (fun K hK => ?_)
        case hos26 => simp only [zge]; rfl
        go_simp
        refine hK _ _ ?_
        clear hK K
        try simp only [zpt]
        exact ⟨_, _, _, _, _, _, _, _, _, _, rfl, BW.out.trans (hX.mono hsw), fun a => by first | exact h1 (by simpa using a) | rfl, fun a => by first | exact h2 (by simpa using a) | rfl, fun a => by first | exact h4 (by simpa using a) | rfl, fun a => by first | exact h5 (by simpa using a) | rfl, fun a => by first | exact h6 (by simpa using a) | rfl, fun a => by first | exact h7 (by simpa using a) | rfl, fun a => by first | exact h8 (by simpa using a) | rfl, fun a => by first | exact h9 (by simpa using a) | rfl, fun _ => (At.new _ _ _ hsw).n rfl, fun a => absurd (h11 (by simpa using a)).1 (by simp [hdi]), fun a => by first | exact h12 (by simpa using a) | rfl⟩
      · obtain rfl := h8 (hdeps 8 (by simp))
        obtain ⟨qn, hqe, hqB, cs, hQ, hQl⟩ := (h10 (hdeps 10 (by simp))).out
        obtain rfl := hqe
        refine wpOp_step (o := ?os27) ?hos27 (fun K hK => ?_)
        case hos27 => simp only [zge]; rfl
        refine step_storeAll rfl 30 (.tmp 19) (.tmp 61) rfl qn rfl QC rfl 30 cs hQ IQC.out (hQl.trans NQC.out.symm) OQC.out (hK _ _ ?_)
        clear hK K
        have hS : At (v17.setRow qn QC.toArray) wd2.heap.size (.pointer (some ⟨qn, 0, none⟩)) 30 QC := ⟨qn, rfl, hqB, hQ.row⟩
        have hN := hS.n NQC.out
        try simp only [zpt]
        exact ⟨_, _, _, _, _, _, _, _, _, _, rfl, below_setRow BW.out hqB _, fun a => by first | exact h1 (by simpa using a) | rfl, fun a => by first | exact h2 (by simpa using a) | rfl, fun a => by first | exact h4 (by simpa using a) | rfl, fun a => by first | exact h5 (by simpa using a) | rfl, fun a => by first | exact h6 (by simpa using a) | rfl, fun a => by first | exact h7 (by simpa using a) | rfl, fun a => by first | exact h8 (by simpa using a) | rfl, fun a => by first | exact h9 (by simpa using a) | rfl, fun a => hN, fun _ => ⟨by simp [hdeps 10 (by simp)], hS⟩, fun a => by first | exact h12 (by simpa using a) | rfl⟩
      · obtain rfl := h9 (hdeps 9 (by simp))
        refine wpOp_step (o := ?os28) ?hos28 (fun K hK => ?_)
        case hos28 => simp only [zge]; rfl
        go_simp
        refine hK _ _ ?_
        clear hK K
        try simp only [zpt]
        exact ⟨_, _, _, _, _, _, _, _, _, _, rfl, BW, fun a => by first | exact h1 (by simpa using a) | rfl, fun a => by first | exact h2 (by simpa using a) | rfl, fun a => by first | exact h4 (by simpa using a) | rfl, fun a => by first | exact h5 (by simpa using a) | rfl, fun a => by first | exact h6 (by simpa using a) | rfl, fun a => by first | exact h7 (by simpa using a) | rfl, fun a => by first | exact h8 (by simpa using a) | rfl, fun a => by first | exact h9 (by simpa using a) | rfl, fun a => h10 (by simpa using a), fun a => ⟨by simp [(h11 (by simpa using a)).1], (h11 (by simpa using a)).2⟩, fun _ => rfl⟩
    case fin17 =>
      intro a v17 hI
      obtain ⟨x55, x56, x58, x59, x60, x53, x61, x62, x19, x20, rfl, BW, h1, h2, h4, h5, h6, h7, h8, h9, h10, h11, h12⟩ := hI
      obtain rfl := h1 (by decide)
      obtain rfl := h2 (by decide)
      obtain rfl := h4 (by decide)
      obtain rfl := h5 (by decide)
      obtain rfl := h6 (by decide)
      obtain rfl := h7 (by decide)
      obtain rfl := h8 (by decide)
      obtain rfl := h9 (by decide)
      obtain rfl := h12 (by decide)
      clear h1 h2 h4 h5 h6 h7 h8 h9 h12
      obtain ⟨q5, rfl, hq5, hQ⟩ := (h11 (by decide)).2.out
      have BN := Lib.hid hQ
      have hX := BW.out
      replace T := Lib.hid (T.out.low hX)
      replace OL' := Lib.hid (OL'.out.below hX)
      replace BL := Lib.hid (BL.out.below hX BL.out.lt)
      replace BP := Lib.hid (BP.out.below hX BP.out.lt)
      replace PI := Lib.hid (PI.out.below hX)
      replace BS := Lib.hid (BS.out.below hX BS.out.lt)
      replace BG := Lib.hid (BG.out.below hX BG.out.lt)
      replace W := Lib.hid (W.out.trans (hX.mono W.out.size))
      clear hX BW hQ h10 h11 
      try dsimp only
      refine wpAny_done (by kernel_rfl) ?_ _
      clear PI CK CA CR CV CGT
      go_upto_region 12 with (fail)
      have hX := (Below.refl v17.heap.size v17).drew
      replace T := Lib.hid (T.out.low hX)
      replace OL' := Lib.hid (OL'.out.below hX)
      replace BL := Lib.hid (BL.out.below hX BL.out.lt)
      replace BP := Lib.hid (BP.out.below hX BP.out.lt)
      replace BS := Lib.hid (BS.out.below hX BS.out.lt)
      replace BG := Lib.hid (BG.out.below hX BG.out.lt)
      replace BN := Lib.hid (BN.out.below hX BN.out.lt)
      replace W := Lib.hid (W.out.trans (hX.mono W.out.size))
      clear hX
      refine wp_region_any (by kernel_rfl) ?_
      change wpAny _ _ _ _ _ _ _ (World.drew _)
      generalize v17.drew = wd3 at *
      refine wpAny_take (i := 0) (oi := ?oi29) (v := .pointer (some ⟨g, 0, none⟩)) ?hi29 (by kernel_rfl) (by kernel_rfl) (by kernel_rfl) ?hQ29 ?hy29 ?rest29
      case hi29 => simp only [zge]; rfl
      case hQ29 => exact fun _ _ _ h => h
      case hy29 => exact Or.inl ⟨by rfl, by intro w; go_simp⟩
      try simp only [zpt]
      refine wpAny_take (i := 2) (oi := ?oi30) (v := .int .i64 v) ?hi30 (by kernel_rfl) (by kernel_rfl) (by kernel_rfl) ?hQ30 ?hy30 ?rest30
      case hi30 => simp only [zge]; rfl
      case hQ30 => exact fun _ _ _ h => h
      case hy30 => exact Or.inl ⟨by rfl, by intro w; go_simp⟩
      try simp only [zpt]
      refine phaseL (fun i => []) (fun d a w' => ∃ x64 x66 : Value, a = { tmps := #[.slice A n c, .slice A' n' c', .int .i64 k, .int .i64 v, undef, undef, undef, undef, .bool false, .bool b0, .pointer (some ⟨g, 0, none⟩), .slice AL nl cl, .bool true, .pointer (some ⟨q1, 0, none⟩), .pointer (some ⟨q2, 0, none⟩), .pointer (some ⟨q3, 0, none⟩), .bool b0, .bool true, .pointer (some ⟨q4, 0, none⟩), .pointer (some ⟨q5, 0, none⟩), .bool true, .bool true, .bool true, .bool false, .tuple #[.pointer (some ⟨g, 0, none⟩), .slice AL nl cl, .bool true], .slice A n c, .slice A' n' c', .tuple #[.pointer (some ⟨g, 0, none⟩), .slice AL nl cl, .bool true], .pointer (some ⟨g, 0, none⟩), .slice AL nl cl, .bool true, .bool true, .bool false, .int .i64 k, .agg NC.toArray, .pointer (some ⟨g, 0, none⟩), .agg NC.toArray, .agg PP.toArray, .tuple #[.agg TC.toArray, .bool b0, .bool true], .pointer (some ⟨g, 0, none⟩), .agg RC.toArray, .agg NC.toArray, .agg PP.toArray, .tuple #[.agg TC.toArray, .bool b0, .bool true], .agg TC.toArray, .bool b0, .bool true, .tuple #[.agg TC.toArray, .bool b0], .pointer (some ⟨g, 0, none⟩), .agg NC.toArray, .tuple #[.agg TC.toArray, .bool b0], .agg TC.toArray, .bool b0, .tuple #[.agg QC.toArray, .bool true], .pointer (some ⟨g, 0, none⟩), .agg RC.toArray, .agg NC.toArray, .int .i64 v, .agg SC.toArray, .agg PP.toArray, .tuple #[.agg QC.toArray, .bool true], .agg QC.toArray, .bool true, .pointer (some ⟨g, 0, none⟩), x64, .int .i64 v, x66, undef, undef, undef, undef, undef, undef, undef, undef, undef, undef, undef, undef, undef, undef, undef, undef, undef, undef, undef, undef, undef, undef, undef, undef, undef, undef, undef, undef, undef, undef, undef, undef], defers := [] } ∧ Hid (Below wd3.heap.size wd3 w') ∧ (d 1 = true → x64 = .agg NC.toArray) ∧ (d 3 = true → x66 = .agg SC.toArray)) [1, 3] ?step31 1 2 [1, 3] _ _ _ rfl (by decide) (fun _ h => h) (Fits.of (by kernel_rfl)) ?init31 ?fin31
      case init31 => refine ⟨_, _, rfl, Below.refl _ _, ?_, ?_⟩ <;> (intro h; exact absurd h (by decide))
      case step31 =>
        intro i hi d a v31 hI hdi hdeps
        obtain ⟨x64, x66, rfl, BW, h1, h3⟩ := hI
        have hsw := BW.out.size
        simp only [List.mem_cons, List.not_mem_nil, or_false] at hi
        rcases hi with rfl | rfl
        · refine wpOp_step (o := ?os32) ?hos32 (fun K hK => ?_)
          case hos32 => simp only [zge]; rfl
          refine step_loadW rfl 30 (.tmp 13) rfl q1 0 rfl NC _ Tryd.underlying30 rfl INC.out (BL.out.below BW.out BL.out.lt).cells (hK _ _ ?_)
          clear hK K
          try simp only [zpt]
          exact ⟨_, _, rfl, BW, fun _ => rfl, fun a => by first | exact h3 (by simpa using a) | rfl⟩
        · refine wpOp_step (o := ?os33) ?hos33 (fun K hK => ?_)
          case hos33 => simp only [zge]; rfl
          go_simp
          refine (CS.out v31 ).mono ?_
          rintro e u31 ⟨rfl, hX⟩
          refine hK _ _ ?_
          clear hK K
          try simp only [zpt]
          exact ⟨_, _, rfl, BW.out.trans (hX.mono hsw), fun a => by first | exact h1 (by simpa using a) | rfl, fun _ => rfl⟩
      case fin31 =>
        intro a v31 hI
        obtain ⟨x64, x66, rfl, BW, h1, h3⟩ := hI
        obtain rfl := h1 (by decide)
        obtain rfl := h3 (by decide)
        clear h1 h3
        have hX := BW.out
        replace T := Lib.hid (T.out.low hX)
        replace OL' := Lib.hid (OL'.out.below hX)
        replace BL := Lib.hid (BL.out.below hX BL.out.lt)
        replace BP := Lib.hid (BP.out.below hX BP.out.lt)
        replace BS := Lib.hid (BS.out.below hX BS.out.lt)
        replace BG := Lib.hid (BG.out.below hX BG.out.lt)
        replace BN := Lib.hid (BN.out.below hX BN.out.lt)
        replace W := Lib.hid (W.out.trans (hX.mono W.out.size))
        clear hX BW
        try dsimp only
        refine wpAny_ready (rs := [4]) (by kernel_rfl) (by simp) ?_
        refine AllReady.cons (o := ?p34) ?q34 (fun K hK => ?_) AllReady.nil
        case q34 => simp only [zge]; rfl
        go_simp
        refine (CP.out v31 W.out T.out).mono ?_
        rintro e wq ⟨⟨bb, rfl⟩, hT, hG⟩
        replace OL' := Lib.hid (row_keeps T.out OL'.out (by decide) hG)
        replace BL := Lib.hid (put_keeps T.out BL.out (by decide) hG)
        replace BP := Lib.hid (put_keeps T.out BP.out (by decide) hG)
        replace BS := Lib.hid (put_keeps T.out BS.out (by decide) hG)
        replace BG := Lib.hid (put_keeps T.out BG.out (by decide) hG)
        replace BN := Lib.hid (put_keeps T.out BN.out (by decide) hG)
        replace W : Hid (Below w.heap.size w _) := W.out.grown hG W.out.size (fun q hq => by have h : g = q := Option.some.inj hq; omega)
        replace T := Lib.hid hT
        clear hT hG
        refine hK _ _ ?_
        clear hK K
        try simp only [zpt]
        refine wpAny_done (by kernel_rfl) ?_ _
        clear CP
        go_upto_region 13 with (fail)
        have hX := (Below.refl wq.heap.size wq).drew
        replace T := Lib.hid (T.out.low hX)
        replace OL' := Lib.hid (OL'.out.below hX)
        replace BL := Lib.hid (BL.out.below hX BL.out.lt)
        replace BP := Lib.hid (BP.out.below hX BP.out.lt)
        replace BS := Lib.hid (BS.out.below hX BS.out.lt)
        replace BG := Lib.hid (BG.out.below hX BG.out.lt)
        replace BN := Lib.hid (BN.out.below hX BN.out.lt)
        replace W := Lib.hid (W.out.trans (hX.mono W.out.size))
        clear hX
        refine wp_region_any (by kernel_rfl) ?_
        change wpAny _ _ _ _ _ _ _ (World.drew _)
        generalize wq.drew = wd4 at *
        refine wpAny_take (i := 0) (oi := ?oi35) (v := .bool true) ?hi35 (by kernel_rfl) (by kernel_rfl) (by kernel_rfl) ?hQ35 ?hy35 ?rest35
        case hi35 => simp only [zge]; rfl
        case hQ35 => exact fun _ _ _ h => h
        case hy35 => exact Or.inl ⟨by rfl, by intro w; go_simp⟩
        try simp only [zpt]
        refine wpAny_take (i := 1) (oi := ?oi36) (v := .bool true) ?hi36 (by kernel_rfl) (by kernel_rfl) (by kernel_rfl) ?hQ36 ?hy36 ?rest36
        case hi36 => simp only [zge]; rfl
        case hQ36 => exact fun _ _ _ h => h
        case hy36 => exact Or.inl ⟨by rfl, by intro w; go_simp⟩
        try simp only [zpt]
        refine phaseL (fun i => if i = 4 then [2, 3] else []) (fun d a w' => ∃ x70 x71 x72 : Value, a = { tmps := #[.slice A n c, .slice A' n' c', .int .i64 k, .int .i64 v, undef, undef, undef, undef, .bool false, .bool b0, .pointer (some ⟨g, 0, none⟩), .slice AL nl cl, .bool true, .pointer (some ⟨q1, 0, none⟩), .pointer (some ⟨q2, 0, none⟩), .pointer (some ⟨q3, 0, none⟩), .bool b0, .bool true, .pointer (some ⟨q4, 0, none⟩), .pointer (some ⟨q5, 0, none⟩), .bool true, .bool true, .bool true, .bool false, .tuple #[.pointer (some ⟨g, 0, none⟩), .slice AL nl cl, .bool true], .slice A n c, .slice A' n' c', .tuple #[.pointer (some ⟨g, 0, none⟩), .slice AL nl cl, .bool true], .pointer (some ⟨g, 0, none⟩), .slice AL nl cl, .bool true, .bool true, .bool false, .int .i64 k, .agg NC.toArray, .pointer (some ⟨g, 0, none⟩), .agg NC.toArray, .agg PP.toArray, .tuple #[.agg TC.toArray, .bool b0, .bool true], .pointer (some ⟨g, 0, none⟩), .agg RC.toArray, .agg NC.toArray, .agg PP.toArray, .tuple #[.agg TC.toArray, .bool b0, .bool true], .agg TC.toArray, .bool b0, .bool true, .tuple #[.agg TC.toArray, .bool b0], .pointer (some ⟨g, 0, none⟩), .agg NC.toArray, .tuple #[.agg TC.toArray, .bool b0], .agg TC.toArray, .bool b0, .tuple #[.agg QC.toArray, .bool true], .pointer (some ⟨g, 0, none⟩), .agg RC.toArray, .agg NC.toArray, .int .i64 v, .agg SC.toArray, .agg PP.toArray, .tuple #[.agg QC.toArray, .bool true], .agg QC.toArray, .bool true, .pointer (some ⟨g, 0, none⟩), .agg NC.toArray, .int .i64 v, .agg SC.toArray, .bool bb, .bool true, .bool true, x70, x71, x72, undef, undef, undef, undef, undef, undef, undef, undef, undef, undef, undef, undef, undef, undef, undef, undef, undef, undef, undef, undef, undef, undef, undef, undef, undef, undef], defers := [] } ∧ Hid (Below wd4.heap.size wd4 w') ∧ (d 2 = true → x70 = .agg TC.toArray) ∧ (d 3 = true → x71 = .agg TC.toArray) ∧ (d 4 = true → x72 = .bool true)) [2, 3, 4] ?step37 27 3 [2, 3, 4] _ _ _ rfl (by decide) (fun _ h => h) (Fits.of (by kernel_rfl)) ?init37 ?fin37
        case init37 => refine ⟨_, _, _, rfl, Below.refl _ _, ?_, ?_, ?_⟩ <;> (intro h; exact absurd h (by decide))
        case step37 =>
          intro i hi d a v37 hI hdi hdeps
          obtain ⟨x70, x71, x72, rfl, BW, h2, h3, h4⟩ := hI
          have hsw := BW.out.size
          simp only [List.mem_cons, List.not_mem_nil, or_false] at hi
          rcases hi with rfl | rfl | rfl
          · refine wpOp_step (o := ?os38) ?hos38 (fun K hK => ?_)
            case hos38 => simp only [zge]; rfl
            refine step_loadW (by kernel_rfl) 30 (.tmp 15) rfl q3 0 rfl TC _ Tryd.underlying30 rfl ITC.out (BS.out.below BW.out BS.out.lt |>.cells) (hK _ _ ?_)
            clear hK K
            try simp only [zpt]
            exact ⟨_, _, _, rfl, BW, fun _ => rfl, fun a => by first | exact h3 (by simpa using a) | rfl, fun a => by first | exact h4 (by simpa using a) | rfl⟩
          · refine wpOp_step (o := ?os39) ?hos39 (fun K hK => ?_)
            case hos39 => simp only [zge]; rfl
            refine step_loadW (by kernel_rfl) 30 (.tmp 18) rfl q4 0 rfl TC _ Tryd.underlying30 rfl ITC.out (BG.out.below BW.out BG.out.lt |>.cells) (hK _ _ ?_)
            clear hK K
            try simp only [zpt]
            exact ⟨_, _, _, rfl, BW, fun a => by first | exact h2 (by simpa using a) | rfl, fun _ => rfl, fun a => by first | exact h4 (by simpa using a) | rfl⟩
          · obtain rfl := h2 (hdeps 2 (by simp))
            obtain rfl := h3 (hdeps 3 (by simp))
            have e0 := E0.out
            refine wpOp_step (o := ?os40) ?hos40 (fun K hK => ?_)
            case hos40 => simp only [zge]; rfl
            go_simp
            refine hK _ _ ?_
            clear hK K
            try simp only [zpt]
            exact ⟨_, _, _, rfl, BW, fun a => by first | exact h2 (by simpa using a) | rfl, fun a => by first | exact h3 (by simpa using a) | rfl, fun _ => rfl⟩
        case fin37 =>
          intro a v37 hI
          obtain ⟨x70, x71, x72, rfl, BW, h2, h3, h4⟩ := hI
          obtain rfl := h2 (by decide)
          obtain rfl := h3 (by decide)
          obtain rfl := h4 (by decide)
          clear h2 h3 h4
          have hX := BW.out
          replace T := Lib.hid (T.out.low hX)
          replace OL' := Lib.hid (OL'.out.below hX)
          replace BL := Lib.hid (BL.out.below hX BL.out.lt)
          replace BP := Lib.hid (BP.out.below hX BP.out.lt)
          replace BS := Lib.hid (BS.out.below hX BS.out.lt)
          replace BG := Lib.hid (BG.out.below hX BG.out.lt)
          replace BN := Lib.hid (BN.out.below hX BN.out.lt)
          replace W := Lib.hid (W.out.trans (hX.mono W.out.size))
          clear hX BW
          try dsimp only
          refine wpAny_take (i := 5) (oi := ?oi41) (v := .bool true) ?hi41 (by kernel_rfl) (by kernel_rfl) (by kernel_rfl) ?hQ41 ?hy41 ?rest41
          case hi41 => simp only [zge]; rfl
          case hQ41 => exact fun _ _ _ h => h
          case hy41 => exact Or.inl ⟨by rfl, by intro w; go_simp⟩
          try simp only [zpt]
          refine wpAny_take (i := 6) (oi := ?oi42) (v := .bool true) ?hi42 (by kernel_rfl) (by kernel_rfl) (by kernel_rfl) ?hQ42 ?hy42 ?rest42
          case hi42 => simp only [zge]; rfl
          case hQ42 => exact fun _ _ _ h => h
          case hy42 => exact Or.inl ⟨by rfl, by intro w; go_simp⟩
          try simp only [zpt]
          refine wpAny_take (i := 7) (oi := ?oi43) (v := .bool b0) ?hi43 (by kernel_rfl) (by kernel_rfl) (by kernel_rfl) ?hQ43 ?hy43 ?rest43
          case hi43 => simp only [zge]; rfl
          case hQ43 => exact fun _ _ _ h => h
          case hy43 => exact Or.inl ⟨by rfl, by intro w; go_simp⟩
          try simp only [zpt]
          refine wpAny_take (i := 8) (oi := ?oi44) (v := .bool b0) ?hi44 (by kernel_rfl) (by kernel_rfl) (by kernel_rfl) ?hQ44 ?hy44 ?rest44
          case hi44 => simp only [zge]; rfl
          case hQ44 => exact fun _ _ _ h => h
          case hy44 => exact Or.inl ⟨by rfl, by intro w; go_simp⟩
          try simp only [zpt]
          refine wpAny_take (i := 9) (oi := ?oi45) (v := .bool true) ?hi45 (by kernel_rfl) (by kernel_rfl) (by kernel_rfl) ?hQ45 ?hy45 ?rest45
          case hi45 => simp only [zge]; rfl
          case hQ45 => exact fun _ _ _ h => h
          case hy45 => exact Or.inl ⟨by rfl, by intro w; go_simp⟩
          try simp only [zpt]
          refine wpAny_take (i := 10) (oi := ?oi46) (v := .bool true) ?hi46 (by kernel_rfl) (by kernel_rfl) (by kernel_rfl) ?hQ46 ?hy46 ?rest46
          case hi46 => simp only [zge]; rfl
          case hQ46 => exact fun _ _ _ h => h
          case hy46 => exact Or.inl ⟨by rfl, by intro w; go_simp⟩
          try simp only [zpt]
          refine wpAny_take (i := 11) (oi := ?oi47) (v := .bool true) ?hi47 (by kernel_rfl) (by kernel_rfl) (by kernel_rfl) ?hQ47 ?hy47 ?rest47
          case hi47 => simp only [zge]; rfl
          case hQ47 => exact fun _ _ _ h => h
          case hy47 => exact Or.inl ⟨by rfl, by intro w; go_simp⟩
          try simp only [zpt]
          refine wpAny_take (i := 12) (oi := ?oi48) (v := .bool true) ?hi48 (by kernel_rfl) (by kernel_rfl) (by kernel_rfl) ?hQ48 ?hy48 ?rest48
          case hi48 => simp only [zge]; rfl
          case hQ48 => exact fun _ _ _ h => h
          case hy48 => exact Or.inl ⟨by rfl, by intro w; go_simp⟩
          try simp only [zpt]
          refine wpAny_take (i := 13) (oi := ?oi49) (v := .bool true) ?hi49 (by kernel_rfl) (by kernel_rfl) (by kernel_rfl) ?hQ49 ?hy49 ?rest49
          case hi49 => simp only [zge]; rfl
          case hQ49 => exact fun _ _ _ h => h
          case hy49 => exact Or.inl ⟨by rfl, by intro w; go_simp⟩
          try simp only [zpt]
          refine wpAny_take (i := 14) (oi := ?oi50) (v := .bool true) ?hi50 (by kernel_rfl) (by kernel_rfl) (by kernel_rfl) ?hQ50 ?hy50 ?rest50
          case hi50 => simp only [zge]; rfl
          case hQ50 => exact fun _ _ _ h => h
          case hy50 => exact Or.inl ⟨by rfl, by intro w; go_simp⟩
          try simp only [zpt]
          refine wpAny_take (i := 16) (oi := ?oi51) (v := .pointer (some ⟨g, 0, none⟩)) ?hi51 (by kernel_rfl) (by kernel_rfl) (by kernel_rfl) ?hQ51 ?hy51 ?rest51
          case hi51 => simp only [zge]; rfl
          case hQ51 => exact fun _ _ _ h => h
          case hy51 => exact Or.inl ⟨by rfl, by intro w; go_simp⟩
          try simp only [zpt]
          refine phaseL (fun i => if i = 18 then [15, 17] else []) (fun d a w' => ∃ x83 x85 x86 : Value, a = { tmps := #[.slice A n c, .slice A' n' c', .int .i64 k, .int .i64 v, undef, undef, undef, undef, .bool false, .bool b0, .pointer (some ⟨g, 0, none⟩), .slice AL nl cl, .bool true, .pointer (some ⟨q1, 0, none⟩), .pointer (some ⟨q2, 0, none⟩), .pointer (some ⟨q3, 0, none⟩), .bool b0, .bool true, .pointer (some ⟨q4, 0, none⟩), .pointer (some ⟨q5, 0, none⟩), .bool true, .bool true, .bool true, .bool false, .tuple #[.pointer (some ⟨g, 0, none⟩), .slice AL nl cl, .bool true], .slice A n c, .slice A' n' c', .tuple #[.pointer (some ⟨g, 0, none⟩), .slice AL nl cl, .bool true], .pointer (some ⟨g, 0, none⟩), .slice AL nl cl, .bool true, .bool true, .bool false, .int .i64 k, .agg NC.toArray, .pointer (some ⟨g, 0, none⟩), .agg NC.toArray, .agg PP.toArray, .tuple #[.agg TC.toArray, .bool b0, .bool true], .pointer (some ⟨g, 0, none⟩), .agg RC.toArray, .agg NC.toArray, .agg PP.toArray, .tuple #[.agg TC.toArray, .bool b0, .bool true], .agg TC.toArray, .bool b0, .bool true, .tuple #[.agg TC.toArray, .bool b0], .pointer (some ⟨g, 0, none⟩), .agg NC.toArray, .tuple #[.agg TC.toArray, .bool b0], .agg TC.toArray, .bool b0, .tuple #[.agg QC.toArray, .bool true], .pointer (some ⟨g, 0, none⟩), .agg RC.toArray, .agg NC.toArray, .int .i64 v, .agg SC.toArray, .agg PP.toArray, .tuple #[.agg QC.toArray, .bool true], .agg QC.toArray, .bool true, .pointer (some ⟨g, 0, none⟩), .agg NC.toArray, .int .i64 v, .agg SC.toArray, .bool bb, .bool true, .bool true, .agg TC.toArray, .agg TC.toArray, .bool true, .bool true, .bool true, .bool b0, .bool b0, .bool true, .bool true, .bool true, .bool true, .bool true, .bool true, x83, .pointer (some ⟨g, 0, none⟩), x85, x86, undef, undef, undef, undef, undef, undef, undef, undef, undef, undef, undef, undef], defers := [] } ∧ Hid (Below v37.heap.size v37 w') ∧ (d 15 = true → x83 = .agg QC.toArray) ∧ (d 17 = true → x85 = .agg QC.toArray) ∧ (d 18 = true → x86 = .bool true)) [15, 17, 18] ?step52 13 3 [15, 17, 18] _ _ _ rfl (by decide) (fun _ h => h) (Fits.of (by kernel_rfl)) ?init52 ?fin52
          case init52 => refine ⟨_, _, _, rfl, Below.refl _ _, ?_, ?_, ?_⟩ <;> (intro h; exact absurd h (by decide))
          case step52 =>
            intro i hi d a v52 hI hdi hdeps
            obtain ⟨x83, x85, x86, rfl, BW, h15, h17, h18⟩ := hI
            have hsw := BW.out.size
            simp only [List.mem_cons, List.not_mem_nil, or_false] at hi
            rcases hi with rfl | rfl | rfl
            · refine wpOp_step (o := ?os53) ?hos53 (fun K hK => ?_)
              case hos53 => simp only [zge]; rfl
              refine step_loadW (by kernel_rfl) 30 (.tmp 19) rfl q5 0 rfl QC _ Tryd.underlying30 rfl IQC.out (BN.out.below BW.out BN.out.lt |>.cells) (hK _ _ ?_)
              clear hK K
              try simp only [zpt]
              exact ⟨_, _, _, rfl, BW, fun _ => rfl, fun a => by first | exact h17 (by simpa using a) | rfl, fun a => by first | exact h18 (by simpa using a) | rfl⟩
            · refine wpOp_step (o := ?os54) ?hos54 (fun K hK => ?_)
              case hos54 => simp only [zge]; rfl
              go_simp
              refine (CR'.out v52 (T.out.low BW.out)).mono ?_
              rintro e u52 ⟨rfl, hX⟩
              refine hK _ _ ?_
              clear hK K
              try simp only [zpt]
              exact ⟨_, _, _, rfl, BW.out.trans (hX.mono hsw), fun a => by first | exact h15 (by simpa using a) | rfl, fun _ => rfl, fun a => by first | exact h18 (by simpa using a) | rfl⟩
            · obtain rfl := h15 (hdeps 15 (by simp))
              obtain rfl := h17 (hdeps 17 (by simp))
              have e0 := E1.out
              refine wpOp_step (o := ?os55) ?hos55 (fun K hK => ?_)
              case hos55 => simp only [zge]; rfl
              go_simp
              refine hK _ _ ?_
              clear hK K
              try simp only [zpt]
              exact ⟨_, _, _, rfl, BW, fun a => by first | exact h15 (by simpa using a) | rfl, fun a => by first | exact h17 (by simpa using a) | rfl, fun _ => rfl⟩
          case fin52 =>
            intro a v52 hI
            obtain ⟨x83, x85, x86, rfl, BW, h15, h17, h18⟩ := hI
            obtain rfl := h15 (by decide)
            obtain rfl := h17 (by decide)
            obtain rfl := h18 (by decide)
            clear h15 h17 h18
            have hX := BW.out
            replace T := Lib.hid (T.out.low hX)
            replace OL' := Lib.hid (OL'.out.below hX)
            replace BL := Lib.hid (BL.out.below hX BL.out.lt)
            replace BP := Lib.hid (BP.out.below hX BP.out.lt)
            replace BS := Lib.hid (BS.out.below hX BS.out.lt)
            replace BG := Lib.hid (BG.out.below hX BG.out.lt)
            replace BN := Lib.hid (BN.out.below hX BN.out.lt)
            replace W := Lib.hid (W.out.trans (hX.mono W.out.size))
            clear hX BW
            try dsimp only
            refine wpAny_take (i := 19) (oi := ?oi56) (v := .bool true) ?hi56 (by kernel_rfl) (by kernel_rfl) (by kernel_rfl) ?hQ56 ?hy56 ?rest56
            case hi56 => simp only [zge]; rfl
            case hQ56 => exact fun _ _ _ h => h
            case hy56 => exact Or.inl ⟨by rfl, by intro w; go_simp⟩
            try simp only [zpt]
            refine wpAny_take (i := 20) (oi := ?oi57) (v := .bool true) ?hi57 (by kernel_rfl) (by kernel_rfl) (by kernel_rfl) ?hQ57 ?hy57 ?rest57
            case hi57 => simp only [zge]; rfl
            case hQ57 => exact fun _ _ _ h => h
            case hy57 => exact Or.inl ⟨by rfl, by intro w; go_simp⟩
            try simp only [zpt]
            refine wpAny_take (i := 22) (oi := ?oi58) (v := .slice AL nl cl) ?hi58 (by kernel_rfl) (by kernel_rfl) (by kernel_rfl) ?hQ58 ?hy58 ?rest58
            case hi58 => simp only [zge]; rfl
            case hQ58 => exact fun _ _ _ h => h
            case hy58 => exact Or.inl ⟨by rfl, by intro w; go_simp⟩
            try simp only [zpt]
            refine wpAny_take (i := 24) (oi := ?oi59) (v := .int .i64 v) ?hi59 (by kernel_rfl) (by kernel_rfl) (by kernel_rfl) ?hQ59 ?hy59 ?rest59
            case hi59 => simp only [zge]; rfl
            case hQ59 => exact fun _ _ _ h => h
            case hy59 => exact Or.inl ⟨by rfl, by intro w; go_simp⟩
            try simp only [zpt]
            refine phaseL (fun i => if i = 26 then [23, 25] else if i = 27 then [26, 25] else if i = 28 then [27] else if i = 29 then [21, 28] else []) (fun d a w' => ∃ x89 x91 x93 x94 x95 x96 x97 : Value, a = { tmps := #[.slice A n c, .slice A' n' c', .int .i64 k, .int .i64 v, undef, undef, undef, undef, .bool false, .bool b0, .pointer (some ⟨g, 0, none⟩), .slice AL nl cl, .bool true, .pointer (some ⟨q1, 0, none⟩), .pointer (some ⟨q2, 0, none⟩), .pointer (some ⟨q3, 0, none⟩), .bool b0, .bool true, .pointer (some ⟨q4, 0, none⟩), .pointer (some ⟨q5, 0, none⟩), .bool true, .bool true, .bool true, .bool false, .tuple #[.pointer (some ⟨g, 0, none⟩), .slice AL nl cl, .bool true], .slice A n c, .slice A' n' c', .tuple #[.pointer (some ⟨g, 0, none⟩), .slice AL nl cl, .bool true], .pointer (some ⟨g, 0, none⟩), .slice AL nl cl, .bool true, .bool true, .bool false, .int .i64 k, .agg NC.toArray, .pointer (some ⟨g, 0, none⟩), .agg NC.toArray, .agg PP.toArray, .tuple #[.agg TC.toArray, .bool b0, .bool true], .pointer (some ⟨g, 0, none⟩), .agg RC.toArray, .agg NC.toArray, .agg PP.toArray, .tuple #[.agg TC.toArray, .bool b0, .bool true], .agg TC.toArray, .bool b0, .bool true, .tuple #[.agg TC.toArray, .bool b0], .pointer (some ⟨g, 0, none⟩), .agg NC.toArray, .tuple #[.agg TC.toArray, .bool b0], .agg TC.toArray, .bool b0, .tuple #[.agg QC.toArray, .bool true], .pointer (some ⟨g, 0, none⟩), .agg RC.toArray, .agg NC.toArray, .int .i64 v, .agg SC.toArray, .agg PP.toArray, .tuple #[.agg QC.toArray, .bool true], .agg QC.toArray, .bool true, .pointer (some ⟨g, 0, none⟩), .agg NC.toArray, .int .i64 v, .agg SC.toArray, .bool bb, .bool true, .bool true, .agg TC.toArray, .agg TC.toArray, .bool true, .bool true, .bool true, .bool b0, .bool b0, .bool true, .bool true, .bool true, .bool true, .bool true, .bool true, .agg QC.toArray, .pointer (some ⟨g, 0, none⟩), .agg QC.toArray, .bool true, .bool true, .bool true, x89, .slice AL nl cl, x91, .int .i64 v, x93, x94, x95, x96, x97, undef], defers := [] } ∧ Hid (Below v52.heap.size v52 w') ∧ (d 21 = true → x89 = .agg QC.toArray) ∧ (d 23 = true → x91 = .agg NC.toArray) ∧ (d 25 = true → x93 = .agg SC.toArray) ∧ (d 26 = true → x94 = .agg PL.toArray) ∧ (d 27 = true → Hid (PairsAt w' x95 l')) ∧ (d 28 = true → x96 = .agg QC.toArray) ∧ (d 29 = true → x97 = .bool true)) [21, 23, 25, 26, 27, 28, 29] ?step60 2 7 [21, 23, 25, 26, 27, 28, 29] _ _ _ rfl (by decide) (fun _ h => h) (Fits.of (by kernel_rfl)) ?init60 ?fin60
            case init60 => refine ⟨_, _, _, _, _, _, _, rfl, Below.refl _ _, ?_, ?_, ?_, ?_, ?_, ?_, ?_⟩ <;> (intro h; exact absurd h (by decide))
            case step60 =>
              intro i hi d a v60 hI hdi hdeps
              obtain ⟨x89, x91, x93, x94, x95, x96, x97, rfl, BW, h21, h23, h25, h26, h27, h28, h29⟩ := hI
              have hsw := BW.out.size
              simp only [List.mem_cons, List.not_mem_nil, or_false] at hi
              rcases hi with rfl | rfl | rfl | rfl | rfl | rfl | rfl
              · refine wpOp_step (o := ?os61) ?hos61 (fun K hK => ?_)
                case hos61 => simp only [zge]; rfl
                refine step_loadW (by kernel_rfl) 30 (.tmp 19) rfl q5 0 rfl QC _ Tryd.underlying30 rfl IQC.out (BN.out.below BW.out BN.out.lt |>.cells) (hK _ _ ?_)
                clear hK K
                try simp only [zpt]
                exact ⟨_, _, _, _, _, _, _, rfl, BW, fun _ => rfl, fun a => by first | exact h23 (by simpa using a) | rfl, fun a => by first | exact h25 (by simpa using a) | rfl, fun a => by first | exact h26 (by simpa using a) | rfl, fun a => h27 (by simpa using a), fun a => by first | exact h28 (by simpa using a) | rfl, fun a => by first | exact h29 (by simpa using a) | rfl⟩
              · refine wpOp_step (o := ?os62) ?hos62 (fun K hK => ?_)
                case hos62 => simp only [zge]; rfl
                refine step_loadW (by kernel_rfl) 30 (.tmp 13) rfl q1 0 rfl NC _ Tryd.underlying30 rfl INC.out (BL.out.below BW.out BL.out.lt |>.cells) (hK _ _ ?_)
                clear hK K
                try simp only [zpt]
                exact ⟨_, _, _, _, _, _, _, rfl, BW, fun a => by first | exact h21 (by simpa using a) | rfl, fun _ => rfl, fun a => by first | exact h25 (by simpa using a) | rfl, fun a => by first | exact h26 (by simpa using a) | rfl, fun a => h27 (by simpa using a), fun a => by first | exact h28 (by simpa using a) | rfl, fun a => by first | exact h29 (by simpa using a) | rfl⟩
              · refine wpOp_step (o := ?os63) ?hos63 (fun K hK => ?_)
                case hos63 => simp only [zge]; rfl
                go_simp
                refine (CS.out v60 ).mono ?_
                rintro e u60 ⟨rfl, hX⟩
                refine hK _ _ ?_
                clear hK K
                try simp only [zpt]
                exact ⟨_, _, _, _, _, _, _, rfl, BW.out.trans (hX.mono hsw), fun a => by first | exact h21 (by simpa using a) | rfl, fun a => by first | exact h23 (by simpa using a) | rfl, fun _ => rfl, fun a => by first | exact h26 (by simpa using a) | rfl, fun a => (h27 (by simpa using a)).out.below hX, fun a => by first | exact h28 (by simpa using a) | rfl, fun a => by first | exact h29 (by simpa using a) | rfl⟩
              · obtain rfl := h23 (hdeps 23 (by simp))
                obtain rfl := h25 (hdeps 25 (by simp))
                refine wpOp_step (o := ?os64) ?hos64 (fun K hK => ?_)
                case hos64 => simp only [zge]; rfl
                refine step_build (by kernel_rfl) 47 #[(0, .tmp 91), (1, .tmp 93)] rfl PL (by simp only [List.map_toArray, List.map_cons, List.map_nil]; exact HBP.out) (hK _ _ ?_)
                clear hK K
                try simp only [zpt]
                exact ⟨_, _, _, _, _, _, _, rfl, BW, fun a => by first | exact h21 (by simpa using a) | rfl, fun a => by first | exact h23 (by simpa using a) | rfl, fun a => by first | exact h25 (by simpa using a) | rfl, fun _ => rfl, fun a => h27 (by simpa using a), fun a => by first | exact h28 (by simpa using a) | rfl, fun a => by first | exact h29 (by simpa using a) | rfl⟩
              · obtain rfl := h26 (hdeps 26 (by simp))
                refine wpOp_step (o := ?os65) ?hos65 (fun K hK => ?_)
                case hos65 => simp only [zge]; rfl
                go_simp
                refine (DW.out v60 ((OL'.out.below BW.out).rds.1)).mono ?_
                rintro e u60 ⟨xr, rfl, hS, hX⟩
                refine hK _ _ ?_
                clear hK K
                try simp only [zpt]
                exact ⟨_, _, _, _, _, _, _, rfl, BW.out.trans (hX.mono hsw), fun a => by first | exact h21 (by simpa using a) | rfl, fun a => by first | exact h23 (by simpa using a) | rfl, fun a => by first | exact h25 (by simpa using a) | rfl, fun a => by first | exact h26 (by simpa using a) | rfl, fun _ => hS, fun a => by first | exact h28 (by simpa using a) | rfl, fun a => by first | exact h29 (by simpa using a) | rfl⟩
              · obtain ⟨A2, c2, hx2, hR2⟩ := (h27 (hdeps 27 (by simp))).out
                obtain rfl := hx2
                refine wpOp_step (o := ?os66) ?hos66 (fun K hK => ?_)
                case hos66 => simp only [zge]; rfl
                go_simp
                refine (DR.out v60 A2 c2 hR2).mono ?_
                rintro e u60 ⟨rfl, hX⟩
                refine hK _ _ ?_
                clear hK K
                try simp only [zpt]
                exact ⟨_, _, _, _, _, _, _, rfl, BW.out.trans (hX.mono hsw), fun a => by first | exact h21 (by simpa using a) | rfl, fun a => by first | exact h23 (by simpa using a) | rfl, fun a => by first | exact h25 (by simpa using a) | rfl, fun a => by first | exact h26 (by simpa using a) | rfl, fun a => (h27 (by simpa using a)).out.below hX, fun _ => rfl, fun a => by first | exact h29 (by simpa using a) | rfl⟩
              · obtain rfl := h21 (hdeps 21 (by simp))
                obtain rfl := h28 (hdeps 28 (by simp))
                have e0 := E1.out
                refine wpOp_step (o := ?os67) ?hos67 (fun K hK => ?_)
                case hos67 => simp only [zge]; rfl
                go_simp
                refine hK _ _ ?_
                clear hK K
                try simp only [zpt]
                exact ⟨_, _, _, _, _, _, _, rfl, BW, fun a => by first | exact h21 (by simpa using a) | rfl, fun a => by first | exact h23 (by simpa using a) | rfl, fun a => by first | exact h25 (by simpa using a) | rfl, fun a => by first | exact h26 (by simpa using a) | rfl, fun a => h27 (by simpa using a), fun a => by first | exact h28 (by simpa using a) | rfl, fun _ => rfl⟩
            case fin60 =>
              intro a v60 hI
              obtain ⟨x89, x91, x93, x94, x95, x96, x97, rfl, BW, h21, h23, h25, h26, h27, h28, h29⟩ := hI
              obtain rfl := h21 (by decide)
              obtain rfl := h23 (by decide)
              obtain rfl := h25 (by decide)
              obtain rfl := h26 (by decide)
              obtain rfl := h28 (by decide)
              obtain rfl := h29 (by decide)
              clear h21 h23 h25 h26 h28 h29
              have hX := BW.out
              replace T := Lib.hid (T.out.low hX)
              replace OL' := Lib.hid (OL'.out.below hX)
              replace BL := Lib.hid (BL.out.below hX BL.out.lt)
              replace BP := Lib.hid (BP.out.below hX BP.out.lt)
              replace BS := Lib.hid (BS.out.below hX BS.out.lt)
              replace BG := Lib.hid (BG.out.below hX BG.out.lt)
              replace BN := Lib.hid (BN.out.below hX BN.out.lt)
              replace W := Lib.hid (W.out.trans (hX.mono W.out.size))
              clear hX BW
              try dsimp only
              refine wpAny_take (i := 30) (oi := ?oi68) (v := .bool true) ?hi68 (by kernel_rfl) (by kernel_rfl) (by kernel_rfl) ?hQ68 ?hy68 ?rest68
              case hi68 => simp only [zge]; rfl
              case hQ68 => exact fun _ _ _ h => h
              case hy68 => exact Or.inl ⟨by rfl, by intro w; go_simp⟩
              try simp only [zpt]
              refine wpAny_take (i := 31) (oi := ?oi69) (v := .bool true) ?hi69 (by kernel_rfl) (by kernel_rfl) (by kernel_rfl) ?hQ69 ?hy69 ?rest69
              case hi69 => simp only [zge]; rfl
              case hQ69 => exact fun _ _ _ h => h
              case hy69 => exact Or.inl ⟨by rfl, by intro w; go_simp⟩
              try simp only [zpt]
              refine wpAny_done (by kernel_rfl) ?_ _
              go_wp2_with fail
              go_ret
              exact ⟨rfl, W.out⟩
end Go.Proofs.YtmidbpjdpakkoaaDoor.proofAll
