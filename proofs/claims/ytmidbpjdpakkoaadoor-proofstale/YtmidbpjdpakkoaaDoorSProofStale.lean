import Derived.Test.YtmidbpjdpakkoaaDoorSTbg
namespace Go.Proofs.YtmidbpjdpakkoaaDoor.proofStale
set_option linter.unusedVariables false
set_option linter.unusedSimpArgs false
set_option maxRecDepth 100000
open Go.RowKit
set_option maxRecDepth 100000 in
set_option maxHeartbeats 4000000 in
theorem walk (hB : BegunOk) {A A' : Option Addr} {n c n' c' : Nat} {ks vs : List Int} (k other v : Int) (w : World) (hg : Gl w) (ha : RdZ w A n c ks) (hb : RdZ w A' n' c' vs) (hk1 : -9223372036854775808 ≤ k) (hk2 : k ≤ 9223372036854775807) (ho1 : -9223372036854775808 ≤ other) (ho2 : other ≤ 9223372036854775807) :
    Calls Tryd.prog 13 #[.slice A n c, .slice A' n' c', .int .i64 k, .int .i64 other, .int .i64 v] w fun e w' => e = .returned (.bool true) ∧ Below w.heap.size w w' := by
  have HG := Lib.hid hg
  have hsz := hg.size
  have CG : Hid (∀ W, Below w.heap.size w W → Calls Tryd.prog 14 #[] W fun e w' => e = .returned (.bool true) ∧ Below W.heap.size W w') := fun W hW => hB (hg.below hW hsz)
  have CGR : Hid (∀ W, Below w.heap.size w W → Calls Tryd.prog 15 #[.slice A n c, .slice A' n' c', .int .i64 8] W fun e w' => ∃ g v l, e = .returned (.tuple #[.pointer (some ⟨g, 0, none⟩), v, .bool true]) ∧ W.heap.size ≤ g ∧ TreeAt w' g l ∧ Ow2 w' W.heap.size 47 64 v (pairs l) ∧ l.length ≤ 8 ∧ Below W.heap.size W w') := fun W hW => grown_any (hg.below hW hsz) (ha.below hW) (hb.below hW) (most := 8) (by omega)
  have BZ0 := Lib.hid zero_built
  have IZ := Lib.hid zero_info
  have OZ := Lib.hid zero_one
  have HZL : Hid ((List.replicate 32 (Value.int .u8 0)).length = 32) := rfl
  have HZN : Hid (Tm.none32.map cellOf = (List.replicate 32 (Value.int .u8 0))) := rfl
  have ZB0 : Hid (∀ W : World, Blk (W.alloc (.cells (List.replicate 32 (Value.int .u8 0)).toArray 30)) W.heap.size 30 (List.replicate 32 (Value.int .u8 0))) := fun W => Blk.new W 30 _
  have ZPB : Hid (∀ W : World, Blk (W.alloc (.cells (proofL (.slice none 0 0) false (List.replicate 32 (Value.int .u8 0)) (List.replicate 32 (Value.int .u8 0))).toArray 38)) W.heap.size 38 (proofL (.slice none 0 0) false (List.replicate 32 (Value.int .u8 0)) (List.replicate 32 (Value.int .u8 0)))) := fun W => Blk.new W 38 _
  have HZP : Hid ((proofL (.slice none 0 0) false (List.replicate 32 (Value.int .u8 0)) (List.replicate 32 (Value.int .u8 0))).length = 66) := rfl
  obtain ⟨Z, hZ⟩ : ∃ Z, Z = List.replicate 32 (Value.int .u8 0) := ⟨_, rfl⟩
  rw [← hZ] at BZ0 IZ OZ HZL HZN
  have ZB : Hid (∀ W : World, Blk (W.alloc (.cells (List.replicate 32 (Value.int .u8 0)).toArray 30)) W.heap.size 30 Z) := fun W => by rw [hZ]; exact ZB0.out W
  have HZE : Hid ((List.replicate 32 (Value.int .u8 0)) = Z) := hZ.symm
  obtain ⟨ZP, hZP⟩ : ∃ Z, Z = (proofL (.slice none 0 0) false (List.replicate 32 (Value.int .u8 0)) (List.replicate 32 (Value.int .u8 0))) := ⟨_, rfl⟩
  have ZPB' : Hid (∀ W : World, Blk (W.alloc (.cells (proofL (.slice none 0 0) false (List.replicate 32 (Value.int .u8 0)) (List.replicate 32 (Value.int .u8 0))).toArray 38)) W.heap.size 38 ZP) := fun W => by rw [hZP]; exact ZPB.out W
  have HZPE : Hid ((proofL (.slice none 0 0) false (List.replicate 32 (Value.int .u8 0)) (List.replicate 32 (Value.int .u8 0))) = ZP) := hZP.symm
  rw [← hZP] at HZP
  have W := Lib.hid (Below.refl w.heap.size w)
  clear hg ha hb hZ hZP ZB0 ZPB
  go_enter Tryd.func13, Tryd.ntmps13
  go_upto_region 4 with (first
    | (go_at_call 14; refine (CG.out w W.out).mono ?_; rintro e w2 ⟨rfl, hX⟩; replace W := Lib.hid (W.out.trans (hX.mono W.out.size)); clear hX))
  go_upto_region 7 with (first
    | (go_at_call 15; refine (CGR.out w2 W.out).mono ?_; rintro e w3 ⟨g, vl, l, rfl, hgw0, hT, hO, hlen, hX⟩; obtain ⟨AL, cl, hvl0, hRL, _⟩ := hO.rd; obtain rfl := hvl0; have T := Lib.hid hT; have RL := Lib.hid hRL; have HLN := Lib.hid hlen; have hgw := Nat.le_trans W.out.size hgw0; have W2S := W.out.size; replace W := Lib.hid (W.out.trans (hX.mono W.out.size)); have OL := Lib.hid (hO.base W2S); clear hT hO hX hRL hgw0 hlen W2S CGR CG))
  obtain ⟨nl, hnl⟩ : ∃ z, z = (pairs l).length := ⟨_, rfl⟩
  have HNL : Hid (nl = l.length) := by unfold Hid; rw [hnl]; simp [pairs]
  rw [← hnl] at RL ⊢
  have OL' : Hid (Ow2 w3 w.heap.size 47 64 (.slice AL nl cl) (pairs l)) := by rw [hnl]; exact OL.out
  clear hnl OL
  have hfit := T.out.fit
  have hkl := nm_length k
  have hol := nm_length other
  have hvl := sm_length v
  have hrl := Tm.root_length 0 l
  obtain ⟨l', hl'⟩ : ∃ l', l' = Tm.put (nm other, sm v) l := ⟨_, rfl⟩
  have hrl' := Tm.root_length 0 l'
  obtain ⟨P, hP⟩ : ∃ P, P = Tm.prove l (nm k) := ⟨_, rfl⟩
  have CN : Hid (∀ W, Calls Tryd.prog 20 #[.int .i64 k] W fun e w' => e = .returned (hv (nm k)) ∧ Below W.heap.size W w') := fun W => nm_any k hk1 hk2 W
  have CO : Hid (∀ W, Calls Tryd.prog 20 #[.int .i64 other] W fun e w' => e = .returned (hv (nm other)) ∧ Below W.heap.size W w') := fun W => nm_any other ho1 ho2 W
  have CS : Hid (∀ W, Calls Tryd.prog 27 #[.int .i64 v] W fun e w' => e = .returned (hv (sm v)) ∧ Below W.heap.size W w') := fun W => sm_any v W
  have CV : Hid (∀ W, TreeAt W g l → Calls Tryd.prog 21 #[.pointer (some ⟨g, 0, none⟩), hv (nm k)] W fun e w' => ∃ PP : List Value, e = .returned (.agg PP.toArray) ∧ PrfAt w' W.heap.size (.agg PP.toArray) P ∧ (Tryd.prog.info? 38).map (·.size) = some PP.length ∧ (∀ v ∈ PP, v.oneCell' = true) ∧ PP.length = 66 ∧ Below W.heap.size W w') := fun W hT => by rw [hP]; exact prove_row hT hkl
  have CR : Hid (∀ W, TreeAt W g l → Calls Tryd.prog 17 #[.pointer (some ⟨g, 0, none⟩)] W fun e w' => e = .returned (hv (Tm.root 0 l)) ∧ Below W.heap.size W w') := fun W hT => troot_any hT
  have CR' : Hid (∀ W, TreeAt W g l' → Calls Tryd.prog 17 #[.pointer (some ⟨g, 0, none⟩)] W fun e w' => e = .returned (hv (Tm.root 0 l')) ∧ Below W.heap.size W w') := fun W hT => troot_any hT
  have CP : Hid (∀ W, Below w.heap.size w W → TreeAt W g l → Calls Tryd.prog 26 #[.pointer (some ⟨g, 0, none⟩), hv (nm other), hv (sm v)] W fun e w' => (∃ b, e = .returned (.bool b)) ∧ TreeAt w' g l' ∧ W.grownBy w' (some g)) := fun W h hT => (tput_any (HG.out.below h hsz) hT (Nat.le_trans hsz hgw) (by have := HLN.out; omega) hol hvl).mono fun e w' ⟨h1, h2⟩ => ⟨⟨_, h1⟩, by rw [hl']; exact h2⟩
  have hPI : ∀ W B x, PrfAt W B x P → PrfIn W x P := fun W B x h => by rw [hP] at h ⊢; exact prove_in hfit h
  have CK : Hid (∀ W B x, Below w.heap.size w W → PrfAt W B x P → Calls Tryd.prog 29 #[hv (Tm.root 0 l), hv (nm k), x] W fun e w' => e = .returned (.tuple #[hv (P.told (Tm.root 0 l) (nm k)), .bool (P.holds (Tm.root 0 l) (nm k) && P.there (nm k)), .bool true]) ∧ Below W.heap.size W w') := fun W B x h hQ => by
    have := pcheck_any (HG.out.below h hsz) (hPI W B x hQ) hrl hkl
    have hh : P.holds (Tm.root 0 l) (nm k) = true := by rw [hP]; exact Tm.prove_holds hfit _
    rw [hh] at this ⊢
    exact this
  have CK' : Hid (∀ W B x, Below w.heap.size w W → PrfAt W B x P → Calls Tryd.prog 29 #[hv (Tm.root 0 l'), hv (nm k), x] W fun e w' => e = .returned (.tuple #[hv (P.told (Tm.root 0 l') (nm k)), .bool (P.holds (Tm.root 0 l') (nm k) && P.there (nm k)), .bool (P.holds (Tm.root 0 l') (nm k))]) ∧ Below W.heap.size W w') := fun W B x h hQ => pcheck_any (HG.out.below h hsz) (hPI W B x hQ) hrl' hkl
  have DK' : Hid (∀ W B x, PrfAt W B x P → Calls Tryd.prog 23 #[hv (Tm.root 0 l'), hv (nm k), x] W fun e w' => e = .returned (.tuple #[hv (P.told (Tm.root 0 l') (nm k)), .bool (P.holds (Tm.root 0 l') (nm k) && P.there (nm k)), .bool (P.holds (Tm.root 0 l') (nm k))]) ∧ Below W.heap.size W w') := fun W B x hQ => rcheck_any (hPI W B x hQ) hrl' hkl
  have DK : Hid (∀ W B x, PrfAt W B x P → Calls Tryd.prog 23 #[hv (Tm.root 0 l), hv (nm k), x] W fun e w' => e = .returned (.tuple #[hv (P.told (Tm.root 0 l) (nm k)), .bool (P.holds (Tm.root 0 l) (nm k) && P.there (nm k)), .bool (P.holds (Tm.root 0 l) (nm k))]) ∧ Below W.heap.size W w') := fun W B x hQ => rcheck_any (hPI W B x hQ) hrl hkl
  have DR : Hid (∀ W, Rd2 W 64 AL nl cl (pairs l) → Calls Tryd.prog 18 #[.slice AL nl cl, .int .i64 0] W fun e w' => e = .returned (hv (Tm.root 0 l)) ∧ Below W.heap.size W w') := fun W hR => rroot_any 257 l 0 rfl hR hfit (by have := HLN.out; have := HNL.out; omega)
  have hpl : P.sum.length = 32 := by
    rw [hP]
    unfold Tm.prove
    cases he : Tm.ends 0 (nm k) l with
    | none => rfl
    | some q => exact (hfit.len q (Tm.ends_mem 257 0 (nm k) l q rfl hfit he).1).2
  have ht0 := told_length hpl (Tm.root 0 l) (nm k)
  have ht1 := told_length hpl (Tm.root 0 l') (nm k)
  have E0 := Lib.hid (hash_eq (P.told (Tm.root 0 l) (nm k)) (P.told (Tm.root 0 l) (nm k)) ht0 ht0)
  have E1 := Lib.hid (hash_eq (P.told (Tm.root 0 l') (nm k)) (P.told (Tm.root 0 l') (nm k)) ht1 ht1)
  rw [decide_eq_true rfl] at E0 E1
  unfold hv at CN CO CS CV CR CR' CP CK CK' DK DK' DR
  have INC := Lib.hid (hash_info (hkl))
  have ONC := Lib.hid (cells_u8 (nm k))
  have LNC : Hid (Z.length = ((nm k).map cellOf).length) := by unfold Hid; rw [List.length_map, hkl, HZL.out]
  obtain ⟨NC, hNC⟩ : ∃ L, L = (nm k).map cellOf := ⟨_, rfl⟩
  have NNC : Hid (NC.length = 32) := by unfold Hid; rw [hNC, List.length_map, hkl]
  rw [← hNC] at INC ONC LNC CN CV CK CK' DK DK'
  have ENC := Lib.hid hNC
  clear hNC
  have IOC := Lib.hid (hash_info (hol))
  have OOC := Lib.hid (cells_u8 (nm other))
  have LOC : Hid (Z.length = ((nm other).map cellOf).length) := by unfold Hid; rw [List.length_map, hol, HZL.out]
  obtain ⟨OC, hOC⟩ : ∃ L, L = (nm other).map cellOf := ⟨_, rfl⟩
  have NOC : Hid (OC.length = 32) := by unfold Hid; rw [hOC, List.length_map, hol]
  rw [← hOC] at IOC OOC LOC CO CP
  have EOC := Lib.hid hOC
  clear hOC
  have ISC := Lib.hid (hash_info (hvl))
  have OSC := Lib.hid (cells_u8 (sm v))
  have LSC : Hid (Z.length = ((sm v).map cellOf).length) := by unfold Hid; rw [List.length_map, hvl, HZL.out]
  obtain ⟨SC, hSC⟩ : ∃ L, L = (sm v).map cellOf := ⟨_, rfl⟩
  have NSC : Hid (SC.length = 32) := by unfold Hid; rw [hSC, List.length_map, hvl]
  rw [← hSC] at ISC OSC LSC CS CP
  have ESC := Lib.hid hSC
  clear hSC
  have IRC := Lib.hid (hash_info (hrl))
  have ORC := Lib.hid (cells_u8 (Tm.root 0 l))
  have LRC : Hid (Z.length = ((Tm.root 0 l).map cellOf).length) := by unfold Hid; rw [List.length_map, hrl, HZL.out]
  obtain ⟨RC, hRC⟩ : ∃ L, L = (Tm.root 0 l).map cellOf := ⟨_, rfl⟩
  have NRC : Hid (RC.length = 32) := by unfold Hid; rw [hRC, List.length_map, hrl]
  rw [← hRC] at IRC ORC LRC CR CK DK DR
  have ERC := Lib.hid hRC
  clear hRC
  have IQC := Lib.hid (hash_info (hrl'))
  have OQC := Lib.hid (cells_u8 (Tm.root 0 l'))
  have LQC : Hid (Z.length = ((Tm.root 0 l').map cellOf).length) := by unfold Hid; rw [List.length_map, hrl', HZL.out]
  obtain ⟨QC, hQC⟩ : ∃ L, L = (Tm.root 0 l').map cellOf := ⟨_, rfl⟩
  have NQC : Hid (QC.length = 32) := by unfold Hid; rw [hQC, List.length_map, hrl']
  rw [← hQC] at IQC OQC LQC CR' CK' DK'
  have EQC := Lib.hid hQC
  clear hQC
  have ITC := Lib.hid (hash_info (ht0))
  have OTC := Lib.hid (cells_u8 (P.told (Tm.root 0 l) (nm k)))
  have LTC : Hid (Z.length = ((P.told (Tm.root 0 l) (nm k)).map cellOf).length) := by unfold Hid; rw [List.length_map, ht0, HZL.out]
  obtain ⟨TC, hTC⟩ : ∃ L, L = (P.told (Tm.root 0 l) (nm k)).map cellOf := ⟨_, rfl⟩
  have NTC : Hid (TC.length = 32) := by unfold Hid; rw [hTC, List.length_map, ht0]
  rw [← hTC] at ITC OTC LTC CK DK E0
  have ETC := Lib.hid hTC
  clear hTC
  have IUC := Lib.hid (hash_info (ht1))
  have OUC := Lib.hid (cells_u8 (P.told (Tm.root 0 l') (nm k)))
  have LUC : Hid (Z.length = ((P.told (Tm.root 0 l') (nm k)).map cellOf).length) := by unfold Hid; rw [List.length_map, ht1, HZL.out]
  obtain ⟨UC, hUC⟩ : ∃ L, L = (P.told (Tm.root 0 l') (nm k)).map cellOf := ⟨_, rfl⟩
  have NUC : Hid (UC.length = 32) := by unfold Hid; rw [hUC, List.length_map, ht1]
  rw [← hUC] at IUC OUC LUC CK' DK' E1
  have EUC := Lib.hid hUC
  clear hUC
  obtain ⟨b0, hb0⟩ : ∃ b, b = (P.holds (Tm.root 0 l) (nm k) && P.there (nm k)) := ⟨_, rfl⟩
  obtain ⟨b1, hb1⟩ : ∃ b, b = (P.holds (Tm.root 0 l') (nm k) && P.there (nm k)) := ⟨_, rfl⟩
  obtain ⟨b2, hb2⟩ : ∃ b, b = P.holds (Tm.root 0 l') (nm k) := ⟨_, rfl⟩
  obtain ⟨b3, hb3⟩ : ∃ b, b = P.holds (Tm.root 0 l) (nm k) := ⟨_, rfl⟩
  rw [← hb0] at CK DK
  rw [← hb3] at DK
  rw [← hb1, ← hb2] at CK' DK'
  clear hb0 hb1 hb2 hb3 hPI hP hl' hkl hol hvl hrl hrl' hpl ht0 ht1
  go_upto_region 8 with (first
    | (go_at_call 20; refine (CN.out w3).mono ?_; rintro e w4 ⟨rfl, hX⟩; replace T := Lib.hid (T.out.low hX); replace OL' := Lib.hid (OL'.out.below hX); replace W := Lib.hid (W.out.trans (hX.mono W.out.size)); clear hX)
    | (go_at_call 21; refine (CV.out w4 T.out).mono ?_; rintro e w5 ⟨PP, rfl, hPI, hp1, hp2, hp3, hX⟩; replace T := Lib.hid (T.out.low hX); replace OL' := Lib.hid (OL'.out.below hX); replace W := Lib.hid (W.out.trans (hX.mono W.out.size)); clear hX; have PI := Lib.hid hPI; have IPP := Lib.hid hp1; have OPP := Lib.hid hp2; have LPP : Hid (ZP.length = PP.length) := HZP.out.trans hp3.symm; clear hPI hp1 hp2 hp3)
    | (go_at_call 17; refine (CR.out w5 T.out).mono ?_; rintro e w6 ⟨rfl, hX⟩; replace T := Lib.hid (T.out.low hX); replace OL' := Lib.hid (OL'.out.below hX); replace W := Lib.hid (W.out.trans (hX.mono W.out.size)); replace PI := Lib.hid (PI.out.below hX); clear hX)
    | ((with_reducible refine storeAll_law rfl 38 (.tmp 15) (.tmp 44) rfl w6.heap.size rfl PP rfl 38 ZP ?_ IPP.out LPP.out OPP.out ?_); exact (ZPB'.out w6).alloc _)
    | ((with_reducible refine storeAll_law rfl 30 (.tmp 16) (.tmp 46) rfl (w6.heap.size + 1) rfl RC rfl 30 Z ?_ IRC.out LRC.out ORC.out ?_); exact (show Blk _ (w6.heap.size + 1) 30 Z by have := ZB.out (w6.alloc (.cells (proofL (.slice none 0 0) false (List.replicate 32 (Value.int .u8 0)) (List.replicate 32 (Value.int .u8 0))).toArray 38)); rwa [World.size_alloc] at this).rowFar (by omega) _))
  obtain ⟨h1u, h2u, hX⟩ := two_new w6 38 30 (proofL (.slice none 0 0) false (List.replicate 32 (Value.int .u8 0)) (List.replicate 32 (Value.int .u8 0))) (List.replicate 32 (Value.int .u8 0)) PP RC
  change Code.wp _ _ _ _ ((((w6.alloc (.cells (proofL (.slice none 0 0) false (List.replicate 32 (Value.int .u8 0)) (List.replicate 32 (Value.int .u8 0))).toArray 38)).alloc (.cells (List.replicate 32 (Value.int .u8 0)).toArray 30)).setRow w6.heap.size PP.toArray).setRow (w6.heap.size + 1) RC.toArray)
  have BP := Lib.hid h1u
  have BR := Lib.hid h2u
  clear h1u h2u
  generalize (((w6.alloc (.cells (proofL (.slice none 0 0) false (List.replicate 32 (Value.int .u8 0)) (List.replicate 32 (Value.int .u8 0))).toArray 38)).alloc (.cells (List.replicate 32 (Value.int .u8 0)).toArray 30)).setRow w6.heap.size PP.toArray).setRow (w6.heap.size + 1) RC.toArray = w7 at *
  replace T := Lib.hid (T.out.low hX)
  replace OL' := Lib.hid (OL'.out.below hX)
  replace PI := Lib.hid (PI.out.below hX)
  replace W := Lib.hid (W.out.trans (hX.mono W.out.size))
  obtain ⟨q1, hq1⟩ : ∃ q, q = w6.heap.size := ⟨_, rfl⟩
  obtain ⟨q2, hq2⟩ : ∃ q, q = w6.heap.size + 1 := ⟨_, rfl⟩
  rw [← hq2, ← hq1]
  rw [← hq1] at BP
  rw [← hq2] at BR
  clear hq1 hq2 hX
  go_upto_region 9 with (first
    | (go_at_call 20; refine (CO.out w7).mono ?_; rintro e w8 ⟨rfl, hX⟩; replace T := Lib.hid (T.out.low hX); replace OL' := Lib.hid (OL'.out.below hX); replace PI := Lib.hid (PI.out.below hX); replace BP := Lib.hid (BP.out.below hX BP.out.lt); replace BR := Lib.hid (BR.out.below hX BR.out.lt); replace W := Lib.hid (W.out.trans (hX.mono W.out.size)); clear hX)
    | (go_at_call 27; refine (CS.out w8).mono ?_; rintro e w9 ⟨rfl, hX⟩; replace T := Lib.hid (T.out.low hX); replace OL' := Lib.hid (OL'.out.below hX); replace PI := Lib.hid (PI.out.below hX); replace BP := Lib.hid (BP.out.below hX BP.out.lt); replace BR := Lib.hid (BR.out.below hX BR.out.lt); replace W := Lib.hid (W.out.trans (hX.mono W.out.size)); clear hX)
    | (go_at_call 26; refine (CP.out w9 W.out T.out).mono ?_; rintro e w10 ⟨⟨bb, rfl⟩, hT, hG⟩; replace OL' := Lib.hid (row_keeps T.out OL'.out (by decide) hG); replace PI := Lib.hid (prf_keeps T.out PI.out hG); replace BP := Lib.hid (put_keeps T.out BP.out (by decide) hG); replace BR := Lib.hid (put_keeps T.out BR.out (by decide) hG); replace W : Hid (Below w.heap.size w _) := W.out.grown hG W.out.size (fun q hq => by have h : g = q := Option.some.inj hq; omega); replace T := Lib.hid hT; clear hT hG))
  have hX := (Below.refl w10.heap.size w10).drew
  replace T := Lib.hid (T.out.low hX)
  replace OL' := Lib.hid (OL'.out.below hX)
  replace PI := Lib.hid (PI.out.below hX)
  replace BP := Lib.hid (BP.out.below hX BP.out.lt)
  replace BR := Lib.hid (BR.out.below hX BR.out.lt)
  replace W := Lib.hid (W.out.trans (hX.mono W.out.size))
  clear hX
  refine wp_region_any (by kernel_rfl) ?_
  change wpAny _ _ _ _ _ _ _ (World.drew _)
  generalize w10.drew = wd at *
  refine wpAny_take (i := 1) (oi := ?oi1) (v := .int .i64 k) ?hi1 (by kernel_rfl) (by kernel_rfl) (by kernel_rfl) ?hQ1 ?hy1 ?rest1
  case hi1 => simp only [zge]; rfl
  case hQ1 => exact fun _ _ _ h => h
  case hy1 => exact Or.inl ⟨by rfl, by intro w; go_simp⟩
  try simp only [zpt]
  refine phaseL (fun i => if i = 4 then [0, 2, 3] else if i = 5 then [4] else if i = 6 then [5] else if i = 7 then [5] else if i = 8 then [5] else if i = 10 then [9, 6, 4, 0, 2, 3, 5] else if i = 11 then [7, 10, 0, 2, 3, 4, 5, 6, 9] else if i = 12 then [8, 11, 0, 2, 3, 4, 5, 6, 7, 9, 10] else []) (fun d a w' => ∃ x54 x56 x57 x58 x53 x59 x60 x61 x17 x18 x19 : Value, a = { tmps := #[.slice A n c, .slice A' n' c', .int .i64 k, .int .i64 other, .int .i64 v, undef, undef, undef, undef, undef, .bool false, .bool true, .pointer (some ⟨g, 0, none⟩), .slice AL nl cl, .bool true, .pointer (some ⟨q1, 0, none⟩), .pointer (some ⟨q2, 0, none⟩), x17, x18, x19, undef, undef, undef, undef, undef, undef, undef, undef, undef, .bool true, .bool true, .bool false, .tuple #[.pointer (some ⟨g, 0, none⟩), .slice AL nl cl, .bool true], .slice A n c, .slice A' n' c', .tuple #[.pointer (some ⟨g, 0, none⟩), .slice AL nl cl, .bool true], .pointer (some ⟨g, 0, none⟩), .slice AL nl cl, .bool true, .bool true, .bool false, .pointer (some ⟨g, 0, none⟩), .int .i64 k, .agg NC.toArray, .agg PP.toArray, .pointer (some ⟨g, 0, none⟩), .agg RC.toArray, .pointer (some ⟨g, 0, none⟩), .int .i64 other, .agg OC.toArray, .int .i64 v, .agg SC.toArray, .bool bb, x53, x54, .int .i64 k, x56, x57, x58, x59, x60, x61, undef, undef, undef, undef, undef, undef, undef, undef, undef, undef, undef, undef, undef, undef, undef, undef, undef, undef, undef, undef, undef, undef, undef, undef, undef, undef, undef, undef, undef, undef, undef, undef, undef, undef, undef, undef, undef, undef, undef, undef, undef, undef, undef, undef, undef, undef, undef, undef, undef, undef, undef, undef, undef, undef, undef, undef], defers := [] } ∧ Hid (Below wd.heap.size wd w') ∧ (d 0 = true → x54 = .agg RC.toArray) ∧ (d 2 = true → x56 = .agg NC.toArray) ∧ (d 3 = true → x57 = .agg PP.toArray) ∧ (d 4 = true → x58 = .tuple #[.agg TC.toArray, .bool b0, .bool true]) ∧ (d 5 = true → x53 = .tuple #[.agg TC.toArray, .bool b0, .bool true]) ∧ (d 6 = true → x59 = .agg TC.toArray) ∧ (d 7 = true → x60 = .bool b0) ∧ (d 8 = true → x61 = .bool true) ∧ (d 9 = true → Hid (AtN w' wd.heap.size x17 30 32)) ∧ (d 10 = true → (d 9 = true ∧ Hid (At w' wd.heap.size x17 30 TC))) ∧ (d 11 = true → x18 = .bool b0) ∧ (d 12 = true → x19 = .bool true)) [0, 2, 3, 4, 5, 6, 7, 8, 9, 10, 11, 12] ?step2 0 12 [0, 2, 3, 4, 5, 6, 7, 8, 9, 10, 11, 12] _ _ _ rfl (by decide) (fun _ h => h) (Fits.of (by kernel_rfl)) ?init2 ?fin2
  case init2 => refine ⟨_, _, _, _, _, _, _, _, _, _, _, rfl, Below.refl _ _, ?_, ?_, ?_, ?_, ?_, ?_, ?_, ?_, ?_, ?_, ?_, ?_⟩ <;> (intro h; exact absurd h (by decide))
  case step2 =>
    intro i hi d a v2 hI hdi hdeps
    obtain ⟨x54, x56, x57, x58, x53, x59, x60, x61, x17, x18, x19, rfl, BW, h0, h2, h3, h4, h5, h6, h7, h8, h9, h10, h11, h12⟩ := hI
    have hsw := BW.out.size
    simp only [List.mem_cons, List.not_mem_nil, or_false] at hi
    rcases hi with rfl | rfl | rfl | rfl | rfl | rfl | rfl | rfl | rfl | rfl | rfl | rfl
    · refine wpOp_step (o := ?os3) ?hos3 (fun K hK => ?_)
      case hos3 => simp only [zge]; rfl
      refine step_loadW rfl 30 (.tmp 16) rfl q2 0 rfl RC _ Tryd.underlying30 rfl IRC.out (BR.out.below BW.out BR.out.lt).cells (hK _ _ ?_)
      clear hK K
      try simp only [zpt]
      exact ⟨_, _, _, _, _, _, _, _, _, _, _, rfl, BW, fun _ => rfl, fun a => by first | exact h2 (by simpa using a) | rfl, fun a => by first | exact h3 (by simpa using a) | rfl, fun a => by first | exact h4 (by simpa using a) | rfl, fun a => by first | exact h5 (by simpa using a) | rfl, fun a => by first | exact h6 (by simpa using a) | rfl, fun a => by first | exact h7 (by simpa using a) | rfl, fun a => by first | exact h8 (by simpa using a) | rfl, fun a => h9 (by simpa using a), fun a => ⟨by simp [(h10 (by simpa using a)).1], (h10 (by simpa using a)).2⟩, fun a => by first | exact h11 (by simpa using a) | rfl, fun a => by first | exact h12 (by simpa using a) | rfl⟩
    · refine wpOp_step (o := ?os4) ?hos4 (fun K hK => ?_)
      case hos4 => simp only [zge]; rfl
      go_simp
      refine (CN.out v2 ).mono ?_
      rintro e u2 ⟨rfl, hX⟩
      refine hK _ _ ?_
      clear hK K
      try simp only [zpt]
      exact ⟨_, _, _, _, _, _, _, _, _, _, _, rfl, BW.out.trans (hX.mono hsw), fun a => by first | exact h0 (by simpa using a) | rfl, fun _ => rfl, fun a => by first | exact h3 (by simpa using a) | rfl, fun a => by first | exact h4 (by simpa using a) | rfl, fun a => by first | exact h5 (by simpa using a) | rfl, fun a => by first | exact h6 (by simpa using a) | rfl, fun a => by first | exact h7 (by simpa using a) | rfl, fun a => by first | exact h8 (by simpa using a) | rfl, fun a => (h9 (by simpa using a)).out.below hX, fun a => ⟨by simp [(h10 (by simpa using a)).1], (h10 (by simpa using a)).2.out.below hX⟩, fun a => by first | exact h11 (by simpa using a) | rfl, fun a => by first | exact h12 (by simpa using a) | rfl⟩
    · refine wpOp_step (o := ?os5) ?hos5 (fun K hK => ?_)
      case hos5 => simp only [zge]; rfl
      refine step_loadW rfl 38 (.tmp 15) rfl q1 0 rfl PP _ Tryd.underlying38 rfl IPP.out (BP.out.below BW.out BP.out.lt).cells (hK _ _ ?_)
      clear hK K
      try simp only [zpt]
      exact ⟨_, _, _, _, _, _, _, _, _, _, _, rfl, BW, fun a => by first | exact h0 (by simpa using a) | rfl, fun a => by first | exact h2 (by simpa using a) | rfl, fun _ => rfl, fun a => by first | exact h4 (by simpa using a) | rfl, fun a => by first | exact h5 (by simpa using a) | rfl, fun a => by first | exact h6 (by simpa using a) | rfl, fun a => by first | exact h7 (by simpa using a) | rfl, fun a => by first | exact h8 (by simpa using a) | rfl, fun a => h9 (by simpa using a), fun a => ⟨by simp [(h10 (by simpa using a)).1], (h10 (by simpa using a)).2⟩, fun a => by first | exact h11 (by simpa using a) | rfl, fun a => by first | exact h12 (by simpa using a) | rfl⟩
    · obtain rfl := h0 (hdeps 0 (by simp))
      obtain rfl := h2 (hdeps 2 (by simp))
      obtain rfl := h3 (hdeps 3 (by simp))
      refine wpOp_step (o := ?os6) ?hos6 (fun K hK => ?_)
      case hos6 => simp only [zge]; rfl
      go_simp
      refine (CK.out v2 _ _ (W.out.trans (BW.out.mono W.out.size)) (PI.out.below BW.out)).mono ?_
      rintro e u2 ⟨rfl, hX⟩
      refine hK _ _ ?_
      clear hK K
      try simp only [zpt]
      exact ⟨_, _, _, _, _, _, _, _, _, _, _, rfl, BW.out.trans (hX.mono hsw), fun a => by first | exact h0 (by simpa using a) | rfl, fun a => by first | exact h2 (by simpa using a) | rfl, fun a => by first | exact h3 (by simpa using a) | rfl, fun _ => rfl, fun a => by first | exact h5 (by simpa using a) | rfl, fun a => by first | exact h6 (by simpa using a) | rfl, fun a => by first | exact h7 (by simpa using a) | rfl, fun a => by first | exact h8 (by simpa using a) | rfl, fun a => (h9 (by simpa using a)).out.below hX, fun a => ⟨by simp [(h10 (by simpa using a)).1], (h10 (by simpa using a)).2.out.below hX⟩, fun a => by first | exact h11 (by simpa using a) | rfl, fun a => by first | exact h12 (by simpa using a) | rfl⟩
    · obtain rfl := h4 (hdeps 4 (by simp))
      refine wpOp_step (o := ?os7) ?hos7 (fun K hK => ?_)
      case hos7 => simp only [zge]; rfl
      go_simp
      refine hK _ _ ?_
      clear hK K
      try simp only [zpt]
      exact ⟨_, _, _, _, _, _, _, _, _, _, _, rfl, BW, fun a => by first | exact h0 (by simpa using a) | rfl, fun a => by first | exact h2 (by simpa using a) | rfl, fun a => by first | exact h3 (by simpa using a) | rfl, fun a => by first | exact h4 (by simpa using a) | rfl, fun _ => rfl, fun a => by first | exact h6 (by simpa using a) | rfl, fun a => by first | exact h7 (by simpa using a) | rfl, fun a => by first | exact h8 (by simpa using a) | rfl, fun a => h9 (by simpa using a), fun a => ⟨by simp [(h10 (by simpa using a)).1], (h10 (by simpa using a)).2⟩, fun a => by first | exact h11 (by simpa using a) | rfl, fun a => by first | exact h12 (by simpa using a) | rfl⟩
    · obtain rfl := h5 (hdeps 5 (by simp))
      refine wpOp_step (o := ?os8) ?hos8 (fun K hK => ?_)
      case hos8 => simp only [zge]; rfl
      go_simp
      refine hK _ _ ?_
      clear hK K
      try simp only [zpt]
      exact ⟨_, _, _, _, _, _, _, _, _, _, _, rfl, BW, fun a => by first | exact h0 (by simpa using a) | rfl, fun a => by first | exact h2 (by simpa using a) | rfl, fun a => by first | exact h3 (by simpa using a) | rfl, fun a => by first | exact h4 (by simpa using a) | rfl, fun a => by first | exact h5 (by simpa using a) | rfl, fun _ => rfl, fun a => by first | exact h7 (by simpa using a) | rfl, fun a => by first | exact h8 (by simpa using a) | rfl, fun a => h9 (by simpa using a), fun a => ⟨by simp [(h10 (by simpa using a)).1], (h10 (by simpa using a)).2⟩, fun a => by first | exact h11 (by simpa using a) | rfl, fun a => by first | exact h12 (by simpa using a) | rfl⟩
    · obtain rfl := h5 (hdeps 5 (by simp))
      refine wpOp_step (o := ?os9) ?hos9 (fun K hK => ?_)
      case hos9 => simp only [zge]; rfl
      go_simp
      refine hK _ _ ?_
      clear hK K
      try simp only [zpt]
      exact ⟨_, _, _, _, _, _, _, _, _, _, _, rfl, BW, fun a => by first | exact h0 (by simpa using a) | rfl, fun a => by first | exact h2 (by simpa using a) | rfl, fun a => by first | exact h3 (by simpa using a) | rfl, fun a => by first | exact h4 (by simpa using a) | rfl, fun a => by first | exact h5 (by simpa using a) | rfl, fun a => by first | exact h6 (by simpa using a) | rfl, fun _ => rfl, fun a => by first | exact h8 (by simpa using a) | rfl, fun a => h9 (by simpa using a), fun a => ⟨by simp [(h10 (by simpa using a)).1], (h10 (by simpa using a)).2⟩, fun a => by first | exact h11 (by simpa using a) | rfl, fun a => by first | exact h12 (by simpa using a) | rfl⟩
    · obtain rfl := h5 (hdeps 5 (by simp))
      refine wpOp_step (o := ?os10) ?hos10 (fun K hK => ?_)
      case hos10 => simp only [zge]; rfl
      go_simp
      refine hK _ _ ?_
      clear hK K
      try simp only [zpt]
      exact ⟨_, _, _, _, _, _, _, _, _, _, _, rfl, BW, fun a => by first | exact h0 (by simpa using a) | rfl, fun a => by first | exact h2 (by simpa using a) | rfl, fun a => by first | exact h3 (by simpa using a) | rfl, fun a => by first | exact h4 (by simpa using a) | rfl, fun a => by first | exact h5 (by simpa using a) | rfl, fun a => by first | exact h6 (by simpa using a) | rfl, fun a => by first | exact h7 (by simpa using a) | rfl, fun _ => rfl, fun a => h9 (by simpa using a), fun a => ⟨by simp [(h10 (by simpa using a)).1], (h10 (by simpa using a)).2⟩, fun a => by first | exact h11 (by simpa using a) | rfl, fun a => by first | exact h12 (by simpa using a) | rfl⟩
    · have hX := alloc_below v2 (.cells (List.replicate 32 (Value.int .u8 0)).toArray 30)
      refine wpOp_step (o := ?os11) ?hos11 (fun K hK => ?_)
      case hos11 => simp only [zge]; rfl
      go_simp
      refine hK _ _ ?_
      clear hK K
      try simp only [zpt]
      exact ⟨_, _, _, _, _, _, _, _, _, _, _, rfl, BW.out.trans (hX.mono hsw), fun a => by first | exact h0 (by simpa using a) | rfl, fun a => by first | exact h2 (by simpa using a) | rfl, fun a => by first | exact h3 (by simpa using a) | rfl, fun a => by first | exact h4 (by simpa using a) | rfl, fun a => by first | exact h5 (by simpa using a) | rfl, fun a => by first | exact h6 (by simpa using a) | rfl, fun a => by first | exact h7 (by simpa using a) | rfl, fun a => by first | exact h8 (by simpa using a) | rfl, fun _ => (At.new _ _ _ hsw).n rfl, fun a => absurd (h10 (by simpa using a)).1 (by simp [hdi]), fun a => by first | exact h11 (by simpa using a) | rfl, fun a => by first | exact h12 (by simpa using a) | rfl⟩
    · obtain rfl := h6 (hdeps 6 (by simp))
      obtain ⟨qn, hqe, hqB, cs, hQ, hQl⟩ := (h9 (hdeps 9 (by simp))).out
      obtain rfl := hqe
      refine wpOp_step (o := ?os12) ?hos12 (fun K hK => ?_)
      case hos12 => simp only [zge]; rfl
      refine step_storeAll rfl 30 (.tmp 17) (.tmp 59) rfl qn rfl TC rfl 30 cs hQ ITC.out (hQl.trans NTC.out.symm) OTC.out (hK _ _ ?_)
      clear hK K
      have hS : At (v2.setRow qn TC.toArray) wd.heap.size (.pointer (some ⟨qn, 0, none⟩)) 30 TC := ⟨qn, rfl, hqB, hQ.row⟩
      have hN := hS.n NTC.out
      try simp only [zpt]
      exact ⟨_, _, _, _, _, _, _, _, _, _, _, rfl, below_setRow BW.out hqB _, fun a => by first | exact h0 (by simpa using a) | rfl, fun a => by first | exact h2 (by simpa using a) | rfl, fun a => by first | exact h3 (by simpa using a) | rfl, fun a => by first | exact h4 (by simpa using a) | rfl, fun a => by first | exact h5 (by simpa using a) | rfl, fun a => by first | exact h6 (by simpa using a) | rfl, fun a => by first | exact h7 (by simpa using a) | rfl, fun a => by first | exact h8 (by simpa using a) | rfl, fun a => hN, fun _ => ⟨by simp [hdeps 9 (by simp)], hS⟩, fun a => by first | exact h11 (by simpa using a) | rfl, fun a => by first | exact h12 (by simpa using a) | rfl⟩
    · obtain rfl := h7 (hdeps 7 (by simp))
      refine wpOp_step (o := ?os13) ?hos13 (fun K hK => ?_)
      case hos13 => simp only [zge]; rfl
      go_simp
      refine hK _ _ ?_
      clear hK K
      try simp only [zpt]
      exact ⟨_, _, _, _, _, _, _, _, _, _, _, rfl, BW, fun a => by first | exact h0 (by simpa using a) | rfl, fun a => by first | exact h2 (by simpa using a) | rfl, fun a => by first | exact h3 (by simpa using a) | rfl, fun a => by first | exact h4 (by simpa using a) | rfl, fun a => by first | exact h5 (by simpa using a) | rfl, fun a => by first | exact h6 (by simpa using a) | rfl, fun a => by first | exact h7 (by simpa using a) | rfl, fun a => by first | exact h8 (by simpa using a) | rfl, fun a => h9 (by simpa using a), fun a => ⟨by simp [(h10 (by simpa using a)).1], (h10 (by simpa using a)).2⟩, fun _ => rfl, fun a => by first | exact h12 (by simpa using a) | rfl⟩
    · obtain rfl := h8 (hdeps 8 (by simp))
      refine wpOp_step (o := ?os14) ?hos14 (fun K hK => ?_)
      case hos14 => simp only [zge]; rfl
      go_simp
      refine hK _ _ ?_
      clear hK K
      try simp only [zpt]
      exact ⟨_, _, _, _, _, _, _, _, _, _, _, rfl, BW, fun a => by first | exact h0 (by simpa using a) | rfl, fun a => by first | exact h2 (by simpa using a) | rfl, fun a => by first | exact h3 (by simpa using a) | rfl, fun a => by first | exact h4 (by simpa using a) | rfl, fun a => by first | exact h5 (by simpa using a) | rfl, fun a => by first | exact h6 (by simpa using a) | rfl, fun a => by first | exact h7 (by simpa using a) | rfl, fun a => by first | exact h8 (by simpa using a) | rfl, fun a => h9 (by simpa using a), fun a => ⟨by simp [(h10 (by simpa using a)).1], (h10 (by simpa using a)).2⟩, fun a => by first | exact h11 (by simpa using a) | rfl, fun _ => rfl⟩
  case fin2 =>
    intro a v2 hI
    obtain ⟨x54, x56, x57, x58, x53, x59, x60, x61, x17, x18, x19, rfl, BW, h0, h2, h3, h4, h5, h6, h7, h8, h9, h10, h11, h12⟩ := hI
    obtain rfl := h0 (by decide)
    obtain rfl := h2 (by decide)
    obtain rfl := h3 (by decide)
    obtain rfl := h4 (by decide)
    obtain rfl := h5 (by decide)
    obtain rfl := h6 (by decide)
    obtain rfl := h7 (by decide)
    obtain rfl := h8 (by decide)
    obtain rfl := h11 (by decide)
    obtain rfl := h12 (by decide)
    clear h0 h2 h3 h4 h5 h6 h7 h8 h11 h12
    obtain ⟨q3, rfl, hq3, hQ⟩ := (h10 (by decide)).2.out
    have BA := Lib.hid hQ
    have hX := BW.out
    replace T := Lib.hid (T.out.low hX)
    replace OL' := Lib.hid (OL'.out.below hX)
    replace PI := Lib.hid (PI.out.below hX)
    replace BP := Lib.hid (BP.out.below hX BP.out.lt)
    replace BR := Lib.hid (BR.out.below hX BR.out.lt)
    replace W := Lib.hid (W.out.trans (hX.mono W.out.size))
    clear hX BW hQ h9 h10 
    try dsimp only
    refine wpAny_done (by kernel_rfl) ?_ _
    go_upto_region 10 with (fail)
    have hX := (Below.refl v2.heap.size v2).drew
    replace T := Lib.hid (T.out.low hX)
    replace OL' := Lib.hid (OL'.out.below hX)
    replace PI := Lib.hid (PI.out.below hX)
    replace BP := Lib.hid (BP.out.below hX BP.out.lt)
    replace BR := Lib.hid (BR.out.below hX BR.out.lt)
    replace BA := Lib.hid (BA.out.below hX BA.out.lt)
    replace W := Lib.hid (W.out.trans (hX.mono W.out.size))
    clear hX
    refine wp_region_any (by kernel_rfl) ?_
    change wpAny _ _ _ _ _ _ _ (World.drew _)
    generalize v2.drew = wd2 at *
    refine wpAny_take (i := 0) (oi := ?oi15) (v := .pointer (some ⟨g, 0, none⟩)) ?hi15 (by kernel_rfl) (by kernel_rfl) (by kernel_rfl) ?hQ15 ?hy15 ?rest15
    case hi15 => simp only [zge]; rfl
    case hQ15 => exact fun _ _ _ h => h
    case hy15 => exact Or.inl ⟨by rfl, by intro w; go_simp⟩
    try simp only [zpt]
    refine wpAny_take (i := 2) (oi := ?oi16) (v := .int .i64 k) ?hi16 (by kernel_rfl) (by kernel_rfl) (by kernel_rfl) ?hQ16 ?hy16 ?rest16
    case hi16 => simp only [zge]; rfl
    case hQ16 => exact fun _ _ _ h => h
    case hy16 => exact Or.inl ⟨by rfl, by intro w; go_simp⟩
    try simp only [zpt]
    refine phaseL (fun i => if i = 3 then [1] else if i = 5 then [1, 3, 4] else if i = 6 then [5] else if i = 7 then [6] else if i = 8 then [6] else if i = 9 then [6] else if i = 11 then [10, 7, 5, 1, 3, 4, 6] else if i = 12 then [8, 11, 1, 3, 4, 5, 6, 7, 10] else if i = 13 then [9, 12, 1, 3, 4, 5, 6, 7, 8, 10, 11] else []) (fun d a w' => ∃ x64 x66 x67 x68 x62 x69 x70 x71 x20 x21 x22 : Value, a = { tmps := #[.slice A n c, .slice A' n' c', .int .i64 k, .int .i64 other, .int .i64 v, undef, undef, undef, undef, undef, .bool false, .bool true, .pointer (some ⟨g, 0, none⟩), .slice AL nl cl, .bool true, .pointer (some ⟨q1, 0, none⟩), .pointer (some ⟨q2, 0, none⟩), .pointer (some ⟨q3, 0, none⟩), .bool b0, .bool true, x20, x21, x22, undef, undef, undef, undef, undef, undef, .bool true, .bool true, .bool false, .tuple #[.pointer (some ⟨g, 0, none⟩), .slice AL nl cl, .bool true], .slice A n c, .slice A' n' c', .tuple #[.pointer (some ⟨g, 0, none⟩), .slice AL nl cl, .bool true], .pointer (some ⟨g, 0, none⟩), .slice AL nl cl, .bool true, .bool true, .bool false, .pointer (some ⟨g, 0, none⟩), .int .i64 k, .agg NC.toArray, .agg PP.toArray, .pointer (some ⟨g, 0, none⟩), .agg RC.toArray, .pointer (some ⟨g, 0, none⟩), .int .i64 other, .agg OC.toArray, .int .i64 v, .agg SC.toArray, .bool bb, .tuple #[.agg TC.toArray, .bool b0, .bool true], .agg RC.toArray, .int .i64 k, .agg NC.toArray, .agg PP.toArray, .tuple #[.agg TC.toArray, .bool b0, .bool true], .agg TC.toArray, .bool b0, .bool true, x62, .pointer (some ⟨g, 0, none⟩), x64, .int .i64 k, x66, x67, x68, x69, x70, x71, undef, undef, undef, undef, undef, undef, undef, undef, undef, undef, undef, undef, undef, undef, undef, undef, undef, undef, undef, undef, undef, undef, undef, undef, undef, undef, undef, undef, undef, undef, undef, undef, undef, undef, undef, undef, undef, undef, undef, undef, undef, undef, undef, undef, undef, undef], defers := [] } ∧ Hid (Below wd2.heap.size wd2 w') ∧ (d 1 = true → x64 = .agg QC.toArray) ∧ (d 3 = true → x66 = .agg NC.toArray) ∧ (d 4 = true → x67 = .agg PP.toArray) ∧ (d 5 = true → x68 = .tuple #[.agg UC.toArray, .bool b1, .bool b2]) ∧ (d 6 = true → x62 = .tuple #[.agg UC.toArray, .bool b1, .bool b2]) ∧ (d 7 = true → x69 = .agg UC.toArray) ∧ (d 8 = true → x70 = .bool b1) ∧ (d 9 = true → x71 = .bool b2) ∧ (d 10 = true → Hid (AtN w' wd2.heap.size x20 30 32)) ∧ (d 11 = true → (d 10 = true ∧ Hid (At w' wd2.heap.size x20 30 UC))) ∧ (d 12 = true → x21 = .bool b1) ∧ (d 13 = true → x22 = .bool b2)) [1, 3, 4, 5, 6, 7, 8, 9, 10, 11, 12, 13] ?step17 0 12 [1, 3, 4, 5, 6, 7, 8, 9, 10, 11, 12, 13] _ _ _ rfl (by decide) (fun _ h => h) (Fits.of (by kernel_rfl)) ?init17 ?fin17
    case init17 => refine ⟨_, _, _, _, _, _, _, _, _, _, _, rfl, Below.refl _ _, ?_, ?_, ?_, ?_, ?_, ?_, ?_, ?_, ?_, ?_, ?_, ?_⟩ <;> (intro h; exact absurd h (by decide))
    case step17 =>
      intro i hi d a v17 hI hdi hdeps
      obtain ⟨x64, x66, x67, x68, x62, x69, x70, x71, x20, x21, x22, rfl, BW, h1, h3, h4, h5, h6, h7, h8, h9, h10, h11, h12, h13⟩ := hI
      have hsw := BW.out.size
      simp only [List.mem_cons, List.not_mem_nil, or_false] at hi
      rcases hi with rfl | rfl | rfl | rfl | rfl | rfl | rfl | rfl | rfl | rfl | rfl | rfl
      · refine wpOp_step (o := ?os18) ?hos18 (fun K hK => ?_)
        case hos18 => simp only [zge]; rfl
        go_simp
        refine (CR'.out v17 (T.out.low BW.out)).mono ?_
        rintro e u17 ⟨rfl, hX⟩
        refine hK _ _ ?_
        clear hK K
        try simp only [zpt]
        exact ⟨_, _, _, _, _, _, _, _, _, _, _, rfl, BW.out.trans (hX.mono hsw), fun _ => rfl, fun a => by first | exact h3 (by simpa using a) | rfl, fun a => by first | exact h4 (by simpa using a) | rfl, fun a => by first | exact h5 (by simpa using a) | rfl, fun a => by first | exact h6 (by simpa using a) | rfl, fun a => by first | exact h7 (by simpa using a) | rfl, fun a => by first | exact h8 (by simpa using a) | rfl, fun a => by first | exact h9 (by simpa using a) | rfl, fun a => (h10 (by simpa using a)).out.below hX, fun a => ⟨by simp [(h11 (by simpa using a)).1], (h11 (by simpa using a)).2.out.below hX⟩, fun a => by first | exact h12 (by simpa using a) | rfl, fun a => by first | exact h13 (by simpa using a) | rfl⟩
      · refine wpOp_step (o := ?os19) ?hos19 (fun K hK => ?_)
        case hos19 => simp only [zge]; rfl
        go_simp
        refine (CN.out v17 ).mono ?_
        rintro e u17 ⟨rfl, hX⟩
        refine hK _ _ ?_
        clear hK K
        try simp only [zpt]
        exact ⟨_, _, _, _, _, _, _, _, _, _, _, rfl, BW.out.trans (hX.mono hsw), fun a => by first | exact h1 (by simpa using a) | rfl, fun _ => rfl, fun a => by first | exact h4 (by simpa using a) | rfl, fun a => by first | exact h5 (by simpa using a) | rfl, fun a => by first | exact h6 (by simpa using a) | rfl, fun a => by first | exact h7 (by simpa using a) | rfl, fun a => by first | exact h8 (by simpa using a) | rfl, fun a => by first | exact h9 (by simpa using a) | rfl, fun a => (h10 (by simpa using a)).out.below hX, fun a => ⟨by simp [(h11 (by simpa using a)).1], (h11 (by simpa using a)).2.out.below hX⟩, fun a => by first | exact h12 (by simpa using a) | rfl, fun a => by first | exact h13 (by simpa using a) | rfl⟩
      · refine wpOp_step (o := ?os20) ?hos20 (fun K hK => ?_)
        case hos20 => simp only [zge]; rfl
        refine step_loadW rfl 38 (.tmp 15) rfl q1 0 rfl PP _ Tryd.underlying38 rfl IPP.out (BP.out.below BW.out BP.out.lt).cells (hK _ _ ?_)
        clear hK K
        try simp only [zpt]
        exact ⟨_, _, _, _, _, _, _, _, _, _, _, rfl, BW, fun a => by first | exact h1 (by simpa using a) | rfl, fun a => by first | exact h3 (by simpa using a) | rfl, fun _ => rfl, fun a => by first | exact h5 (by simpa using a) | rfl, fun a => by first | exact h6 (by simpa using a) | rfl, fun a => by first | exact h7 (by simpa using a) | rfl, fun a => by first | exact h8 (by simpa using a) | rfl, fun a => by first | exact h9 (by simpa using a) | rfl, fun a => h10 (by simpa using a), fun a => ⟨by simp [(h11 (by simpa using a)).1], (h11 (by simpa using a)).2⟩, fun a => by first | exact h12 (by simpa using a) | rfl, fun a => by first | exact h13 (by simpa using a) | rfl⟩
      · obtain rfl := h1 (hdeps 1 (by simp))
        obtain rfl := h3 (hdeps 3 (by simp))
        obtain rfl := h4 (hdeps 4 (by simp))
        refine wpOp_step (o := ?os21) ?hos21 (fun K hK => ?_)
        case hos21 => simp only [zge]; rfl
        go_simp
        refine (CK'.out v17 _ _ (W.out.trans (BW.out.mono W.out.size)) (PI.out.below BW.out)).mono ?_
        rintro e u17 ⟨rfl, hX⟩
        refine hK _ _ ?_
        clear hK K
        try simp only [zpt]
        exact ⟨_, _, _, _, _, _, _, _, _, _, _, rfl, BW.out.trans (hX.mono hsw), fun a => by first | exact h1 (by simpa using a) | rfl, fun a => by first | exact h3 (by simpa using a) | rfl, fun a => by first | exact h4 (by simpa using a) | rfl, fun _ => rfl, fun a => by first | exact h6 (by simpa using a) | rfl, fun a => by first | exact h7 (by simpa using a) | rfl, fun a => by first | exact h8 (by simpa using a) | rfl, fun a => by first | exact h9 (by simpa using a) | rfl, fun a => (h10 (by simpa using a)).out.below hX, fun a => ⟨by simp [(h11 (by simpa using a)).1], (h11 (by simpa using a)).2.out.below hX⟩, fun a => by first | exact h12 (by simpa using a) | rfl, fun a => by first | exact h13 (by simpa using a) | rfl⟩
      · obtain rfl := h5 (hdeps 5 (by simp))
        refine wpOp_step (o := ?os22) ?hos22 (fun K hK => ?_)
        case hos22 => simp only [zge]; rfl
        go_simp
        refine hK _ _ ?_
        clear hK K
        try simp only [zpt]
        exact ⟨_, _, _, _, _, _, _, _, _, _, _, rfl, BW, fun a => by first | exact h1 (by simpa using a) | rfl, fun a => by first | exact h3 (by simpa using a) | rfl, fun a => by first | exact h4 (by simpa using a) | rfl, fun a => by first | exact h5 (by simpa using a) | rfl, fun _ => rfl, fun a => by first | exact h7 (by simpa using a) | rfl, fun a => by first | exact h8 (by simpa using a) | rfl, fun a => by first | exact h9 (by simpa using a) | rfl, fun a => h10 (by simpa using a), fun a => ⟨by simp [(h11 (by simpa using a)).1], (h11 (by simpa using a)).2⟩, fun a => by first | exact h12 (by simpa using a) | rfl, fun a => by first | exact h13 (by simpa using a) | rfl⟩
      · obtain rfl := h6 (hdeps 6 (by simp))
        refine wpOp_step (o := ?os23) ?hos23 (fun K hK => ?_)
        case hos23 => simp only [zge]; rfl
        go_simp
        refine hK _ _ ?_
        clear hK K
        try simp only [zpt]
        exact ⟨_, _, _, _, _, _, _, _, _, _, _, rfl, BW, fun a => by first | exact h1 (by simpa using a) | rfl, fun a => by first | exact h3 (by simpa using a) | rfl, fun a => by first | exact h4 (by simpa using a) | rfl, fun a => by first | exact h5 (by simpa using a) | rfl, fun a => by first | exact h6 (by simpa using a) | rfl, fun _ => rfl, fun a => by first | exact h8 (by simpa using a) | rfl, fun a => by first | exact h9 (by simpa using a) | rfl, fun a => h10 (by simpa using a), fun a => ⟨by simp [(h11 (by simpa using a)).1], (h11 (by simpa using a)).2⟩, fun a => by first | exact h12 (by simpa using a) | rfl, fun a => by first | exact h13 (by simpa using a) | rfl⟩
      · obtain rfl := h6 (hdeps 6 (by simp))
        refine wpOp_step (o := ?os24) ?hos24 (fun K hK => ?_)
        case hos24 => simp only [zge]; rfl
        go_simp
        refine hK _ _ ?_
        clear hK K
        try simp only [zpt]
        exact ⟨_, _, _, _, _, _, _, _, _, _, _, rfl, BW, fun a => by first | exact h1 (by simpa using a) | rfl, fun a => by first | exact h3 (by simpa using a) | rfl, fun a => by first | exact h4 (by simpa using a) | rfl, fun a => by first | exact h5 (by simpa using a) | rfl, fun a => by first | exact h6 (by simpa using a) | rfl, fun a => by first | exact h7 (by simpa using a) | rfl, fun _ => rfl, fun a => by first | exact h9 (by simpa using a) | rfl, fun a => h10 (by simpa using a), fun a => ⟨by simp [(h11 (by simpa using a)).1], (h11 (by simpa using a)).2⟩, fun a => by first | exact h12 (by simpa using a) | rfl, fun a => by first | exact h13 (by simpa using a) | rfl⟩
      · obtain rfl := h6 (hdeps 6 (by simp))
        refine wpOp_step (o := ?os25) ?hos25 (fun K hK => ?_)
        case hos25 => simp only [zge]; rfl
        go_simp
        refine hK _ _ ?_
        clear hK K
        try simp only [zpt]
        exact ⟨_, _, _, _, _, _, _, _, _, _, _, rfl, BW, fun a => by first | exact h1 (by simpa using a) | rfl, fun a => by first | exact h3 (by simpa using a) | rfl, fun a => by first | exact h4 (by simpa using a) | rfl, fun a => by first | exact h5 (by simpa using a) | rfl, fun a => by first | exact h6 (by simpa using a) | rfl, fun a => by first | exact h7 (by simpa using a) | rfl, fun a => by first | exact h8 (by simpa using a) | rfl, fun _ => rfl, fun a => h10 (by simpa using a), fun a => ⟨by simp [(h11 (by simpa using a)).1], (h11 (by simpa using a)).2⟩, fun a => by first | exact h12 (by simpa using a) | rfl, fun a => by first | exact h13 (by simpa using a) | rfl⟩
      · have hX := alloc_below v17 (.cells (List.replicate 32 (Value.int .u8 0)).toArray 30)
        refine wpOp_step (o := ?os26) ?hos26 (fun K hK => ?_)
        case hos26 => simp only [zge]; rfl
        go_simp
        refine hK _ _ ?_
        clear hK K
        try simp only [zpt]
        exact ⟨_, _, _, _, _, _, _, _, _, _, _, rfl, BW.out.trans (hX.mono hsw), fun a => by first | exact h1 (by simpa using a) | rfl, fun a => by first | exact h3 (by simpa using a) | rfl, fun a => by first | exact h4 (by simpa using a) | rfl, fun a => by first | exact h5 (by simpa using a) | rfl, fun a => by first | exact h6 (by simpa using a) | rfl, fun a => by first | exact h7 (by simpa using a) | rfl, fun a => by first | exact h8 (by simpa using a) | rfl, fun a => by first | exact h9 (by simpa using a) | rfl, fun _ => (At.new _ _ _ hsw).n rfl, fun a => absurd (h11 (by simpa using a)).1 (by simp [hdi]), fun a => by first | exact h12 (by simpa using a) | rfl, fun a => by first | exact h13 (by simpa using a) | rfl⟩
      · obtain rfl := h7 (hdeps 7 (by simp))
        obtain ⟨qn, hqe, hqB, cs, hQ, hQl⟩ := (h10 (hdeps 10 (by simp))).out
        obtain rfl := hqe
        refine wpOp_step (o := ?os27) ?hos27 (fun K hK => ?_)
        case hos27 => simp only [zge]; rfl
        refine step_storeAll rfl 30 (.tmp 20) (.tmp 69) rfl qn rfl UC rfl 30 cs hQ IUC.out (hQl.trans NUC.out.symm) OUC.out (hK _ _ ?_)
        clear hK K
        have hS : At (v17.setRow qn UC.toArray) wd2.heap.size (.pointer (some ⟨qn, 0, none⟩)) 30 UC := ⟨qn, rfl, hqB, hQ.row⟩
        have hN := hS.n NUC.out
        try simp only [zpt]
        exact ⟨_, _, _, _, _, _, _, _, _, _, _, rfl, below_setRow BW.out hqB _, fun a => by first | exact h1 (by simpa using a) | rfl, fun a => by first | exact h3 (by simpa using a) | rfl, fun a => by first | exact h4 (by simpa using a) | rfl, fun a => by first | exact h5 (by simpa using a) | rfl, fun a => by first | exact h6 (by simpa using a) | rfl, fun a => by first | exact h7 (by simpa using a) | rfl, fun a => by first | exact h8 (by simpa using a) | rfl, fun a => by first | exact h9 (by simpa using a) | rfl, fun a => hN, fun _ => ⟨by simp [hdeps 10 (by simp)], hS⟩, fun a => by first | exact h12 (by simpa using a) | rfl, fun a => by first | exact h13 (by simpa using a) | rfl⟩
      · obtain rfl := h8 (hdeps 8 (by simp))
        refine wpOp_step (o := ?os28) ?hos28 (fun K hK => ?_)
        case hos28 => simp only [zge]; rfl
        go_simp
        refine hK _ _ ?_
        clear hK K
        try simp only [zpt]
        exact ⟨_, _, _, _, _, _, _, _, _, _, _, rfl, BW, fun a => by first | exact h1 (by simpa using a) | rfl, fun a => by first | exact h3 (by simpa using a) | rfl, fun a => by first | exact h4 (by simpa using a) | rfl, fun a => by first | exact h5 (by simpa using a) | rfl, fun a => by first | exact h6 (by simpa using a) | rfl, fun a => by first | exact h7 (by simpa using a) | rfl, fun a => by first | exact h8 (by simpa using a) | rfl, fun a => by first | exact h9 (by simpa using a) | rfl, fun a => h10 (by simpa using a), fun a => ⟨by simp [(h11 (by simpa using a)).1], (h11 (by simpa using a)).2⟩, fun _ => rfl, fun a => by first | exact h13 (by simpa using a) | rfl⟩
      · obtain rfl := h9 (hdeps 9 (by simp))
        refine wpOp_step (o := ?os29) ?hos29 (fun K hK => ?_)
        case hos29 => simp only [zge]; rfl
        go_simp
        refine hK _ _ ?_
        clear hK K
        try simp only [zpt]
        exact ⟨_, _, _, _, _, _, _, _, _, _, _, rfl, BW, fun a => by first | exact h1 (by simpa using a) | rfl, fun a => by first | exact h3 (by simpa using a) | rfl, fun a => by first | exact h4 (by simpa using a) | rfl, fun a => by first | exact h5 (by simpa using a) | rfl, fun a => by first | exact h6 (by simpa using a) | rfl, fun a => by first | exact h7 (by simpa using a) | rfl, fun a => by first | exact h8 (by simpa using a) | rfl, fun a => by first | exact h9 (by simpa using a) | rfl, fun a => h10 (by simpa using a), fun a => ⟨by simp [(h11 (by simpa using a)).1], (h11 (by simpa using a)).2⟩, fun a => by first | exact h12 (by simpa using a) | rfl, fun _ => rfl⟩
    case fin17 =>
      intro a v17 hI
      obtain ⟨x64, x66, x67, x68, x62, x69, x70, x71, x20, x21, x22, rfl, BW, h1, h3, h4, h5, h6, h7, h8, h9, h10, h11, h12, h13⟩ := hI
      obtain rfl := h1 (by decide)
      obtain rfl := h3 (by decide)
      obtain rfl := h4 (by decide)
      obtain rfl := h5 (by decide)
      obtain rfl := h6 (by decide)
      obtain rfl := h7 (by decide)
      obtain rfl := h8 (by decide)
      obtain rfl := h9 (by decide)
      obtain rfl := h12 (by decide)
      obtain rfl := h13 (by decide)
      clear h1 h3 h4 h5 h6 h7 h8 h9 h12 h13
      obtain ⟨q4, rfl, hq4, hQ⟩ := (h11 (by decide)).2.out
      have BB := Lib.hid hQ
      have hX := BW.out
      replace T := Lib.hid (T.out.low hX)
      replace OL' := Lib.hid (OL'.out.below hX)
      replace PI := Lib.hid (PI.out.below hX)
      replace BP := Lib.hid (BP.out.below hX BP.out.lt)
      replace BR := Lib.hid (BR.out.below hX BR.out.lt)
      replace BA := Lib.hid (BA.out.below hX BA.out.lt)
      replace W := Lib.hid (W.out.trans (hX.mono W.out.size))
      clear hX BW hQ h10 h11 
      try dsimp only
      refine wpAny_done (by kernel_rfl) ?_ _
      go_upto_region 11 with (fail)
      have hX := (Below.refl v17.heap.size v17).drew
      replace T := Lib.hid (T.out.low hX)
      replace OL' := Lib.hid (OL'.out.below hX)
      replace PI := Lib.hid (PI.out.below hX)
      replace BP := Lib.hid (BP.out.below hX BP.out.lt)
      replace BR := Lib.hid (BR.out.below hX BR.out.lt)
      replace BA := Lib.hid (BA.out.below hX BA.out.lt)
      replace BB := Lib.hid (BB.out.below hX BB.out.lt)
      replace W := Lib.hid (W.out.trans (hX.mono W.out.size))
      clear hX
      refine wp_region_any (by kernel_rfl) ?_
      change wpAny _ _ _ _ _ _ _ (World.drew _)
      generalize v17.drew = wd3 at *
      refine wpAny_take (i := 0) (oi := ?oi30) (v := .pointer (some ⟨g, 0, none⟩)) ?hi30 (by kernel_rfl) (by kernel_rfl) (by kernel_rfl) ?hQ30 ?hy30 ?rest30
      case hi30 => simp only [zge]; rfl
      case hQ30 => exact fun _ _ _ h => h
      case hy30 => exact Or.inl ⟨by rfl, by intro w; go_simp⟩
      try simp only [zpt]
      refine wpAny_take (i := 2) (oi := ?oi31) (v := .int .i64 k) ?hi31 (by kernel_rfl) (by kernel_rfl) (by kernel_rfl) ?hQ31 ?hy31 ?rest31
      case hi31 => simp only [zge]; rfl
      case hQ31 => exact fun _ _ _ h => h
      case hy31 => exact Or.inl ⟨by rfl, by intro w; go_simp⟩
      try simp only [zpt]
      refine phaseL (fun i => if i = 3 then [1] else if i = 5 then [1, 3, 4] else if i = 6 then [5] else if i = 7 then [6] else if i = 8 then [6] else if i = 9 then [6] else if i = 11 then [10, 7, 5, 1, 3, 4, 6] else if i = 12 then [8, 11, 1, 3, 4, 5, 6, 7, 10] else if i = 13 then [9, 12, 1, 3, 4, 5, 6, 7, 8, 10, 11] else []) (fun d a w' => ∃ x74 x76 x77 x78 x72 x79 x80 x81 x23 x24 x25 : Value, a = { tmps := #[.slice A n c, .slice A' n' c', .int .i64 k, .int .i64 other, .int .i64 v, undef, undef, undef, undef, undef, .bool false, .bool true, .pointer (some ⟨g, 0, none⟩), .slice AL nl cl, .bool true, .pointer (some ⟨q1, 0, none⟩), .pointer (some ⟨q2, 0, none⟩), .pointer (some ⟨q3, 0, none⟩), .bool b0, .bool true, .pointer (some ⟨q4, 0, none⟩), .bool b1, .bool b2, x23, x24, x25, undef, undef, undef, .bool true, .bool true, .bool false, .tuple #[.pointer (some ⟨g, 0, none⟩), .slice AL nl cl, .bool true], .slice A n c, .slice A' n' c', .tuple #[.pointer (some ⟨g, 0, none⟩), .slice AL nl cl, .bool true], .pointer (some ⟨g, 0, none⟩), .slice AL nl cl, .bool true, .bool true, .bool false, .pointer (some ⟨g, 0, none⟩), .int .i64 k, .agg NC.toArray, .agg PP.toArray, .pointer (some ⟨g, 0, none⟩), .agg RC.toArray, .pointer (some ⟨g, 0, none⟩), .int .i64 other, .agg OC.toArray, .int .i64 v, .agg SC.toArray, .bool bb, .tuple #[.agg TC.toArray, .bool b0, .bool true], .agg RC.toArray, .int .i64 k, .agg NC.toArray, .agg PP.toArray, .tuple #[.agg TC.toArray, .bool b0, .bool true], .agg TC.toArray, .bool b0, .bool true, .tuple #[.agg UC.toArray, .bool b1, .bool b2], .pointer (some ⟨g, 0, none⟩), .agg QC.toArray, .int .i64 k, .agg NC.toArray, .agg PP.toArray, .tuple #[.agg UC.toArray, .bool b1, .bool b2], .agg UC.toArray, .bool b1, .bool b2, x72, .pointer (some ⟨g, 0, none⟩), x74, .int .i64 k, x76, x77, x78, x79, x80, x81, undef, undef, undef, undef, undef, undef, undef, undef, undef, undef, undef, undef, undef, undef, undef, undef, undef, undef, undef, undef, undef, undef, undef, undef, undef, undef, undef, undef, undef, undef, undef, undef, undef, undef, undef, undef], defers := [] } ∧ Hid (Below wd3.heap.size wd3 w') ∧ (d 1 = true → x74 = .agg QC.toArray) ∧ (d 3 = true → x76 = .agg NC.toArray) ∧ (d 4 = true → x77 = .agg PP.toArray) ∧ (d 5 = true → x78 = .tuple #[.agg UC.toArray, .bool b1, .bool b2]) ∧ (d 6 = true → x72 = .tuple #[.agg UC.toArray, .bool b1, .bool b2]) ∧ (d 7 = true → x79 = .agg UC.toArray) ∧ (d 8 = true → x80 = .bool b1) ∧ (d 9 = true → x81 = .bool b2) ∧ (d 10 = true → Hid (AtN w' wd3.heap.size x23 30 32)) ∧ (d 11 = true → (d 10 = true ∧ Hid (At w' wd3.heap.size x23 30 UC))) ∧ (d 12 = true → x24 = .bool b1) ∧ (d 13 = true → x25 = .bool b2)) [1, 3, 4, 5, 6, 7, 8, 9, 10, 11, 12, 13] ?step32 0 12 [1, 3, 4, 5, 6, 7, 8, 9, 10, 11, 12, 13] _ _ _ rfl (by decide) (fun _ h => h) (Fits.of (by kernel_rfl)) ?init32 ?fin32
      case init32 => refine ⟨_, _, _, _, _, _, _, _, _, _, _, rfl, Below.refl _ _, ?_, ?_, ?_, ?_, ?_, ?_, ?_, ?_, ?_, ?_, ?_, ?_⟩ <;> (intro h; exact absurd h (by decide))
      case step32 =>
        intro i hi d a v32 hI hdi hdeps
        obtain ⟨x74, x76, x77, x78, x72, x79, x80, x81, x23, x24, x25, rfl, BW, h1, h3, h4, h5, h6, h7, h8, h9, h10, h11, h12, h13⟩ := hI
        have hsw := BW.out.size
        simp only [List.mem_cons, List.not_mem_nil, or_false] at hi
        rcases hi with rfl | rfl | rfl | rfl | rfl | rfl | rfl | rfl | rfl | rfl | rfl | rfl
        · refine wpOp_step (o := ?os33) ?hos33 (fun K hK => ?_)
          case hos33 => simp only [zge]; rfl
          go_simp
          refine (CR'.out v32 (T.out.low BW.out)).mono ?_
          rintro e u32 ⟨rfl, hX⟩
          refine hK _ _ ?_
          clear hK K
          try simp only [zpt]
          exact ⟨_, _, _, _, _, _, _, _, _, _, _, rfl, BW.out.trans (hX.mono hsw), fun _ => rfl, fun a => by first | exact h3 (by simpa using a) | rfl, fun a => by first | exact h4 (by simpa using a) | rfl, fun a => by first | exact h5 (by simpa using a) | rfl, fun a => by first | exact h6 (by simpa using a) | rfl, fun a => by first | exact h7 (by simpa using a) | rfl, fun a => by first | exact h8 (by simpa using a) | rfl, fun a => by first | exact h9 (by simpa using a) | rfl, fun a => (h10 (by simpa using a)).out.below hX, fun a => ⟨by simp [(h11 (by simpa using a)).1], (h11 (by simpa using a)).2.out.below hX⟩, fun a => by first | exact h12 (by simpa using a) | rfl, fun a => by first | exact h13 (by simpa using a) | rfl⟩
        · refine wpOp_step (o := ?os34) ?hos34 (fun K hK => ?_)
          case hos34 => simp only [zge]; rfl
          go_simp
          refine (CN.out v32 ).mono ?_
          rintro e u32 ⟨rfl, hX⟩
          refine hK _ _ ?_
          clear hK K
          try simp only [zpt]
          exact ⟨_, _, _, _, _, _, _, _, _, _, _, rfl, BW.out.trans (hX.mono hsw), fun a => by first | exact h1 (by simpa using a) | rfl, fun _ => rfl, fun a => by first | exact h4 (by simpa using a) | rfl, fun a => by first | exact h5 (by simpa using a) | rfl, fun a => by first | exact h6 (by simpa using a) | rfl, fun a => by first | exact h7 (by simpa using a) | rfl, fun a => by first | exact h8 (by simpa using a) | rfl, fun a => by first | exact h9 (by simpa using a) | rfl, fun a => (h10 (by simpa using a)).out.below hX, fun a => ⟨by simp [(h11 (by simpa using a)).1], (h11 (by simpa using a)).2.out.below hX⟩, fun a => by first | exact h12 (by simpa using a) | rfl, fun a => by first | exact h13 (by simpa using a) | rfl⟩
        · refine wpOp_step (o := ?os35) ?hos35 (fun K hK => ?_)
          case hos35 => simp only [zge]; rfl
          refine step_loadW rfl 38 (.tmp 15) rfl q1 0 rfl PP _ Tryd.underlying38 rfl IPP.out (BP.out.below BW.out BP.out.lt).cells (hK _ _ ?_)
          clear hK K
          try simp only [zpt]
          exact ⟨_, _, _, _, _, _, _, _, _, _, _, rfl, BW, fun a => by first | exact h1 (by simpa using a) | rfl, fun a => by first | exact h3 (by simpa using a) | rfl, fun _ => rfl, fun a => by first | exact h5 (by simpa using a) | rfl, fun a => by first | exact h6 (by simpa using a) | rfl, fun a => by first | exact h7 (by simpa using a) | rfl, fun a => by first | exact h8 (by simpa using a) | rfl, fun a => by first | exact h9 (by simpa using a) | rfl, fun a => h10 (by simpa using a), fun a => ⟨by simp [(h11 (by simpa using a)).1], (h11 (by simpa using a)).2⟩, fun a => by first | exact h12 (by simpa using a) | rfl, fun a => by first | exact h13 (by simpa using a) | rfl⟩
        · obtain rfl := h1 (hdeps 1 (by simp))
          obtain rfl := h3 (hdeps 3 (by simp))
          obtain rfl := h4 (hdeps 4 (by simp))
          refine wpOp_step (o := ?os36) ?hos36 (fun K hK => ?_)
          case hos36 => simp only [zge]; rfl
          go_simp
          refine (DK'.out v32 _ _ (PI.out.below BW.out)).mono ?_
          rintro e u32 ⟨rfl, hX⟩
          refine hK _ _ ?_
          clear hK K
          try simp only [zpt]
          exact ⟨_, _, _, _, _, _, _, _, _, _, _, rfl, BW.out.trans (hX.mono hsw), fun a => by first | exact h1 (by simpa using a) | rfl, fun a => by first | exact h3 (by simpa using a) | rfl, fun a => by first | exact h4 (by simpa using a) | rfl, fun _ => rfl, fun a => by first | exact h6 (by simpa using a) | rfl, fun a => by first | exact h7 (by simpa using a) | rfl, fun a => by first | exact h8 (by simpa using a) | rfl, fun a => by first | exact h9 (by simpa using a) | rfl, fun a => (h10 (by simpa using a)).out.below hX, fun a => ⟨by simp [(h11 (by simpa using a)).1], (h11 (by simpa using a)).2.out.below hX⟩, fun a => by first | exact h12 (by simpa using a) | rfl, fun a => by first | exact h13 (by simpa using a) | rfl⟩
        · obtain rfl := h5 (hdeps 5 (by simp))
          refine wpOp_step (o := ?os37) ?hos37 (fun K hK => ?_)
          case hos37 => simp only [zge]; rfl
          go_simp
          refine hK _ _ ?_
          clear hK K
          try simp only [zpt]
          exact ⟨_, _, _, _, _, _, _, _, _, _, _, rfl, BW, fun a => by first | exact h1 (by simpa using a) | rfl, fun a => by first | exact h3 (by simpa using a) | rfl, fun a => by first | exact h4 (by simpa using a) | rfl, fun a => by first | exact h5 (by simpa using a) | rfl, fun _ => rfl, fun a => by first | exact h7 (by simpa using a) | rfl, fun a => by first | exact h8 (by simpa using a) | rfl, fun a => by first | exact h9 (by simpa using a) | rfl, fun a => h10 (by simpa using a), fun a => ⟨by simp [(h11 (by simpa using a)).1], (h11 (by simpa using a)).2⟩, fun a => by first | exact h12 (by simpa using a) | rfl, fun a => by first | exact h13 (by simpa using a) | rfl⟩
        · obtain rfl := h6 (hdeps 6 (by simp))
          refine wpOp_step (o := ?os38) ?hos38 (fun K hK => ?_)
          case hos38 => simp only [zge]; rfl
          go_simp
          refine hK _ _ ?_
          clear hK K
          try simp only [zpt]
          exact ⟨_, _, _, _, _, _, _, _, _, _, _, rfl, BW, fun a => by first | exact h1 (by simpa using a) | rfl, fun a => by first | exact h3 (by simpa using a) | rfl, fun a => by first | exact h4 (by simpa using a) | rfl, fun a => by first | exact h5 (by simpa using a) | rfl, fun a => by first | exact h6 (by simpa using a) | rfl, fun _ => rfl, fun a => by first | exact h8 (by simpa using a) | rfl, fun a => by first | exact h9 (by simpa using a) | rfl, fun a => h10 (by simpa using a), fun a => ⟨by simp [(h11 (by simpa using a)).1], (h11 (by simpa using a)).2⟩, fun a => by first | exact h12 (by simpa using a) | rfl, fun a => by first | exact h13 (by simpa using a) | rfl⟩
        · obtain rfl := h6 (hdeps 6 (by simp))
          refine wpOp_step (o := ?os39) ?hos39 (fun K hK => ?_)
          case hos39 => simp only [zge]; rfl
          go_simp
          refine hK _ _ ?_
          clear hK K
          try simp only [zpt]
          exact ⟨_, _, _, _, _, _, _, _, _, _, _, rfl, BW, fun a => by first | exact h1 (by simpa using a) | rfl, fun a => by first | exact h3 (by simpa using a) | rfl, fun a => by first | exact h4 (by simpa using a) | rfl, fun a => by first | exact h5 (by simpa using a) | rfl, fun a => by first | exact h6 (by simpa using a) | rfl, fun a => by first | exact h7 (by simpa using a) | rfl, fun _ => rfl, fun a => by first | exact h9 (by simpa using a) | rfl, fun a => h10 (by simpa using a), fun a => ⟨by simp [(h11 (by simpa using a)).1], (h11 (by simpa using a)).2⟩, fun a => by first | exact h12 (by simpa using a) | rfl, fun a => by first | exact h13 (by simpa using a) | rfl⟩
        · obtain rfl := h6 (hdeps 6 (by simp))
          refine wpOp_step (o := ?os40) ?hos40 (fun K hK => ?_)
          case hos40 => simp only [zge]; rfl
          go_simp
          refine hK _ _ ?_
          clear hK K
          try simp only [zpt]
          exact ⟨_, _, _, _, _, _, _, _, _, _, _, rfl, BW, fun a => by first | exact h1 (by simpa using a) | rfl, fun a => by first | exact h3 (by simpa using a) | rfl, fun a => by first | exact h4 (by simpa using a) | rfl, fun a => by first | exact h5 (by simpa using a) | rfl, fun a => by first | exact h6 (by simpa using a) | rfl, fun a => by first | exact h7 (by simpa using a) | rfl, fun a => by first | exact h8 (by simpa using a) | rfl, fun _ => rfl, fun a => h10 (by simpa using a), fun a => ⟨by simp [(h11 (by simpa using a)).1], (h11 (by simpa using a)).2⟩, fun a => by first | exact h12 (by simpa using a) | rfl, fun a => by first | exact h13 (by simpa using a) | rfl⟩
        · have hX := alloc_below v32 (.cells (List.replicate 32 (Value.int .u8 0)).toArray 30)
          refine wpOp_step (o := ?os41) ?hos41 (fun K hK => ?_)
          case hos41 => simp only [zge]; rfl
          go_simp
          refine hK _ _ ?_
          clear hK K
          try simp only [zpt]
          exact ⟨_, _, _, _, _, _, _, _, _, _, _, rfl, BW.out.trans (hX.mono hsw), fun a => by first | exact h1 (by simpa using a) | rfl, fun a => by first | exact h3 (by simpa using a) | rfl, fun a => by first | exact h4 (by simpa using a) | rfl, fun a => by first | exact h5 (by simpa using a) | rfl, fun a => by first | exact h6 (by simpa using a) | rfl, fun a => by first | exact h7 (by simpa using a) | rfl, fun a => by first | exact h8 (by simpa using a) | rfl, fun a => by first | exact h9 (by simpa using a) | rfl, fun _ => (At.new _ _ _ hsw).n rfl, fun a => absurd (h11 (by simpa using a)).1 (by simp [hdi]), fun a => by first | exact h12 (by simpa using a) | rfl, fun a => by first | exact h13 (by simpa using a) | rfl⟩
        · obtain rfl := h7 (hdeps 7 (by simp))
          obtain ⟨qn, hqe, hqB, cs, hQ, hQl⟩ := (h10 (hdeps 10 (by simp))).out
          obtain rfl := hqe
          refine wpOp_step (o := ?os42) ?hos42 (fun K hK => ?_)
          case hos42 => simp only [zge]; rfl
          refine step_storeAll rfl 30 (.tmp 23) (.tmp 79) rfl qn rfl UC rfl 30 cs hQ IUC.out (hQl.trans NUC.out.symm) OUC.out (hK _ _ ?_)
          clear hK K
          have hS : At (v32.setRow qn UC.toArray) wd3.heap.size (.pointer (some ⟨qn, 0, none⟩)) 30 UC := ⟨qn, rfl, hqB, hQ.row⟩
          have hN := hS.n NUC.out
          try simp only [zpt]
          exact ⟨_, _, _, _, _, _, _, _, _, _, _, rfl, below_setRow BW.out hqB _, fun a => by first | exact h1 (by simpa using a) | rfl, fun a => by first | exact h3 (by simpa using a) | rfl, fun a => by first | exact h4 (by simpa using a) | rfl, fun a => by first | exact h5 (by simpa using a) | rfl, fun a => by first | exact h6 (by simpa using a) | rfl, fun a => by first | exact h7 (by simpa using a) | rfl, fun a => by first | exact h8 (by simpa using a) | rfl, fun a => by first | exact h9 (by simpa using a) | rfl, fun a => hN, fun _ => ⟨by simp [hdeps 10 (by simp)], hS⟩, fun a => by first | exact h12 (by simpa using a) | rfl, fun a => by first | exact h13 (by simpa using a) | rfl⟩
        · obtain rfl := h8 (hdeps 8 (by simp))
          refine wpOp_step (o := ?os43) ?hos43 (fun K hK => ?_)
          case hos43 => simp only [zge]; rfl
          go_simp
          refine hK _ _ ?_
          clear hK K
          try simp only [zpt]
          exact ⟨_, _, _, _, _, _, _, _, _, _, _, rfl, BW, fun a => by first | exact h1 (by simpa using a) | rfl, fun a => by first | exact h3 (by simpa using a) | rfl, fun a => by first | exact h4 (by simpa using a) | rfl, fun a => by first | exact h5 (by simpa using a) | rfl, fun a => by first | exact h6 (by simpa using a) | rfl, fun a => by first | exact h7 (by simpa using a) | rfl, fun a => by first | exact h8 (by simpa using a) | rfl, fun a => by first | exact h9 (by simpa using a) | rfl, fun a => h10 (by simpa using a), fun a => ⟨by simp [(h11 (by simpa using a)).1], (h11 (by simpa using a)).2⟩, fun _ => rfl, fun a => by first | exact h13 (by simpa using a) | rfl⟩
        · obtain rfl := h9 (hdeps 9 (by simp))
          refine wpOp_step (o := ?os44) ?hos44 (fun K hK => ?_)
          case hos44 => simp only [zge]; rfl
          go_simp
          refine hK _ _ ?_
          clear hK K
          try simp only [zpt]
          exact ⟨_, _, _, _, _, _, _, _, _, _, _, rfl, BW, fun a => by first | exact h1 (by simpa using a) | rfl, fun a => by first | exact h3 (by simpa using a) | rfl, fun a => by first | exact h4 (by simpa using a) | rfl, fun a => by first | exact h5 (by simpa using a) | rfl, fun a => by first | exact h6 (by simpa using a) | rfl, fun a => by first | exact h7 (by simpa using a) | rfl, fun a => by first | exact h8 (by simpa using a) | rfl, fun a => by first | exact h9 (by simpa using a) | rfl, fun a => h10 (by simpa using a), fun a => ⟨by simp [(h11 (by simpa using a)).1], (h11 (by simpa using a)).2⟩, fun a => by first | exact h12 (by simpa using a) | rfl, fun _ => rfl⟩
      case fin32 =>
        intro a v32 hI
        obtain ⟨x74, x76, x77, x78, x72, x79, x80, x81, x23, x24, x25, rfl, BW, h1, h3, h4, h5, h6, h7, h8, h9, h10, h11, h12, h13⟩ := hI
        obtain rfl := h1 (by decide)
        obtain rfl := h3 (by decide)
        obtain rfl := h4 (by decide)
        obtain rfl := h5 (by decide)
        obtain rfl := h6 (by decide)
        obtain rfl := h7 (by decide)
        obtain rfl := h8 (by decide)
        obtain rfl := h9 (by decide)
        obtain rfl := h12 (by decide)
        obtain rfl := h13 (by decide)
        clear h1 h3 h4 h5 h6 h7 h8 h9 h12 h13
        obtain ⟨q5, rfl, hq5, hQ⟩ := (h11 (by decide)).2.out
        have BX := Lib.hid hQ
        have hX := BW.out
        replace T := Lib.hid (T.out.low hX)
        replace OL' := Lib.hid (OL'.out.below hX)
        replace PI := Lib.hid (PI.out.below hX)
        replace BP := Lib.hid (BP.out.below hX BP.out.lt)
        replace BR := Lib.hid (BR.out.below hX BR.out.lt)
        replace BA := Lib.hid (BA.out.below hX BA.out.lt)
        replace BB := Lib.hid (BB.out.below hX BB.out.lt)
        replace W := Lib.hid (W.out.trans (hX.mono W.out.size))
        clear hX BW hQ h10 h11 
        try dsimp only
        refine wpAny_done (by kernel_rfl) ?_ _
        have RL2 := OL'.out.rds.1
        clear CK CK' DK' CR CP
        go_upto_region 12 with (fail)
        have hX := (Below.refl v32.heap.size v32).drew
        replace T := Lib.hid (T.out.low hX)
        replace OL' := Lib.hid (OL'.out.below hX)
        replace PI := Lib.hid (PI.out.below hX)
        replace BP := Lib.hid (BP.out.below hX BP.out.lt)
        replace BR := Lib.hid (BR.out.below hX BR.out.lt)
        replace BA := Lib.hid (BA.out.below hX BA.out.lt)
        replace BB := Lib.hid (BB.out.below hX BB.out.lt)
        replace BX := Lib.hid (BX.out.below hX BX.out.lt)
        replace W := Lib.hid (W.out.trans (hX.mono W.out.size))
        clear hX
        refine wp_region_any (by kernel_rfl) ?_
        change wpAny _ _ _ _ _ _ _ (World.drew _)
        generalize v32.drew = wd4 at *
        refine wpAny_take (i := 0) (oi := ?oi45) (v := .slice AL nl cl) ?hi45 (by kernel_rfl) (by kernel_rfl) (by kernel_rfl) ?hQ45 ?hy45 ?rest45
        case hi45 => simp only [zge]; rfl
        case hQ45 => exact fun _ _ _ h => h
        case hy45 => exact Or.inl ⟨by rfl, by intro w; go_simp⟩
        try simp only [zpt]
        refine wpAny_take (i := 2) (oi := ?oi46) (v := .int .i64 k) ?hi46 (by kernel_rfl) (by kernel_rfl) (by kernel_rfl) ?hQ46 ?hy46 ?rest46
        case hi46 => simp only [zge]; rfl
        case hQ46 => exact fun _ _ _ h => h
        case hy46 => exact Or.inl ⟨by rfl, by intro w; go_simp⟩
        try simp only [zpt]
        refine phaseL (fun i => if i = 3 then [1] else if i = 5 then [1, 3, 4] else if i = 6 then [5] else if i = 7 then [6] else if i = 8 then [6] else if i = 9 then [6] else if i = 11 then [10, 7, 5, 1, 3, 4, 6] else if i = 12 then [8, 11, 1, 3, 4, 5, 6, 7, 10] else if i = 13 then [9, 12, 1, 3, 4, 5, 6, 7, 8, 10, 11] else []) (fun d a w' => ∃ x84 x86 x87 x88 x82 x89 x90 x91 x26 x27 x28 : Value, a = { tmps := #[.slice A n c, .slice A' n' c', .int .i64 k, .int .i64 other, .int .i64 v, undef, undef, undef, undef, undef, .bool false, .bool true, .pointer (some ⟨g, 0, none⟩), .slice AL nl cl, .bool true, .pointer (some ⟨q1, 0, none⟩), .pointer (some ⟨q2, 0, none⟩), .pointer (some ⟨q3, 0, none⟩), .bool b0, .bool true, .pointer (some ⟨q4, 0, none⟩), .bool b1, .bool b2, .pointer (some ⟨q5, 0, none⟩), .bool b1, .bool b2, x26, x27, x28, .bool true, .bool true, .bool false, .tuple #[.pointer (some ⟨g, 0, none⟩), .slice AL nl cl, .bool true], .slice A n c, .slice A' n' c', .tuple #[.pointer (some ⟨g, 0, none⟩), .slice AL nl cl, .bool true], .pointer (some ⟨g, 0, none⟩), .slice AL nl cl, .bool true, .bool true, .bool false, .pointer (some ⟨g, 0, none⟩), .int .i64 k, .agg NC.toArray, .agg PP.toArray, .pointer (some ⟨g, 0, none⟩), .agg RC.toArray, .pointer (some ⟨g, 0, none⟩), .int .i64 other, .agg OC.toArray, .int .i64 v, .agg SC.toArray, .bool bb, .tuple #[.agg TC.toArray, .bool b0, .bool true], .agg RC.toArray, .int .i64 k, .agg NC.toArray, .agg PP.toArray, .tuple #[.agg TC.toArray, .bool b0, .bool true], .agg TC.toArray, .bool b0, .bool true, .tuple #[.agg UC.toArray, .bool b1, .bool b2], .pointer (some ⟨g, 0, none⟩), .agg QC.toArray, .int .i64 k, .agg NC.toArray, .agg PP.toArray, .tuple #[.agg UC.toArray, .bool b1, .bool b2], .agg UC.toArray, .bool b1, .bool b2, .tuple #[.agg UC.toArray, .bool b1, .bool b2], .pointer (some ⟨g, 0, none⟩), .agg QC.toArray, .int .i64 k, .agg NC.toArray, .agg PP.toArray, .tuple #[.agg UC.toArray, .bool b1, .bool b2], .agg UC.toArray, .bool b1, .bool b2, x82, .slice AL nl cl, x84, .int .i64 k, x86, x87, x88, x89, x90, x91, undef, undef, undef, undef, undef, undef, undef, undef, undef, undef, undef, undef, undef, undef, undef, undef, undef, undef, undef, undef, undef, undef, undef, undef, undef, undef], defers := [] } ∧ Hid (Below wd4.heap.size wd4 w') ∧ (d 1 = true → x84 = .agg RC.toArray) ∧ (d 3 = true → x86 = .agg NC.toArray) ∧ (d 4 = true → x87 = .agg PP.toArray) ∧ (d 5 = true → x88 = .tuple #[.agg TC.toArray, .bool b0, .bool b3]) ∧ (d 6 = true → x82 = .tuple #[.agg TC.toArray, .bool b0, .bool b3]) ∧ (d 7 = true → x89 = .agg TC.toArray) ∧ (d 8 = true → x90 = .bool b0) ∧ (d 9 = true → x91 = .bool b3) ∧ (d 10 = true → Hid (AtN w' wd4.heap.size x26 30 32)) ∧ (d 11 = true → (d 10 = true ∧ Hid (At w' wd4.heap.size x26 30 TC))) ∧ (d 12 = true → x27 = .bool b0) ∧ (d 13 = true → x28 = .bool b3)) [1, 3, 4, 5, 6, 7, 8, 9, 10, 11, 12, 13] ?step47 0 12 [1, 3, 4, 5, 6, 7, 8, 9, 10, 11, 12, 13] _ _ _ rfl (by decide) (fun _ h => h) (Fits.of (by kernel_rfl)) ?init47 ?fin47
        case init47 => refine ⟨_, _, _, _, _, _, _, _, _, _, _, rfl, Below.refl _ _, ?_, ?_, ?_, ?_, ?_, ?_, ?_, ?_, ?_, ?_, ?_, ?_⟩ <;> (intro h; exact absurd h (by decide))
        case step47 =>
          intro i hi d a v47 hI hdi hdeps
          obtain ⟨x84, x86, x87, x88, x82, x89, x90, x91, x26, x27, x28, rfl, BW, h1, h3, h4, h5, h6, h7, h8, h9, h10, h11, h12, h13⟩ := hI
          have hsw := BW.out.size
          simp only [List.mem_cons, List.not_mem_nil, or_false] at hi
          rcases hi with rfl | rfl | rfl | rfl | rfl | rfl | rfl | rfl | rfl | rfl | rfl | rfl
          · refine wpOp_step (o := ?os48) ?hos48 (fun K hK => ?_)
            case hos48 => simp only [zge]; rfl
            go_simp
            refine (DR.out v47 ((OL'.out.below BW.out).rds.1)).mono ?_
            rintro e u47 ⟨rfl, hX⟩
            refine hK _ _ ?_
            clear hK K
            try simp only [zpt]
            exact ⟨_, _, _, _, _, _, _, _, _, _, _, rfl, BW.out.trans (hX.mono hsw), fun _ => rfl, fun a => by first | exact h3 (by simpa using a) | rfl, fun a => by first | exact h4 (by simpa using a) | rfl, fun a => by first | exact h5 (by simpa using a) | rfl, fun a => by first | exact h6 (by simpa using a) | rfl, fun a => by first | exact h7 (by simpa using a) | rfl, fun a => by first | exact h8 (by simpa using a) | rfl, fun a => by first | exact h9 (by simpa using a) | rfl, fun a => (h10 (by simpa using a)).out.below hX, fun a => ⟨by simp [(h11 (by simpa using a)).1], (h11 (by simpa using a)).2.out.below hX⟩, fun a => by first | exact h12 (by simpa using a) | rfl, fun a => by first | exact h13 (by simpa using a) | rfl⟩
          · refine wpOp_step (o := ?os49) ?hos49 (fun K hK => ?_)
            case hos49 => simp only [zge]; rfl
            go_simp
            refine (CN.out v47 ).mono ?_
            rintro e u47 ⟨rfl, hX⟩
            refine hK _ _ ?_
            clear hK K
            try simp only [zpt]
            exact ⟨_, _, _, _, _, _, _, _, _, _, _, rfl, BW.out.trans (hX.mono hsw), fun a => by first | exact h1 (by simpa using a) | rfl, fun _ => rfl, fun a => by first | exact h4 (by simpa using a) | rfl, fun a => by first | exact h5 (by simpa using a) | rfl, fun a => by first | exact h6 (by simpa using a) | rfl, fun a => by first | exact h7 (by simpa using a) | rfl, fun a => by first | exact h8 (by simpa using a) | rfl, fun a => by first | exact h9 (by simpa using a) | rfl, fun a => (h10 (by simpa using a)).out.below hX, fun a => ⟨by simp [(h11 (by simpa using a)).1], (h11 (by simpa using a)).2.out.below hX⟩, fun a => by first | exact h12 (by simpa using a) | rfl, fun a => by first | exact h13 (by simpa using a) | rfl⟩
          · refine wpOp_step (o := ?os50) ?hos50 (fun K hK => ?_)
            case hos50 => simp only [zge]; rfl
            refine step_loadW rfl 38 (.tmp 15) rfl q1 0 rfl PP _ Tryd.underlying38 rfl IPP.out (BP.out.below BW.out BP.out.lt).cells (hK _ _ ?_)
            clear hK K
            try simp only [zpt]
            exact ⟨_, _, _, _, _, _, _, _, _, _, _, rfl, BW, fun a => by first | exact h1 (by simpa using a) | rfl, fun a => by first | exact h3 (by simpa using a) | rfl, fun _ => rfl, fun a => by first | exact h5 (by simpa using a) | rfl, fun a => by first | exact h6 (by simpa using a) | rfl, fun a => by first | exact h7 (by simpa using a) | rfl, fun a => by first | exact h8 (by simpa using a) | rfl, fun a => by first | exact h9 (by simpa using a) | rfl, fun a => h10 (by simpa using a), fun a => ⟨by simp [(h11 (by simpa using a)).1], (h11 (by simpa using a)).2⟩, fun a => by first | exact h12 (by simpa using a) | rfl, fun a => by first | exact h13 (by simpa using a) | rfl⟩
          · obtain rfl := h1 (hdeps 1 (by simp))
            obtain rfl := h3 (hdeps 3 (by simp))
            obtain rfl := h4 (hdeps 4 (by simp))
            refine wpOp_step (o := ?os51) ?hos51 (fun K hK => ?_)
            case hos51 => simp only [zge]; rfl
            go_simp
            refine (DK.out v47 _ _ (PI.out.below BW.out)).mono ?_
            rintro e u47 ⟨rfl, hX⟩
            refine hK _ _ ?_
            clear hK K
            try simp only [zpt]
            exact ⟨_, _, _, _, _, _, _, _, _, _, _, rfl, BW.out.trans (hX.mono hsw), fun a => by first | exact h1 (by simpa using a) | rfl, fun a => by first | exact h3 (by simpa using a) | rfl, fun a => by first | exact h4 (by simpa using a) | rfl, fun _ => rfl, fun a => by first | exact h6 (by simpa using a) | rfl, fun a => by first | exact h7 (by simpa using a) | rfl, fun a => by first | exact h8 (by simpa using a) | rfl, fun a => by first | exact h9 (by simpa using a) | rfl, fun a => (h10 (by simpa using a)).out.below hX, fun a => ⟨by simp [(h11 (by simpa using a)).1], (h11 (by simpa using a)).2.out.below hX⟩, fun a => by first | exact h12 (by simpa using a) | rfl, fun a => by first | exact h13 (by simpa using a) | rfl⟩
          · obtain rfl := h5 (hdeps 5 (by simp))
            refine wpOp_step (o := ?os52) ?hos52 (fun K hK => ?_)
            case hos52 => simp only [zge]; rfl
            go_simp
            refine hK _ _ ?_
            clear hK K
            try simp only [zpt]
            exact ⟨_, _, _, _, _, _, _, _, _, _, _, rfl, BW, fun a => by first | exact h1 (by simpa using a) | rfl, fun a => by first | exact h3 (by simpa using a) | rfl, fun a => by first | exact h4 (by simpa using a) | rfl, fun a => by first | exact h5 (by simpa using a) | rfl, fun _ => rfl, fun a => by first | exact h7 (by simpa using a) | rfl, fun a => by first | exact h8 (by simpa using a) | rfl, fun a => by first | exact h9 (by simpa using a) | rfl, fun a => h10 (by simpa using a), fun a => ⟨by simp [(h11 (by simpa using a)).1], (h11 (by simpa using a)).2⟩, fun a => by first | exact h12 (by simpa using a) | rfl, fun a => by first | exact h13 (by simpa using a) | rfl⟩
          · obtain rfl := h6 (hdeps 6 (by simp))
            refine wpOp_step (o := ?os53) ?hos53 (fun K hK => ?_)
            case hos53 => simp only [zge]; rfl
            go_simp
            refine hK _ _ ?_
            clear hK K
            try simp only [zpt]
            exact ⟨_, _, _, _, _, _, _, _, _, _, _, rfl, BW, fun a => by first | exact h1 (by simpa using a) | rfl, fun a => by first | exact h3 (by simpa using a) | rfl, fun a => by first | exact h4 (by simpa using a) | rfl, fun a => by first | exact h5 (by simpa using a) | rfl, fun a => by first | exact h6 (by simpa using a) | rfl, fun _ => rfl, fun a => by first | exact h8 (by simpa using a) | rfl, fun a => by first | exact h9 (by simpa using a) | rfl, fun a => h10 (by simpa using a), fun a => ⟨by simp [(h11 (by simpa using a)).1], (h11 (by simpa using a)).2⟩, fun a => by first | exact h12 (by simpa using a) | rfl, fun a => by first | exact h13 (by simpa using a) | rfl⟩
          · obtain rfl := h6 (hdeps 6 (by simp))
            refine wpOp_step (o := ?os54) ?hos54 (fun K hK => ?_)
            case hos54 => simp only [zge]; rfl
            go_simp
            refine hK _ _ ?_
            clear hK K
            try simp only [zpt]
            exact ⟨_, _, _, _, _, _, _, _, _, _, _, rfl, BW, fun a => by first | exact h1 (by simpa using a) | rfl, fun a => by first | exact h3 (by simpa using a) | rfl, fun a => by first | exact h4 (by simpa using a) | rfl, fun a => by first | exact h5 (by simpa using a) | rfl, fun a => by first | exact h6 (by simpa using a) | rfl, fun a => by first | exact h7 (by simpa using a) | rfl, fun _ => rfl, fun a => by first | exact h9 (by simpa using a) | rfl, fun a => h10 (by simpa using a), fun a => ⟨by simp [(h11 (by simpa using a)).1], (h11 (by simpa using a)).2⟩, fun a => by first | exact h12 (by simpa using a) | rfl, fun a => by first | exact h13 (by simpa using a) | rfl⟩
          · obtain rfl := h6 (hdeps 6 (by simp))
            refine wpOp_step (o := ?os55) ?hos55 (fun K hK => ?_)
            case hos55 => simp only [zge]; rfl
            go_simp
            refine hK _ _ ?_
            clear hK K
            try simp only [zpt]
            exact ⟨_, _, _, _, _, _, _, _, _, _, _, rfl, BW, fun a => by first | exact h1 (by simpa using a) | rfl, fun a => by first | exact h3 (by simpa using a) | rfl, fun a => by first | exact h4 (by simpa using a) | rfl, fun a => by first | exact h5 (by simpa using a) | rfl, fun a => by first | exact h6 (by simpa using a) | rfl, fun a => by first | exact h7 (by simpa using a) | rfl, fun a => by first | exact h8 (by simpa using a) | rfl, fun _ => rfl, fun a => h10 (by simpa using a), fun a => ⟨by simp [(h11 (by simpa using a)).1], (h11 (by simpa using a)).2⟩, fun a => by first | exact h12 (by simpa using a) | rfl, fun a => by first | exact h13 (by simpa using a) | rfl⟩
          · have hX := alloc_below v47 (.cells (List.replicate 32 (Value.int .u8 0)).toArray 30)
            refine wpOp_step (o := ?os56) ?hos56 (fun K hK => ?_)
            case hos56 => simp only [zge]; rfl
            go_simp
            refine hK _ _ ?_
            clear hK K
            try simp only [zpt]
            exact ⟨_, _, _, _, _, _, _, _, _, _, _, rfl, BW.out.trans (hX.mono hsw), fun a => by first | exact h1 (by simpa using a) | rfl, fun a => by first | exact h3 (by simpa using a) | rfl, fun a => by first | exact h4 (by simpa using a) | rfl, fun a => by first | exact h5 (by simpa using a) | rfl, fun a => by first | exact h6 (by simpa using a) | rfl, fun a => by first | exact h7 (by simpa using a) | rfl, fun a => by first | exact h8 (by simpa using a) | rfl, fun a => by first | exact h9 (by simpa using a) | rfl, fun _ => (At.new _ _ _ hsw).n rfl, fun a => absurd (h11 (by simpa using a)).1 (by simp [hdi]), fun a => by first | exact h12 (by simpa using a) | rfl, fun a => by first | exact h13 (by simpa using a) | rfl⟩
          · obtain rfl := h7 (hdeps 7 (by simp))
            obtain ⟨qn, hqe, hqB, cs, hQ, hQl⟩ := (h10 (hdeps 10 (by simp))).out
            obtain rfl := hqe
            refine wpOp_step (o := ?os57) ?hos57 (fun K hK => ?_)
            case hos57 => simp only [zge]; rfl
            refine step_storeAll rfl 30 (.tmp 26) (.tmp 89) rfl qn rfl TC rfl 30 cs hQ ITC.out (hQl.trans NTC.out.symm) OTC.out (hK _ _ ?_)
            clear hK K
            have hS : At (v47.setRow qn TC.toArray) wd4.heap.size (.pointer (some ⟨qn, 0, none⟩)) 30 TC := ⟨qn, rfl, hqB, hQ.row⟩
            have hN := hS.n NTC.out
            try simp only [zpt]
            exact ⟨_, _, _, _, _, _, _, _, _, _, _, rfl, below_setRow BW.out hqB _, fun a => by first | exact h1 (by simpa using a) | rfl, fun a => by first | exact h3 (by simpa using a) | rfl, fun a => by first | exact h4 (by simpa using a) | rfl, fun a => by first | exact h5 (by simpa using a) | rfl, fun a => by first | exact h6 (by simpa using a) | rfl, fun a => by first | exact h7 (by simpa using a) | rfl, fun a => by first | exact h8 (by simpa using a) | rfl, fun a => by first | exact h9 (by simpa using a) | rfl, fun a => hN, fun _ => ⟨by simp [hdeps 10 (by simp)], hS⟩, fun a => by first | exact h12 (by simpa using a) | rfl, fun a => by first | exact h13 (by simpa using a) | rfl⟩
          · obtain rfl := h8 (hdeps 8 (by simp))
            refine wpOp_step (o := ?os58) ?hos58 (fun K hK => ?_)
            case hos58 => simp only [zge]; rfl
            go_simp
            refine hK _ _ ?_
            clear hK K
            try simp only [zpt]
            exact ⟨_, _, _, _, _, _, _, _, _, _, _, rfl, BW, fun a => by first | exact h1 (by simpa using a) | rfl, fun a => by first | exact h3 (by simpa using a) | rfl, fun a => by first | exact h4 (by simpa using a) | rfl, fun a => by first | exact h5 (by simpa using a) | rfl, fun a => by first | exact h6 (by simpa using a) | rfl, fun a => by first | exact h7 (by simpa using a) | rfl, fun a => by first | exact h8 (by simpa using a) | rfl, fun a => by first | exact h9 (by simpa using a) | rfl, fun a => h10 (by simpa using a), fun a => ⟨by simp [(h11 (by simpa using a)).1], (h11 (by simpa using a)).2⟩, fun _ => rfl, fun a => by first | exact h13 (by simpa using a) | rfl⟩
          · obtain rfl := h9 (hdeps 9 (by simp))
            refine wpOp_step (o := ?os59) ?hos59 (fun K hK => ?_)
            case hos59 => simp only [zge]; rfl
            go_simp
            refine hK _ _ ?_
            clear hK K
            try simp only [zpt]
            exact ⟨_, _, _, _, _, _, _, _, _, _, _, rfl, BW, fun a => by first | exact h1 (by simpa using a) | rfl, fun a => by first | exact h3 (by simpa using a) | rfl, fun a => by first | exact h4 (by simpa using a) | rfl, fun a => by first | exact h5 (by simpa using a) | rfl, fun a => by first | exact h6 (by simpa using a) | rfl, fun a => by first | exact h7 (by simpa using a) | rfl, fun a => by first | exact h8 (by simpa using a) | rfl, fun a => by first | exact h9 (by simpa using a) | rfl, fun a => h10 (by simpa using a), fun a => ⟨by simp [(h11 (by simpa using a)).1], (h11 (by simpa using a)).2⟩, fun a => by first | exact h12 (by simpa using a) | rfl, fun _ => rfl⟩
        case fin47 =>
          intro a v47 hI
          obtain ⟨x84, x86, x87, x88, x82, x89, x90, x91, x26, x27, x28, rfl, BW, h1, h3, h4, h5, h6, h7, h8, h9, h10, h11, h12, h13⟩ := hI
          obtain rfl := h1 (by decide)
          obtain rfl := h3 (by decide)
          obtain rfl := h4 (by decide)
          obtain rfl := h5 (by decide)
          obtain rfl := h6 (by decide)
          obtain rfl := h7 (by decide)
          obtain rfl := h8 (by decide)
          obtain rfl := h9 (by decide)
          obtain rfl := h12 (by decide)
          obtain rfl := h13 (by decide)
          clear h1 h3 h4 h5 h6 h7 h8 h9 h12 h13
          obtain ⟨q6, rfl, hq6, hQ⟩ := (h11 (by decide)).2.out
          have BW0 := Lib.hid hQ
          have hX := BW.out
          replace T := Lib.hid (T.out.low hX)
          replace OL' := Lib.hid (OL'.out.below hX)
          replace PI := Lib.hid (PI.out.below hX)
          replace BP := Lib.hid (BP.out.below hX BP.out.lt)
          replace BR := Lib.hid (BR.out.below hX BR.out.lt)
          replace BA := Lib.hid (BA.out.below hX BA.out.lt)
          replace BB := Lib.hid (BB.out.below hX BB.out.lt)
          replace BX := Lib.hid (BX.out.below hX BX.out.lt)
          replace W := Lib.hid (W.out.trans (hX.mono W.out.size))
          clear hX BW hQ h10 h11 
          try dsimp only
          refine wpAny_done (by kernel_rfl) ?_ _
          have e0 := E0.out
          have e1 := E1.out
          go_wp2_with (first
            | (with_reducible refine load_when (by kernel_rfl) 30 (.tmp 17) rfl q3 0 rfl TC _ Tryd.underlying30 rfl ITC.out BA.out.cells ?_)
            | (with_reducible refine load_when (by kernel_rfl) 30 (.tmp 26) rfl q6 0 rfl TC _ Tryd.underlying30 rfl ITC.out BW0.out.cells ?_)
            | (with_reducible refine load_when (by kernel_rfl) 30 (.tmp 20) rfl q4 0 rfl UC _ Tryd.underlying30 rfl IUC.out BB.out.cells ?_)
            | (with_reducible refine load_when (by kernel_rfl) 30 (.tmp 23) rfl q5 0 rfl UC _ Tryd.underlying30 rfl IUC.out BX.out.cells ?_))
          go_ret
          exact ⟨rfl, W.out⟩
end Go.Proofs.YtmidbpjdpakkoaaDoor.proofStale
