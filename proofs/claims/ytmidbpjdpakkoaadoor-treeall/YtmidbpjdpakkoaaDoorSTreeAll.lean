import Derived.Test.YtmidbpjdpakkoaaDoorSTbg
namespace Go.Proofs.YtmidbpjdpakkoaaDoor.treeAll
set_option linter.unusedVariables false
set_option linter.unusedSimpArgs false
set_option maxRecDepth 100000
open Go.RowKit
set_option maxRecDepth 100000 in
set_option maxHeartbeats 4000000 in
theorem walk (hB : BegunOk) {A A' : Option Addr} {n c n' c' : Nat} {ks vs : List Int}  (w : World) (hg : Gl w) (ha : RdZ w A n c ks) (hb : RdZ w A' n' c' vs) :
    Calls Tryd.prog 3 #[.slice A n c, .slice A' n' c'] w fun e w' => e = .returned (.bool true) ∧ Below w.heap.size w w' := by
  have HG := Lib.hid hg
  have hsz := hg.size
  have CG : Hid (∀ W, Below w.heap.size w W → Calls Tryd.prog 14 #[] W fun e w' => e = .returned (.bool true) ∧ Below W.heap.size W w') := fun W hW => hB (hg.below hW hsz)
  have CGR : Hid (∀ W, Below w.heap.size w W → Calls Tryd.prog 15 #[.slice A n c, .slice A' n' c', .int .i64 12] W fun e w' => ∃ g v l, e = .returned (.tuple #[.pointer (some ⟨g, 0, none⟩), v, .bool true]) ∧ W.heap.size ≤ g ∧ TreeAt w' g l ∧ Ow2 w' W.heap.size 47 64 v (pairs l) ∧ l.length ≤ 12 ∧ Below W.heap.size W w') := fun W hW => grown_any (hg.below hW hsz) (ha.below hW) (hb.below hW) (most := 12) (by omega)
  have BZ0 := Lib.hid zero_built
  have IZ := Lib.hid zero_info
  have OZ := Lib.hid zero_one
  have HZL : Hid ((List.replicate 32 (Value.int .u8 0)).length = 32) := rfl
  have HZN : Hid (Tm.none32.map cellOf = (List.replicate 32 (Value.int .u8 0))) := rfl
  have ZB0 : Hid (∀ W : World, Blk (W.alloc (.cells (List.replicate 32 (Value.int .u8 0)).toArray 30)) W.heap.size 30 (List.replicate 32 (Value.int .u8 0))) := fun W => Blk.new W 30 _
  have ZPB : Hid (∀ W : World, Blk (W.alloc (.cells (proofL (.slice none 0 0) false (List.replicate 32 (Value.int .u8 0)) (List.replicate 32 (Value.int .u8 0))).toArray 38)) W.heap.size 38 (proofL (.slice none 0 0) false (List.replicate 32 (Value.int .u8 0)) (List.replicate 32 (Value.int .u8 0)))) := fun W => Blk.new W 38 _
  have HZP : Hid ((proofL (.slice none 0 0) false (List.replicate 32 (Value.int .u8 0)) (List.replicate 32 (Value.int .u8 0))).length = 66) := rfl
  obtain ⟨Z, hZ⟩ : ∃ Z, Z = List.replicate 32 (Value.int .u8 0) := ⟨_, rfl⟩
  rw [← hZ] at BZ0 IZ OZ HZL HZN
  have ZB : Hid (∀ W : World, Blk (W.alloc (.cells (List.replicate 32 (Value.int .u8 0)).toArray 30)) W.heap.size 30 Z) := fun W => by rw [hZ]; exact ZB0.out W
  have HZE : Hid ((List.replicate 32 (Value.int .u8 0)) = Z) := hZ.symm
  obtain ⟨ZP, hZP⟩ : ∃ Z, Z = (proofL (.slice none 0 0) false (List.replicate 32 (Value.int .u8 0)) (List.replicate 32 (Value.int .u8 0))) := ⟨_, rfl⟩
  have ZPB' : Hid (∀ W : World, Blk (W.alloc (.cells (proofL (.slice none 0 0) false (List.replicate 32 (Value.int .u8 0)) (List.replicate 32 (Value.int .u8 0))).toArray 38)) W.heap.size 38 ZP) := fun W => by rw [hZP]; exact ZPB.out W
  have HZPE : Hid ((proofL (.slice none 0 0) false (List.replicate 32 (Value.int .u8 0)) (List.replicate 32 (Value.int .u8 0))) = ZP) := hZP.symm
  rw [← hZP] at HZP
  have W := Lib.hid (Below.refl w.heap.size w)
  clear hg ha hb hZ hZP ZB0 ZPB
  go_enter Tryd.func3, Tryd.ntmps3
  go_upto_region 4 with (first
    | (go_at_call 14; refine (CG.out w W.out).mono ?_; rintro e w2 ⟨rfl, hX⟩; replace W := Lib.hid (W.out.trans (hX.mono W.out.size)); clear hX))
  go_upto_region 5 with (first
    | (go_at_call 15; refine (CGR.out w2 W.out).mono ?_; rintro e w3 ⟨g, vl, l, rfl, hgw0, hT, hO, hlen, hX⟩; obtain ⟨AL, cl, hvl0, hRL, _⟩ := hO.rd; obtain rfl := hvl0; have T := Lib.hid hT; have RL := Lib.hid hRL; have HLN := Lib.hid hlen; have hgw := Nat.le_trans W.out.size hgw0; have W2S := W.out.size; replace W := Lib.hid (W.out.trans (hX.mono W.out.size)); have OL := Lib.hid (hO.base W2S); clear hT hO hX hRL hgw0 hlen W2S CGR CG))
  obtain ⟨nl, hnl⟩ : ∃ z, z = (pairs l).length := ⟨_, rfl⟩
  have HNL : Hid (nl = l.length) := by unfold Hid; rw [hnl]; simp [pairs]
  rw [← hnl] at RL ⊢
  have OL' : Hid (Ow2 w3 w.heap.size 47 64 (.slice AL nl cl) (pairs l)) := by rw [hnl]; exact OL.out
  clear hnl OL
  have hfit := T.out.fit
  have hrl := Tm.root_length 0 l
  have CLN : Hid (∀ W, TreeAt W g l → Calls Tryd.prog 16 #[.pointer (some ⟨g, 0, none⟩)] W fun e w' => e = .returned (.int .i64 (nl : Int)) ∧ W = w') := fun W hT => by
    have := tlen_any hT
    rwa [← HNL.out] at this
  have CR : Hid (∀ W, TreeAt W g l → Calls Tryd.prog 17 #[.pointer (some ⟨g, 0, none⟩)] W fun e w' => e = .returned (hv (Tm.root 0 l)) ∧ Below W.heap.size W w') := fun W hT => troot_any hT
  have DR : Hid (∀ W, Rd2 W 64 AL nl cl (pairs l) → Calls Tryd.prog 18 #[.slice AL nl cl, .int .i64 0] W fun e w' => e = .returned (hv (Tm.root 0 l)) ∧ Below W.heap.size W w') := fun W hR => rroot_any 257 l 0 rfl hR hfit (by have := HLN.out; have := HNL.out; omega)
  have ER := Lib.hid (hash_eq (Tm.root 0 l) (Tm.root 0 l) hrl hrl)
  rw [decide_eq_true rfl] at ER
  have HRD : Hid (∀ W, Ow2 W w.heap.size 47 64 (.slice AL nl cl) (pairs l) → Rd2 W 64 AL nl cl (pairs l)) := fun W h => h.rds.1
  unfold hv at CR DR
  have IRC := Lib.hid (hash_info (hrl))
  have ORC := Lib.hid (cells_u8 (Tm.root 0 l))
  have LRC : Hid (Z.length = ((Tm.root 0 l).map cellOf).length) := by unfold Hid; rw [List.length_map, hrl, HZL.out]
  obtain ⟨RC, hRC⟩ : ∃ L, L = (Tm.root 0 l).map cellOf := ⟨_, rfl⟩
  have NRC : Hid (RC.length = 32) := by unfold Hid; rw [hRC, List.length_map, hrl]
  rw [← hRC] at IRC ORC LRC CR DR ER
  have ERC := Lib.hid hRC
  clear hRC
  have er := ER.out
  go_upto_region 7 with (first
    | (go_at_call 16; refine (CLN.out w3 T.out).mono ?_; rintro e w4 ⟨rfl, rfl⟩; skip)
    | (go_at_call 17; refine (CR.out w3 T.out).mono ?_; rintro e w4 ⟨rfl, hX⟩; replace T := Lib.hid (T.out.low hX); replace OL' := Lib.hid (OL'.out.below hX); replace W := Lib.hid (W.out.trans (hX.mono W.out.size)); clear hX)
    | (go_at_call 18; refine (DR.out w4 (HRD.out _ OL'.out)).mono ?_; rintro e w5 ⟨rfl, hX⟩; replace T := Lib.hid (T.out.low hX); replace OL' := Lib.hid (OL'.out.below hX); replace W := Lib.hid (W.out.trans (hX.mono W.out.size)); clear hX))
  clear er ER CLN
  go_wp2_with fail
  go_loopw [9] (fun iv wr => ∃ m : Nat, m ≤ 25 ∧ iv = .int .i64 (m : Int) ∧ Hid (TreeAt wr g l) ∧ Hid (Ow2 wr w.heap.size 47 64 (.slice AL nl cl) (pairs l)) ∧ Hid (Below w.heap.size w wr)) (fun i _ => 25 - (intOf i).toNat)
  case atStart => exact ⟨0, Nat.zero_le _, rfl, T, OL', W⟩
  case round =>
    clear T OL' W
    obtain ⟨m, hmm, rfl, T, OL', W⟩ := hrel
    by_cases h1 : m < 24
    case neg =>
      have d1 : decide ((m : Int) < 24) = false := decide_eq_false (by omega)
      go_wp2_with fail
      go_ret
      exact ⟨rfl, W.out⟩
    have d1 : decide ((m : Int) < 24) = true := decide_eq_true (by omega)
    have hkl := nm_length (m : Int)
    have hgl := get_length (k := nm (m : Int)) hfit.len
    obtain ⟨P, hP⟩ : ∃ P, P = Tm.prove l (nm (m : Int)) := ⟨_, rfl⟩
    have hPI : ∀ W B x, PrfAt W B x P → PrfIn W x P := fun W B x h => by rw [hP] at h ⊢; exact prove_in hfit h
    have CN : Hid (∀ W, Calls Tryd.prog 20 #[.int .i64 (m : Int)] W fun e w' => e = .returned (hv (nm (m : Int))) ∧ Below W.heap.size W w') := fun W => nm_any _ (by omega) (by omega) W
    have CGT : Hid (∀ W, TreeAt W g l → Calls Tryd.prog 19 #[.pointer (some ⟨g, 0, none⟩), hv (nm (m : Int))] W fun e w' => e = .returned (.tuple #[hv ((Tm.get (nm (m : Int)) l).getD Tm.none32), .bool (Tm.get (nm (m : Int)) l).isSome]) ∧ Below W.heap.size W w') := fun W hT => tget_any hT hkl
    have CV : Hid (∀ W, TreeAt W g l → Calls Tryd.prog 21 #[.pointer (some ⟨g, 0, none⟩), hv (nm (m : Int))] W fun e w' => ∃ PP : List Value, e = .returned (.agg PP.toArray) ∧ PrfAt w' W.heap.size (.agg PP.toArray) P ∧ (Tryd.prog.info? 38).map (·.size) = some PP.length ∧ (∀ v ∈ PP, v.oneCell' = true) ∧ PP.length = 66 ∧ Below W.heap.size W w') := fun W hT => by rw [hP]; exact prove_row hT hkl
    have DV : Hid (∀ W, Rd2 W 64 AL nl cl (pairs l) → Calls Tryd.prog 22 #[.slice AL nl cl, hv (nm (m : Int))] W fun e w' => ∃ PP : List Value, e = .returned (.agg PP.toArray) ∧ PrfAt w' W.heap.size (.agg PP.toArray) P ∧ (Tryd.prog.info? 38).map (·.size) = some PP.length ∧ (∀ v ∈ PP, v.oneCell' = true) ∧ PP.length = 66 ∧ Below W.heap.size W w') := fun W hR => by rw [hP]; exact rprove_row hR hfit (by have := HLN.out; have := HNL.out; omega) hkl
    have DK : Hid (∀ W B x, PrfAt W B x P → Calls Tryd.prog 23 #[hv (Tm.root 0 l), hv (nm (m : Int)), x] W fun e w' => e = .returned (.tuple #[hv ((Tm.get (nm (m : Int)) l).getD Tm.none32), .bool (Tm.get (nm (m : Int)) l).isSome, .bool true]) ∧ Below W.heap.size W w') := fun W B x hQ => by
      have := rcheck_any (hPI W B x hQ) hrl hkl
      rw [hP, Tm.prove_told hfit, Tm.prove_holds hfit, Tm.prove_there hfit] at this
      exact this
    have CE : Hid (∀ W B B' x y, PrfAt W B x P → PrfAt W B' y P → Calls Tryd.prog 24 #[x, y] W fun e w' => e = .returned (.bool true) ∧ Below W.heap.size W w') := fun W B B' x y h h' => eqproof_same (hPI W B x h) (hPI W B' y h')
    have E0 := Lib.hid (hash_eq _ _ hgl hgl)
    rw [decide_eq_true rfl] at E0
    unfold hv at CN CGT CV DV DK
    rw [← ERC.out] at DK
    have INC := Lib.hid (hash_info (hkl))
    have ONC := Lib.hid (cells_u8 (nm (m : Int)))
    have LNC : Hid (Z.length = ((nm (m : Int)).map cellOf).length) := by unfold Hid; rw [List.length_map, hkl, HZL.out]
    obtain ⟨NC, hNC⟩ : ∃ L, L = (nm (m : Int)).map cellOf := ⟨_, rfl⟩
    have NNC : Hid (NC.length = 32) := by unfold Hid; rw [hNC, List.length_map, hkl]
    rw [← hNC] at INC ONC LNC CN CGT CV DV DK
    have ENC := Lib.hid hNC
    clear hNC
    have ITC := Lib.hid (hash_info (hgl))
    have OTC := Lib.hid (cells_u8 ((Tm.get (nm (m : Int)) l).getD Tm.none32))
    have LTC : Hid (Z.length = (((Tm.get (nm (m : Int)) l).getD Tm.none32).map cellOf).length) := by unfold Hid; rw [List.length_map, hgl, HZL.out]
    obtain ⟨TC, hTC⟩ : ∃ L, L = ((Tm.get (nm (m : Int)) l).getD Tm.none32).map cellOf := ⟨_, rfl⟩
    have NTC : Hid (TC.length = 32) := by unfold Hid; rw [hTC, List.length_map, hgl]
    rw [← hTC] at ITC OTC LTC CGT DK E0
    have ETC := Lib.hid hTC
    clear hTC
    obtain ⟨b0, hb0⟩ : ∃ b, b = (Tm.get (nm (m : Int)) l).isSome := ⟨_, rfl⟩
    rw [← hb0] at CGT DK
    clear hb0 hPI hP hkl hgl
    go_upto_region 11 with (first
      | (go_at_call 20; refine (CN.out wr).mono ?_; rintro e w6 ⟨rfl, hX⟩; replace T := Lib.hid (T.out.low hX); replace OL' := Lib.hid (OL'.out.below hX); replace W := Lib.hid (W.out.trans (hX.mono W.out.size)); clear hX)
      | (go_at_call 19; refine (CGT.out w6 T.out).mono ?_; rintro e w7 ⟨rfl, hX⟩; replace T := Lib.hid (T.out.low hX); replace OL' := Lib.hid (OL'.out.below hX); replace W := Lib.hid (W.out.trans (hX.mono W.out.size)); clear hX)
      | ((with_reducible refine storeGen_law rfl 30 (.tmp 10) (.tmp 52) rfl w7.heap.size rfl TC rfl 30 Z ITC.out LTC.out OTC.out w7.heap.size w7 ?_ ?_ (Nat.le_refl _) ?_)
         · exact ZB.out w7
         · exact alloc_below w7 _
         intro w8 BS hX'; have hX := hX'.out; clear hX'; replace T := Lib.hid (T.out.low hX); replace OL' := Lib.hid (OL'.out.below hX); replace W := Lib.hid (W.out.trans (hX.mono W.out.size)); clear hX))
    obtain ⟨q1, hq1⟩ : ∃ q, q = w7.heap.size := ⟨_, rfl⟩
    rw [← hq1] at BS ⊢
    clear hq1 d1
    go_upto_region 12 with (first
      | (go_at_call 20; refine (CN.out w8).mono ?_; rintro e w9 ⟨rfl, hX⟩; replace T := Lib.hid (T.out.low hX); replace OL' := Lib.hid (OL'.out.below hX); replace BS := Lib.hid (BS.out.below hX BS.out.lt); replace W := Lib.hid (W.out.trans (hX.mono W.out.size)); clear hX)
      | (go_at_call 21; refine (CV.out w9 T.out).mono ?_; rintro e wa ⟨Pa, rfl, hPI, hp1, hp2, hp3, hX⟩; replace T := Lib.hid (T.out.low hX); replace OL' := Lib.hid (OL'.out.below hX); replace BS := Lib.hid (BS.out.below hX BS.out.lt); replace W := Lib.hid (W.out.trans (hX.mono W.out.size)); clear hX; have PIa := Lib.hid hPI; have IPa := Lib.hid hp1; have OPa := Lib.hid hp2; have LPa : Hid (ZP.length = Pa.length) := HZP.out.trans hp3.symm; clear hPI hp1 hp2 hp3)
      | (go_at_call 20; refine (CN.out wa).mono ?_; rintro e wb ⟨rfl, hX⟩; replace T := Lib.hid (T.out.low hX); replace OL' := Lib.hid (OL'.out.below hX); replace BS := Lib.hid (BS.out.below hX BS.out.lt); replace PIa := Lib.hid (PIa.out.below hX); replace W := Lib.hid (W.out.trans (hX.mono W.out.size)); clear hX)
      | (go_at_call 22; refine (DV.out wb (HRD.out _ OL'.out)).mono ?_; rintro e wc ⟨Pb, rfl, hPI, hp1, hp2, hp3, hX⟩; replace T := Lib.hid (T.out.low hX); replace OL' := Lib.hid (OL'.out.below hX); replace BS := Lib.hid (BS.out.below hX BS.out.lt); replace PIa := Lib.hid (PIa.out.below hX); replace W := Lib.hid (W.out.trans (hX.mono W.out.size)); clear hX; have PIb := Lib.hid hPI; have IPb := Lib.hid hp1; have OPb := Lib.hid hp2; have LPb : Hid (ZP.length = Pb.length) := HZP.out.trans hp3.symm; clear hPI hp1 hp2 hp3)
      | ((with_reducible refine storeAll_law rfl 38 (.tmp 12) (.tmp 57) rfl wc.heap.size rfl Pa rfl 38 ZP ?_ IPa.out LPa.out OPa.out ?_); exact (ZPB'.out wc).alloc _)
      | ((with_reducible refine storeAll_law rfl 38 (.tmp 13) (.tmp 61) rfl (wc.heap.size + 1) rfl Pb rfl 38 ZP ?_ IPb.out LPb.out OPb.out ?_); exact (show Blk _ (wc.heap.size + 1) 38 ZP by have := ZPB'.out (wc.alloc (.cells (proofL (.slice none 0 0) false (List.replicate 32 (Value.int .u8 0)) (List.replicate 32 (Value.int .u8 0))).toArray 38)); rwa [World.size_alloc] at this).rowFar (by omega) _))
    obtain ⟨h1u, h2u, hX⟩ := two_new wc 38 38 (proofL (.slice none 0 0) false (List.replicate 32 (Value.int .u8 0)) (List.replicate 32 (Value.int .u8 0))) (proofL (.slice none 0 0) false (List.replicate 32 (Value.int .u8 0)) (List.replicate 32 (Value.int .u8 0))) Pa Pb
    change Code.wp _ _ _ _ ((((wc.alloc (.cells (proofL (.slice none 0 0) false (List.replicate 32 (Value.int .u8 0)) (List.replicate 32 (Value.int .u8 0))).toArray 38)).alloc (.cells (proofL (.slice none 0 0) false (List.replicate 32 (Value.int .u8 0)) (List.replicate 32 (Value.int .u8 0))).toArray 38)).setRow wc.heap.size Pa.toArray).setRow (wc.heap.size + 1) Pb.toArray)
    have BPa := Lib.hid h1u
    have BPb := Lib.hid h2u
    clear h1u h2u
    generalize (((wc.alloc (.cells (proofL (.slice none 0 0) false (List.replicate 32 (Value.int .u8 0)) (List.replicate 32 (Value.int .u8 0))).toArray 38)).alloc (.cells (proofL (.slice none 0 0) false (List.replicate 32 (Value.int .u8 0)) (List.replicate 32 (Value.int .u8 0))).toArray 38)).setRow wc.heap.size Pa.toArray).setRow (wc.heap.size + 1) Pb.toArray = wd0 at *
    replace T := Lib.hid (T.out.low hX)
    replace OL' := Lib.hid (OL'.out.below hX)
    replace BS := Lib.hid (BS.out.below hX BS.out.lt)
    replace PIa := Lib.hid (PIa.out.below hX)
    replace PIb := Lib.hid (PIb.out.below hX)
    replace W := Lib.hid (W.out.trans (hX.mono W.out.size))
    obtain ⟨q2, hq2⟩ : ∃ q, q = wc.heap.size := ⟨_, rfl⟩
    obtain ⟨q3, hq3⟩ : ∃ q, q = wc.heap.size + 1 := ⟨_, rfl⟩
    rw [← hq3, ← hq2]
    rw [← hq2] at BPa
    rw [← hq3] at BPb
    clear hq2 hq3 hX
    have hX := (Below.refl wd0.heap.size wd0).drew
    replace T := Lib.hid (T.out.low hX)
    replace OL' := Lib.hid (OL'.out.below hX)
    replace BS := Lib.hid (BS.out.below hX BS.out.lt)
    replace PIa := Lib.hid (PIa.out.below hX)
    replace PIb := Lib.hid (PIb.out.below hX)
    replace BPa := Lib.hid (BPa.out.below hX BPa.out.lt)
    replace BPb := Lib.hid (BPb.out.below hX BPb.out.lt)
    replace W := Lib.hid (W.out.trans (hX.mono W.out.size))
    clear hX
    refine wp_region_any (by kernel_rfl) ?_
    change wpAny _ _ _ _ _ _ _ (World.drew _)
    generalize wd0.drew = wd at *
    refine wpAny_take (i := 0) (oi := ?oi1) (v := .slice AL nl cl) ?hi1 (by kernel_rfl) (by kernel_rfl) (by kernel_rfl) ?hQ1 ?hy1 ?rest1
    case hi1 => simp only [zge]; rfl
    case hQ1 => exact fun _ _ _ h => h
    case hy1 => exact Or.inl ⟨by rfl, by intro w; go_simp⟩
    try simp only [zpt]
    refine wpAny_take (i := 2) (oi := ?oi2) (v := .int .i64 (m : Int)) ?hi2 (by kernel_rfl) (by kernel_rfl) (by kernel_rfl) ?hQ2 ?hy2 ?rest2
    case hi2 => simp only [zge]; rfl
    case hQ2 => exact fun _ _ _ h => h
    case hy2 => exact Or.inl ⟨by rfl, by intro w; go_simp⟩
    try simp only [zpt]
    refine phaseL (fun i => if i = 3 then [1] else if i = 5 then [1, 3, 4] else if i = 6 then [5] else if i = 7 then [6] else if i = 8 then [6] else if i = 9 then [6] else if i = 11 then [10, 7, 5, 1, 3, 4, 6] else if i = 12 then [8, 11, 1, 3, 4, 5, 6, 7, 10] else if i = 13 then [9, 12, 1, 3, 4, 5, 6, 7, 8, 10, 11] else []) (fun d a w' => ∃ x64 x66 x67 x68 x62 x69 x70 x71 x14 x15 x16 : Value, a = { tmps := #[.slice A n c, .slice A' n' c', undef, undef, u4, .bool true, .pointer (some ⟨g, 0, none⟩), .slice AL nl cl, .bool true, .int .i64 (m : Int), .pointer (some ⟨q1, 0, none⟩), .bool b0, .pointer (some ⟨q2, 0, none⟩), .pointer (some ⟨q3, 0, none⟩), x14, x15, x16, .bool true, .bool true, .bool false, .tuple #[.pointer (some ⟨g, 0, none⟩), .slice AL nl cl, .bool true], .slice A n c, .slice A' n' c', .tuple #[.pointer (some ⟨g, 0, none⟩), .slice AL nl cl, .bool true], .pointer (some ⟨g, 0, none⟩), .slice AL nl cl, .bool true, .bool true, .bool false, .bool false, .pointer (some ⟨g, 0, none⟩), .int .i64 (nl : Int), .slice AL nl cl, .int .i64 (nl : Int), .bool false, .bool false, .bool false, .pointer (some ⟨g, 0, none⟩), .agg RC.toArray, .slice AL nl cl, .agg RC.toArray, .bool false, .bool false, .int .i64 (m : Int), .bool true, u45, u46, .tuple #[.agg TC.toArray, .bool b0], .pointer (some ⟨g, 0, none⟩), .int .i64 (m : Int), .agg NC.toArray, .tuple #[.agg TC.toArray, .bool b0], .agg TC.toArray, .bool b0, .pointer (some ⟨g, 0, none⟩), .int .i64 (m : Int), .agg NC.toArray, .agg Pa.toArray, .slice AL nl cl, .int .i64 (m : Int), .agg NC.toArray, .agg Pb.toArray, x62, .slice AL nl cl, x64, .int .i64 (m : Int), x66, x67, x68, x69, x70, x71, u72, u73, u74, u75, u76, u77, u78, u79, u80, u81, u82, u83, u84, u85], defers := [] } ∧ Hid (Below wd.heap.size wd w') ∧ (d 1 = true → x64 = .agg RC.toArray) ∧ (d 3 = true → x66 = .agg NC.toArray) ∧ (d 4 = true → x67 = .agg Pb.toArray) ∧ (d 5 = true → x68 = .tuple #[.agg TC.toArray, .bool b0, .bool true]) ∧ (d 6 = true → x62 = .tuple #[.agg TC.toArray, .bool b0, .bool true]) ∧ (d 7 = true → x69 = .agg TC.toArray) ∧ (d 8 = true → x70 = .bool b0) ∧ (d 9 = true → x71 = .bool true) ∧ (d 10 = true → Hid (AtN w' wd.heap.size x14 30 32)) ∧ (d 11 = true → (d 10 = true ∧ Hid (At w' wd.heap.size x14 30 TC))) ∧ (d 12 = true → x15 = .bool b0) ∧ (d 13 = true → x16 = .bool true)) [1, 3, 4, 5, 6, 7, 8, 9, 10, 11, 12, 13] ?step3 0 12 [1, 3, 4, 5, 6, 7, 8, 9, 10, 11, 12, 13] _ _ _ rfl (by decide) (fun _ h => h) (Fits.of (by kernel_rfl)) ?init3 ?fin3
    case init3 => refine ⟨_, _, _, _, _, _, _, _, _, _, _, rfl, Below.refl _ _, ?_, ?_, ?_, ?_, ?_, ?_, ?_, ?_, ?_, ?_, ?_, ?_⟩ <;> (intro h; exact absurd h (by decide))
    case step3 =>
      intro i hi d a v3 hI hdi hdeps
      obtain ⟨x64, x66, x67, x68, x62, x69, x70, x71, x14, x15, x16, rfl, BW, h1, h3, h4, h5, h6, h7, h8, h9, h10, h11, h12, h13⟩ := hI
      have hsw := BW.out.size
      simp only [List.mem_cons, List.not_mem_nil, or_false] at hi
      rcases hi with rfl | rfl | rfl | rfl | rfl | rfl | rfl | rfl | rfl | rfl | rfl | rfl
      · refine wpOp_step (o := ?os4) ?hos4 (fun K hK => ?_)
        case hos4 => simp only [zge]; rfl
        go_simp
        refine (DR.out v3 (HRD.out _ (OL'.out.below BW.out))).mono ?_
        rintro e u3 ⟨rfl, hX⟩
        refine hK _ _ ?_
        clear hK K
        try simp only [zpt]
        exact ⟨_, _, _, _, _, _, _, _, _, _, _, rfl, BW.out.trans (hX.mono hsw), fun _ => rfl, fun a => by first | exact h3 (by simpa using a) | rfl, fun a => by first | exact h4 (by simpa using a) | rfl, fun a => by first | exact h5 (by simpa using a) | rfl, fun a => by first | exact h6 (by simpa using a) | rfl, fun a => by first | exact h7 (by simpa using a) | rfl, fun a => by first | exact h8 (by simpa using a) | rfl, fun a => by first | exact h9 (by simpa using a) | rfl, fun a => (h10 (by simpa using a)).out.below hX, fun a => ⟨by simp [(h11 (by simpa using a)).1], (h11 (by simpa using a)).2.out.below hX⟩, fun a => by first | exact h12 (by simpa using a) | rfl, fun a => by first | exact h13 (by simpa using a) | rfl⟩
      · refine wpOp_step (o := ?os5) ?hos5 (fun K hK => ?_)
        case hos5 => simp only [zge]; rfl
        go_simp
        refine (CN.out v3 ).mono ?_
        rintro e u3 ⟨rfl, hX⟩
        refine hK _ _ ?_
        clear hK K
        try simp only [zpt]
        exact ⟨_, _, _, _, _, _, _, _, _, _, _, rfl, BW.out.trans (hX.mono hsw), fun a => by first | exact h1 (by simpa using a) | rfl, fun _ => rfl, fun a => by first | exact h4 (by simpa using a) | rfl, fun a => by first | exact h5 (by simpa using a) | rfl, fun a => by first | exact h6 (by simpa using a) | rfl, fun a => by first | exact h7 (by simpa using a) | rfl, fun a => by first | exact h8 (by simpa using a) | rfl, fun a => by first | exact h9 (by simpa using a) | rfl, fun a => (h10 (by simpa using a)).out.below hX, fun a => ⟨by simp [(h11 (by simpa using a)).1], (h11 (by simpa using a)).2.out.below hX⟩, fun a => by first | exact h12 (by simpa using a) | rfl, fun a => by first | exact h13 (by simpa using a) | rfl⟩
      · refine wpOp_step (o := ?os6) ?hos6 (fun K hK => ?_)
        case hos6 => simp only [zge]; rfl
        refine step_loadW rfl 38 (.tmp 13) rfl q3 0 rfl Pb _ Tryd.underlying38 rfl IPb.out (BPb.out.below BW.out BPb.out.lt).cells (hK _ _ ?_)
        clear hK K
        try simp only [zpt]
        exact ⟨_, _, _, _, _, _, _, _, _, _, _, rfl, BW, fun a => by first | exact h1 (by simpa using a) | rfl, fun a => by first | exact h3 (by simpa using a) | rfl, fun _ => rfl, fun a => by first | exact h5 (by simpa using a) | rfl, fun a => by first | exact h6 (by simpa using a) | rfl, fun a => by first | exact h7 (by simpa using a) | rfl, fun a => by first | exact h8 (by simpa using a) | rfl, fun a => by first | exact h9 (by simpa using a) | rfl, fun a => h10 (by simpa using a), fun a => ⟨by simp [(h11 (by simpa using a)).1], (h11 (by simpa using a)).2⟩, fun a => by first | exact h12 (by simpa using a) | rfl, fun a => by first | exact h13 (by simpa using a) | rfl⟩
      · obtain rfl := h1 (hdeps 1 (by simp))
        obtain rfl := h3 (hdeps 3 (by simp))
        obtain rfl := h4 (hdeps 4 (by simp))
        refine wpOp_step (o := ?os7) ?hos7 (fun K hK => ?_)
        case hos7 => simp only [zge]; rfl
        go_simp
        refine (DK.out v3 _ _ (PIb.out.below BW.out)).mono ?_
        rintro e u3 ⟨rfl, hX⟩
        refine hK _ _ ?_
        clear hK K
        try simp only [zpt]
        exact ⟨_, _, _, _, _, _, _, _, _, _, _, rfl, BW.out.trans (hX.mono hsw), fun a => by first | exact h1 (by simpa using a) | rfl, fun a => by first | exact h3 (by simpa using a) | rfl, fun a => by first | exact h4 (by simpa using a) | rfl, fun _ => rfl, fun a => by first | exact h6 (by simpa using a) | rfl, fun a => by first | exact h7 (by simpa using a) | rfl, fun a => by first | exact h8 (by simpa using a) | rfl, fun a => by first | exact h9 (by simpa using a) | rfl, fun a => (h10 (by simpa using a)).out.below hX, fun a => ⟨by simp [(h11 (by simpa using a)).1], (h11 (by simpa using a)).2.out.below hX⟩, fun a => by first | exact h12 (by simpa using a) | rfl, fun a => by first | exact h13 (by simpa using a) | rfl⟩
      · obtain rfl := h5 (hdeps 5 (by simp))
        refine wpOp_step (o := ?os8) ?hos8 (fun K hK => ?_)
        case hos8 => simp only [zge]; rfl
        go_simp
        refine hK _ _ ?_
        clear hK K
        try simp only [zpt]
        exact ⟨_, _, _, _, _, _, _, _, _, _, _, rfl, BW, fun a => by first | exact h1 (by simpa using a) | rfl, fun a => by first | exact h3 (by simpa using a) | rfl, fun a => by first | exact h4 (by simpa using a) | rfl, fun a => by first | exact h5 (by simpa using a) | rfl, fun _ => rfl, fun a => by first | exact h7 (by simpa using a) | rfl, fun a => by first | exact h8 (by simpa using a) | rfl, fun a => by first | exact h9 (by simpa using a) | rfl, fun a => h10 (by simpa using a), fun a => ⟨by simp [(h11 (by simpa using a)).1], (h11 (by simpa using a)).2⟩, fun a => by first | exact h12 (by simpa using a) | rfl, fun a => by first | exact h13 (by simpa using a) | rfl⟩
      · obtain rfl := h6 (hdeps 6 (by simp))
        refine wpOp_step (o := ?os9) ?hos9 (fun K hK => ?_)
        case hos9 => simp only [zge]; rfl
        go_simp
        refine hK _ _ ?_
        clear hK K
        try simp only [zpt]
        exact ⟨_, _, _, _, _, _, _, _, _, _, _, rfl, BW, fun a => by first | exact h1 (by simpa using a) | rfl, fun a => by first | exact h3 (by simpa using a) | rfl, fun a => by first | exact h4 (by simpa using a) | rfl, fun a => by first | exact h5 (by simpa using a) | rfl, fun a => by first | exact h6 (by simpa using a) | rfl, fun _ => rfl, fun a => by first | exact h8 (by simpa using a) | rfl, fun a => by first | exact h9 (by simpa using a) | rfl, fun a => h10 (by simpa using a), fun a => ⟨by simp [(h11 (by simpa using a)).1], (h11 (by simpa using a)).2⟩, fun a => by first | exact h12 (by simpa using a) | rfl, fun a => by first | exact h13 (by simpa using a) | rfl⟩
      · obtain rfl := h6 (hdeps 6 (by simp))
        refine wpOp_step (o := ?os10) ?hos10 (fun K hK => ?_)
        case hos10 => simp only [zge]; rfl
        go_simp
        refine hK _ _ ?_
        clear hK K
        try simp only [zpt]
        exact ⟨_, _, _, _, _, _, _, _, _, _, _, rfl, BW, fun a => by first | exact h1 (by simpa using a) | rfl, fun a => by first | exact h3 (by simpa using a) | rfl, fun a => by first | exact h4 (by simpa using a) | rfl, fun a => by first | exact h5 (by simpa using a) | rfl, fun a => by first | exact h6 (by simpa using a) | rfl, fun a => by first | exact h7 (by simpa using a) | rfl, fun _ => rfl, fun a => by first | exact h9 (by simpa using a) | rfl, fun a => h10 (by simpa using a), fun a => ⟨by simp [(h11 (by simpa using a)).1], (h11 (by simpa using a)).2⟩, fun a => by first | exact h12 (by simpa using a) | rfl, fun a => by first | exact h13 (by simpa using a) | rfl⟩
      · obtain rfl := h6 (hdeps 6 (by simp))
        refine wpOp_step (o := ?os11) ?hos11 (fun K hK => ?_)
        case hos11 => simp only [zge]; rfl
        go_simp
        refine hK _ _ ?_
        clear hK K
        try simp only [zpt]
        exact ⟨_, _, _, _, _, _, _, _, _, _, _, rfl, BW, fun a => by first | exact h1 (by simpa using a) | rfl, fun a => by first | exact h3 (by simpa using a) | rfl, fun a => by first | exact h4 (by simpa using a) | rfl, fun a => by first | exact h5 (by simpa using a) | rfl, fun a => by first | exact h6 (by simpa using a) | rfl, fun a => by first | exact h7 (by simpa using a) | rfl, fun a => by first | exact h8 (by simpa using a) | rfl, fun _ => rfl, fun a => h10 (by simpa using a), fun a => ⟨by simp [(h11 (by simpa using a)).1], (h11 (by simpa using a)).2⟩, fun a => by first | exact h12 (by simpa using a) | rfl, fun a => by first | exact h13 (by simpa using a) | rfl⟩
      · have hX := alloc_below v3 (.cells (List.replicate 32 (Value.int .u8 0)).toArray 30)
        refine wpOp_step (o := ?os12) ?hos12 (fun K hK => ?_)
        case hos12 => simp only [zge]; rfl
        go_simp
        refine hK _ _ ?_
        clear hK K
        try simp only [zpt]
        exact ⟨_, _, _, _, _, _, _, _, _, _, _, rfl, BW.out.trans (hX.mono hsw), fun a => by first | exact h1 (by simpa using a) | rfl, fun a => by first | exact h3 (by simpa using a) | rfl, fun a => by first | exact h4 (by simpa using a) | rfl, fun a => by first | exact h5 (by simpa using a) | rfl, fun a => by first | exact h6 (by simpa using a) | rfl, fun a => by first | exact h7 (by simpa using a) | rfl, fun a => by first | exact h8 (by simpa using a) | rfl, fun a => by first | exact h9 (by simpa using a) | rfl, fun _ => (At.new _ _ _ hsw).n rfl, fun a => absurd (h11 (by simpa using a)).1 (by simp [hdi]), fun a => by first | exact h12 (by simpa using a) | rfl, fun a => by first | exact h13 (by simpa using a) | rfl⟩
      · obtain rfl := h7 (hdeps 7 (by simp))
        obtain ⟨qn, hqe, hqB, cs, hQ, hQl⟩ := (h10 (hdeps 10 (by simp))).out
        obtain rfl := hqe
        refine wpOp_step (o := ?os13) ?hos13 (fun K hK => ?_)
        case hos13 => simp only [zge]; rfl
        refine step_storeAll rfl 30 (.tmp 14) (.tmp 69) rfl qn rfl TC rfl 30 cs hQ ITC.out (hQl.trans NTC.out.symm) OTC.out (hK _ _ ?_)
        clear hK K
        have hS : At (v3.setRow qn TC.toArray) wd.heap.size (.pointer (some ⟨qn, 0, none⟩)) 30 TC := ⟨qn, rfl, hqB, hQ.row⟩
        have hN := hS.n NTC.out
        try simp only [zpt]
        exact ⟨_, _, _, _, _, _, _, _, _, _, _, rfl, below_setRow BW.out hqB _, fun a => by first | exact h1 (by simpa using a) | rfl, fun a => by first | exact h3 (by simpa using a) | rfl, fun a => by first | exact h4 (by simpa using a) | rfl, fun a => by first | exact h5 (by simpa using a) | rfl, fun a => by first | exact h6 (by simpa using a) | rfl, fun a => by first | exact h7 (by simpa using a) | rfl, fun a => by first | exact h8 (by simpa using a) | rfl, fun a => by first | exact h9 (by simpa using a) | rfl, fun a => hN, fun _ => ⟨by simp [hdeps 10 (by simp)], hS⟩, fun a => by first | exact h12 (by simpa using a) | rfl, fun a => by first | exact h13 (by simpa using a) | rfl⟩
      · obtain rfl := h8 (hdeps 8 (by simp))
        refine wpOp_step (o := ?os14) ?hos14 (fun K hK => ?_)
        case hos14 => simp only [zge]; rfl
        go_simp
        refine hK _ _ ?_
        clear hK K
        try simp only [zpt]
        exact ⟨_, _, _, _, _, _, _, _, _, _, _, rfl, BW, fun a => by first | exact h1 (by simpa using a) | rfl, fun a => by first | exact h3 (by simpa using a) | rfl, fun a => by first | exact h4 (by simpa using a) | rfl, fun a => by first | exact h5 (by simpa using a) | rfl, fun a => by first | exact h6 (by simpa using a) | rfl, fun a => by first | exact h7 (by simpa using a) | rfl, fun a => by first | exact h8 (by simpa using a) | rfl, fun a => by first | exact h9 (by simpa using a) | rfl, fun a => h10 (by simpa using a), fun a => ⟨by simp [(h11 (by simpa using a)).1], (h11 (by simpa using a)).2⟩, fun _ => rfl, fun a => by first | exact h13 (by simpa using a) | rfl⟩
      · obtain rfl := h9 (hdeps 9 (by simp))
        refine wpOp_step (o := ?os15) ?hos15 (fun K hK => ?_)
        case hos15 => simp only [zge]; rfl
        go_simp
        refine hK _ _ ?_
        clear hK K
        try simp only [zpt]
        exact ⟨_, _, _, _, _, _, _, _, _, _, _, rfl, BW, fun a => by first | exact h1 (by simpa using a) | rfl, fun a => by first | exact h3 (by simpa using a) | rfl, fun a => by first | exact h4 (by simpa using a) | rfl, fun a => by first | exact h5 (by simpa using a) | rfl, fun a => by first | exact h6 (by simpa using a) | rfl, fun a => by first | exact h7 (by simpa using a) | rfl, fun a => by first | exact h8 (by simpa using a) | rfl, fun a => by first | exact h9 (by simpa using a) | rfl, fun a => h10 (by simpa using a), fun a => ⟨by simp [(h11 (by simpa using a)).1], (h11 (by simpa using a)).2⟩, fun a => by first | exact h12 (by simpa using a) | rfl, fun _ => rfl⟩
    case fin3 =>
      intro a v3 hI
      obtain ⟨x64, x66, x67, x68, x62, x69, x70, x71, x14, x15, x16, rfl, BW, h1, h3, h4, h5, h6, h7, h8, h9, h10, h11, h12, h13⟩ := hI
      obtain rfl := h1 (by decide)
      obtain rfl := h3 (by decide)
      obtain rfl := h4 (by decide)
      obtain rfl := h5 (by decide)
      obtain rfl := h6 (by decide)
      obtain rfl := h7 (by decide)
      obtain rfl := h8 (by decide)
      obtain rfl := h9 (by decide)
      obtain rfl := h12 (by decide)
      obtain rfl := h13 (by decide)
      clear h1 h3 h4 h5 h6 h7 h8 h9 h12 h13
      obtain ⟨q4, rfl, hq4, hQ⟩ := (h11 (by decide)).2.out
      have BX := Lib.hid hQ
      have hX := BW.out
      replace T := Lib.hid (T.out.low hX)
      replace OL' := Lib.hid (OL'.out.below hX)
      replace BS := Lib.hid (BS.out.below hX BS.out.lt)
      replace PIa := Lib.hid (PIa.out.below hX)
      replace PIb := Lib.hid (PIb.out.below hX)
      replace BPa := Lib.hid (BPa.out.below hX BPa.out.lt)
      replace BPb := Lib.hid (BPb.out.below hX BPb.out.lt)
      replace W := Lib.hid (W.out.trans (hX.mono W.out.size))
      clear hX BW hQ h10 h11 
      try dsimp only
      refine wpAny_done (by kernel_rfl) ?_ _
      have e0 := E0.out
      have hbb : (b0 != b0) = false := by simp
      go_wp2_with (first
        | (with_reducible refine load_law rfl 30 (.tmp 10) rfl q1 0 rfl TC _ Tryd.underlying30 rfl ITC.out BS.out.cells ?_)
        | (with_reducible refine load_law rfl 30 (.tmp 14) rfl q4 0 rfl TC _ Tryd.underlying30 rfl ITC.out BX.out.cells ?_)
        | (with_reducible refine load_when (by kernel_rfl) 38 (.tmp 12) rfl q2 0 rfl Pa _ Tryd.underlying38 rfl IPa.out BPa.out.cells ?_)
        | (with_reducible refine load_when (by kernel_rfl) 38 (.tmp 13) rfl q3 0 rfl Pb _ Tryd.underlying38 rfl IPb.out BPb.out.cells ?_)
        | (go_at_call 24; refine (CE.out v3 _ _ _ _ PIa.out PIb.out).mono ?_; rintro e we ⟨rfl, hX⟩; replace T := Lib.hid (T.out.low hX); replace OL' := Lib.hid (OL'.out.below hX); replace BS := Lib.hid (BS.out.below hX BS.out.lt); replace PIa := Lib.hid (PIa.out.below hX); replace PIb := Lib.hid (PIb.out.below hX); replace BPa := Lib.hid (BPa.out.below hX BPa.out.lt); replace BPb := Lib.hid (BPb.out.below hX BPb.out.lt); replace BX := Lib.hid (BX.out.below hX BX.out.lt); replace W := Lib.hid (W.out.trans (hX.mono W.out.size)); clear hX))
      go_roundw
      case rel => exact ⟨m + 2, by omega, by go_num, T, OL', W⟩
      case measure => simp [intOf]; omega
end Go.Proofs.YtmidbpjdpakkoaaDoor.treeAll
