import Derived.Test.YtnfbkimkdnbohaaGreatDoorSAead
set_option linter.unusedVariables false
set_option linter.unusedSimpArgs false
set_option maxRecDepth 100000
set_option maxHeartbeats 8000000
namespace Go.Proofs.YtnfbkimkdnbohaaGreatDoor
open Go.RowKit
def rfcKey:List UInt8:=[0x85,0xd6,0xbe,0x78,0x57,0x55,0x6d,0x33,0x7f,0x44,0x52,0xfe,0x42,0xd5,0x06,0xa8,0x01,0x03,0x80,0x8a,0xfb,0x0d,0xb2,0xfd,0x4a,0xbf,0xf6,0xaf,0x41,0x49,0xf5,0x1b]
def rfcText:List UInt8:=[67,114,121,112,116,111,103,114,97,112,104,105,99,32,70,111,114,117,109,32,82,101,115,101,97,114,99,104,32,71,114,111,117,112]
theorem rfc_tag:((Pol.tag rfcKey rfcText).getD 0 0).toNat=168/\((Pol.tag rfcKey rfcText).getD 15 0).toNat=169:=by decide
theorem rfc_qr:(Cha.qr 286331153 16909060 2609737539 19088743).1=3928658676/\(Cha.qr 286331153 16909060 2609737539 19088743).2.2.2=1484899515:=by decide
theorem rfc_pad:padTo 32 rfcKey=rfcKey:=rfl
theorem begun4_any (hA:AeOk) {w:World} (hg:Gl w):Calls Tryz.prog 99 #[] w fun e w'=>e = .returned (.bool true)/\Below w.heap.size w w':=by
 have HG:=qh hg
 have HAE:=qh hA
 have hsz:=hg.size
 clear hg hA
 have hcv:=conv23
 have hcva:=conv23a
 go_enter Tryz.func99,Tryz.ntmps99
 go_wp2_with fail
 refine (quarter_any 286331153 16909060 2609737539 19088743 w).mono ?_
 rintro e w' ⟨rfl,rfl⟩
 obtain ⟨w,rfl⟩:=zx (w')
 obtain ⟨⟨qa,qb,qc,qd⟩,hq⟩:=zx (Cha.qr 286331153 16909060 2609737539 19088743)
 have hq0:qa=3928658676:=by have:=rfc_qr.1; rw [<- hq] at this; exact this
 have hq3:qd=1484899515:=by have:=rfc_qr.2; rw [<- hq] at this; exact this
 rw [<- hq]
 clear hq
 subst hq0
 subst hq3
 unfold four
 dsimp only
 go_wp2_with fail
 obtain ⟨w1,hw1⟩:=zx (w.alloc (.cells (rfcKey.map cellOf).toArray 5))
 have R1:Hid (Rd w1 (some ⟨w.heap.size,0,none⟩) 32 32 rfcKey):=by unfold Hid; rw [hw1]; exact lit_bytes w _ _ 32 _ (by rfl) rfl (by omega) rfl
 have X1:Hid (Below w.heap.size w w1):=by unfold Hid; rw [hw1]; exact alloc_below _ _
 have hk1:=key_any R1.out
 rw [rfc_pad] at hk1
 have HK1:=qh hk1
 clear hk1
 have hk2:Hid (Calls Tryz.prog 113 #[.slice (some ⟨w.heap.size,0,none⟩) 32 32] (w.alloc (.cells (rfcKey.map cellOf).toArray 5)) fun e w'=>e = .returned (.agg (rfcKey.map cellOf).toArray)/\Below w1.heap.size w1 w'):=by rw [<- hw1]; exact HK1
 refine hk2.out.mono ?_
 rintro e w2 ⟨rfl,hX2⟩
 have X2:=qt X1 hX2
 have R2:=qh (R1.out.below hX2)
 obtain ⟨kc,hkc⟩:=zx (rfcKey.map cellOf)
 rw [<- hkc]
 have HKC:=qh hkc
 clear hX2 hk2 HK1 hw1 R1 X1 hkc
 go_wp2_with fail
 obtain ⟨w3,hw3⟩:=zx (w2.alloc (.cells (rfcText.map cellOf).toArray 5 (34,35)))
 have R3:Hid (Rd w3 (some ⟨w2.heap.size,0,none⟩) 34 34 rfcText):=by unfold Hid; rw [hw3]; exact lit_bytesF w2 _ _ 34 _ _ (by rfl) rfl (by omega) rfl
 have X3:Hid (Below w.heap.size w w3):=by unfold Hid; rw [hw3]; exact X2.out.alloc X2.out.size _
 have R23:Hid (Rd w3 (some ⟨w.heap.size,0,none⟩) 32 32 rfcKey):=by unfold Hid; rw [hw3]; exact R2.out.below (alloc_below _ _)
 have ht1:Hid (Calls Tryz.prog 103 #[.agg kc.toArray,.slice (some ⟨w2.heap.size,0,none⟩) 34 34] (w2.alloc (.cells (rfcText.map cellOf).toArray 5 (34,35))) fun e w'=>e = .returned (.agg ((Pol.tag rfcKey rfcText).map cellOf).toArray)/\Below w3.heap.size w3 w'):=by
  rw [<- hw3,HKC.out]
  exact ptag_any rfcKey rfl R3.out
 refine ht1.out.mono ?_
 rintro e w4 ⟨rfl,hX4⟩
 obtain ⟨T,hT⟩:=zx ((Pol.tag rfcKey rfcText).map cellOf)
 rw [<- hT]
 have hTl:T.length=16:=by rw [hT,List.length_map,Pol.tag,Pol.bytesN_length]
 have t0:T[0]?=some (.int .u8 168):=by
  rw [hT,List.getElem?_map,List.getElem?_eq_getElem (by rw [Pol.tag,Pol.bytesN_length]; omega)]
  have:=rfc_tag.1
  rw [List.getD_eq_getElem?_getD,List.getElem?_eq_getElem (by rw [Pol.tag,Pol.bytesN_length]; omega)] at this
  simp only [Option.getD_some] at this
  simp [cellOf,this]
 have t15:T[15]?=some (.int .u8 169):=by
  rw [hT,List.getElem?_map,List.getElem?_eq_getElem (by rw [Pol.tag,Pol.bytesN_length]; omega)]
  have:=rfc_tag.2
  rw [List.getD_eq_getElem?_getD,List.getElem?_eq_getElem (by rw [Pol.tag,Pol.bytesN_length]; omega)] at this
  simp only [Option.getD_some] at this
  simp [cellOf,this]
 have IT:Hid ((Tryz.prog.info? 116).map (·.size)=some T.length):=by unfold Hid; rw [hTl]; kernel_rfl
 have LT:Hid ((List.replicate 16 (Value.int .u8 0)).length=T.length):=by unfold Hid; rw [hTl]; rfl
 have OT:Hid (∀ v ∈ T,v.oneCell'=true):=by unfold Hid; rw [hT]; exact cells_u8 _
 have T0:=qh t0
 have T15:=qh t15
 have X4:=qt X3 hX4
 have R4:=qh (R23.out.below hX4)
 clear hX4 hT hTl t0 t15 ht1 hw3 R3 R23 X3 X2 R2
 go_upto_region 4 with (first
  | ((with_reducible refine storeGen_law rfl 116 (.tmp 6) (.tmp 21) rfl w4.heap.size rfl T rfl 116 (List.replicate 16 (.int .u8 0)) IT.out LT.out OT.out w4.heap.size w4 ?_ ?_ (Nat.le_refl _) ?_)
     ·exact Blk.at_new _ _ 116 _ _ (by rfl) rfl
     ·exact (Below.refl _ _).alloc (Nat.le_refl _) _
     intro w5 B5 X5))
 have W5:=qt X4 X5.out
 obtain ⟨gt,hgt⟩:=zx (w4.heap.size)
 rw [<- hgt] at B5
 rw [<- hgt]
 have XX5:=qh X5.out
 clear X4 X5 hgt IT LT OT
 have R5:=qh (R4.out.below XX5.out)
 clear XX5 R4
 have CK:Hid (∀ W,Rd W (some ⟨w.heap.size,0,none⟩) 32 32 rfcKey->Calls Tryz.prog 113 #[.slice (some ⟨w.heap.size,0,none⟩) 32 32] W fun e w'=>e = .returned (.agg kc.toArray)/\Below W.heap.size W w'):=fun W h=>by
  have:=key_any h
  rw [rfc_pad,<- HKC.out] at this
  exact this
 obtain ⟨non,hnon⟩:=zx (padTo 12 ([]:List UInt8))
 have LNO:Hid (non.length=12):=by unfold Hid; rw [hnon,padTo_length]
 obtain ⟨nc,hnc⟩:=zx (non.map cellOf)
 have CN:Hid (∀ W:World,Calls Tryz.prog 114 #[.slice none 0 0] W fun e w'=>e = .returned (.agg nc.toArray)/\Below W.heap.size W w'):=fun W=>by rw [hnc,hnon]; exact nonce_any (Rd.nil W none 0 (by unfold maxLen; omega))
 have CS:Hid (∀ (W:World) (A A':Option Addr),Rd W A 1 1 [97]->Rd W A' 2 2 [98,99]->Calls Tryz.prog 55 #[.agg kc.toArray,.agg nc.toArray,.slice A 1 1,.slice A' 2 2] W (RetR W (Ae.sealed rfcKey non [97] [98,99]))):=fun W A A' h1 h2=>by rw [HKC.out,hnc]; exact HAE.out.s rfcKey non rfl LNO.out h1 h2 (by omega) (by omega)
 have CO:Hid (∀ (W:World) (A A':Option Addr) (nx cx:Nat),Rd W A 1 1 [97]->Rd W A' nx cx (Ae.sealed rfcKey non [97] [98,99])->nx<=10000->Calls Tryz.prog 69 #[.agg kc.toArray,.agg nc.toArray,.slice A 1 1,.slice A' nx cx] W (RetO W [98,99] true)):=fun W A A' nx cx h1 h2 hx=>by
  have:=HAE.out.o rfcKey non rfl LNO.out h1 h2 (by omega) hx
  rw [opened_sealed,Ae.opens_sealed] at this
  rw [HKC.out,hnc]
  exact this
 have LSE:Hid ((Ae.sealed rfcKey non [97] [98,99]).length=18):=by unfold Hid; rw [Ae.sealed_length]; rfl
 obtain ⟨se,hse⟩:=zx (Ae.sealed rfcKey non [97] [98,99])
 rw [<- hse] at CS CO LSE
 clear hnon hnc hse
 go_wp2_with fail
 refine (CK.out _ R5.out).mono ?_
 rintro e w6 ⟨rfl,hX⟩
 have W6:=qt W5 hX
 have R6:=qh (R5.out.below hX)
 have B6:=qh (B5.out.below hX B5.out.lt)
 clear hX W5 R5 B5
 go_wp2_with fail
 refine (CN.out _).mono ?_
 rintro e w7 ⟨rfl,hX⟩
 have W7:=qt W6 hX
 have R7:=qh (R6.out.below hX)
 have B7:=qh (B6.out.below hX B6.out.lt)
 clear hX W6 R6 B6
 go_wp2_with fail
 obtain ⟨w8,hw8⟩:=zx (w7.alloc (.cells #[.int .u8 97] 5 (1,2)))
 obtain ⟨w9,hw9⟩:=zx (w8.alloc (.cells #[.int .u8 98,.int .u8 99] 5 (2,3)))
 have s8:w8.heap.size=w7.heap.size + 1:=by rw [hw8]; simp
 have X8:Below w7.heap.size w7 w8:=by rw [hw8]; exact alloc_below _ _
 have X9:Below w7.heap.size w7 w9:=by rw [hw9]; exact X8.alloc X8.size _
 have R8:Rd w9 (some ⟨w7.heap.size,0,none⟩) 1 1 [97]:=by
  rw [hw9]
  refine Rd.below ?_ (alloc_below _ _)
  rw [hw8]
  exact lit_bytesF w7 _ _ 1 _ _ (by rfl) rfl (by omega) rfl
 have R9:Rd w9 (some ⟨w7.heap.size + 1,0,none⟩) 2 2 [98,99]:=by rw [hw9]; exact lit_bytesF w8 _ _ 2 _ _ (by rfl) rfl (by omega) s8.symm
 have hcall:=qh (CS.out w9 _ _ R8 R9)
 have W9:=qt W7 X9
 have RK9:=qh (R7.out.below X9)
 have B9:=qh (B7.out.below X9 B7.out.lt)
 rw [hw9,hw8] at hcall
 refine hcall.out.mono ?_
 rintro e wa ⟨AS,ns,cs,rfl,hRS,hXS⟩
 rw [<- hw8,<- hw9] at hXS
 obtain rfl:ns=18:=by rw [<- hRS.len]; exact LSE.out
 have Wa:=qt W9 hXS
 have Ra:=qh (RK9.out.below hXS)
 have Ba:=qh (B9.out.below hXS B9.out.lt)
 have RSa:=qh hRS
 clear hRS hXS hcall R8 R9 X8 X9 hw8 hw9 s8 W9 RK9 B9 W7 R7 B7 CS
 go_wp2_with fail
 refine (CK.out _ Ra.out).mono ?_
 rintro e wb ⟨rfl,hX⟩
 have Wb:=qt Wa hX
 have RSb:=qh (RSa.out.below hX)
 have Bb:=qh (Ba.out.below hX Ba.out.lt)
 clear hX Wa Ra RSa Ba
 go_wp2_with fail
 refine (CN.out _).mono ?_
 rintro e wc ⟨rfl,hX⟩
 have Wc:=qt Wb hX
 have RSc:=qh (RSb.out.below hX)
 have Bc:=qh (Bb.out.below hX Bb.out.lt)
 clear hX Wb RSb Bb
 go_wp2_with fail
 obtain ⟨wd,hwd⟩:=zx (wc.alloc (.cells #[.int .u8 97] 5 (1,2)))
 have Xd:Below wc.heap.size wc wd:=by rw [hwd]; exact alloc_below _ _
 have Rd1:Rd wd (some ⟨wc.heap.size,0,none⟩) 1 1 [97]:=by rw [hwd]; exact lit_bytesF wc _ _ 1 _ _ (by rfl) rfl (by omega) rfl
 have hcall:=qh (CO.out wd _ _ _ _ Rd1 (RSc.out.below Xd) (by omega))
 have Wd:=qt Wc Xd
 have Bd:=qh (Bc.out.below Xd Bc.out.lt)
 rw [hwd] at hcall
 refine hcall.out.mono ?_
 rintro e we ⟨AO,no,co,rfl,hRO,hXO⟩
 rw [<- hwd] at hXO
 obtain rfl:no=2:=hRO.len.symm
 have We:=qt Wd hXO
 have Be:=qh (Bd.out.below hXO Bd.out.lt)
 have ROe:=qh hRO
 have HGe:=qh (HG.out.below We.out HG.out.size)
 clear hRO hXO hcall Rd1 Xd hwd Wd Bd Wc Bc RSc CO CK CN
 go_wp2_with (first | (go_at_call 27; refine (begun3_any HGe.out).mono ?_; rintro e wf ⟨rfl,HB⟩; have Xf:=qh HB; have c0:wf.cell? ⟨gt,0,none⟩=some (.int .u8 168):=(by rw [(Be.out.below HB Be.out.lt).cell]; exact T0.out); have c15:wf.cell? ⟨gt,15,none⟩=some (.int .u8 169):=(by rw [(Be.out.below HB Be.out.lt).cell]; exact T15.out); have hcs:=conv_bytes (ROe.out.below HB); clear HB))
 go_ret
 exact ⟨rfl,zt We.out Xf.out⟩
end Go.Proofs.YtnfbkimkdnbohaaGreatDoor
