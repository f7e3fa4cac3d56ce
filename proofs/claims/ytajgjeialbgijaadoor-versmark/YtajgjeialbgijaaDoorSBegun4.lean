import Derived.Test.YtajgjeialbgijaaDoorSAead
import Derived.Test.YtajgjeialbgijaaDoorSGcha
import Derived.Test.YtajgjeialbgijaaDoorSGrow
import Derived.Test.YtajgjeialbgijaaDoorSGsha3
import Derived.Test.YtajgjeialbgijaaDoorSGtag
namespace Go.Proofs.YtajgjeialbgijaaDoor
set_option linter.unusedVariables false
set_option linter.unusedSimpArgs false
set_option maxRecDepth 100000
open Go.RowKit
def rfcKey:List UInt8:=[0x85,0xd6,0xbe,0x78,0x57,0x55,0x6d,0x33,0x7f,0x44,0x52,0xfe,0x42,0xd5,0x06,0xa8,0x01,0x03,0x80,0x8a,0xfb,0x0d,0xb2,0xfd,0x4a,0xbf,0xf6,0xaf,0x41,0x49,0xf5,0x1b]
def rfcText:List UInt8:=[67,114,121,112,116,111,103,114,97,112,104,105,99,32,70,111,114,117,109,32,82,101,115,101,97,114,99,104,32,71,114,111,117,112]
set_option maxRecDepth 100000 in
theorem rfc_tag:((Pol.tag rfcKey rfcText).getD 0 0).toNat=168/\((Pol.tag rfcKey rfcText).getD 15 0).toNat=169:=by decide
set_option maxRecDepth 100000 in
theorem rfc_qr:(Cha.qr 286331153 16909060 2609737539 19088743).1=3928658676/\(Cha.qr 286331153 16909060 2609737539 19088743).2.2.2=1484899515:=by decide
theorem rfc_pad:padTo 32 rfcKey=rfcKey:=rfl
set_option maxRecDepth 100000 in
set_option maxHeartbeats 4000000 in
theorem begun4_any (hA:AeOk) {w:World} (hg:Gl w):Calls Tryd.prog 61 #[] w fun e w'=>e = .returned (.bool true)/\Below w.heap.size w w':=by
 have HG:=Lib.hid hg
 have HAE:=Lib.hid hA
 have hsz:=hg.size
 clear hg hA
 have hcv:=conv23
 have hcva:=conv23a
 go_enter Tryd.func61,Tryd.ntmps61
 go_wp2_with fail
 refine (quarter_any 286331153 16909060 2609737539 19088743 w).mono ?_
 rintro e w' ⟨rfl,rfl⟩
 obtain ⟨w,rfl⟩:∃ w1,w1=w':=⟨_,rfl⟩
 obtain ⟨⟨qa,qb,qc,qd⟩,hq⟩:∃ q,q=Cha.qr 286331153 16909060 2609737539 19088743:=⟨_,rfl⟩
 have hq0:qa=3928658676:=by have:=rfc_qr.1; rw [<- hq] at this; exact this
 have hq3:qd=1484899515:=by have:=rfc_qr.2; rw [<- hq] at this; exact this
 rw [<- hq]
 clear hq
 subst hq0
 subst hq3
 unfold four
 dsimp only
 go_wp2_with fail
 obtain ⟨w1,hw1⟩:∃ x,x=w.alloc (.cells (rfcKey.map cellOf).toArray 5):=⟨_,rfl⟩
 have R1:Hid (Rd w1 (some ⟨w.heap.size,0,none⟩) 32 32 rfcKey):=by unfold Hid; rw [hw1]; exact lit_bytes w _ _ 32 _ (by rfl) rfl (by omega) rfl
 have X1:Hid (Below w.heap.size w w1):=by unfold Hid; rw [hw1]; exact alloc_below _ _
 have hk1:=key_any R1.out
 rw [rfc_pad] at hk1
 have HK1:=Lib.hid hk1
 clear hk1
 have hk2:Hid (Calls Tryd.prog 81 #[.slice (some ⟨w.heap.size,0,none⟩) 32 32] (w.alloc (.cells (rfcKey.map cellOf).toArray 5)) fun e w'=>e = .returned (.agg (rfcKey.map cellOf).toArray)/\Below w1.heap.size w1 w'):=by rw [<- hw1]; exact HK1
 refine hk2.out.mono ?_
 rintro e w2 ⟨rfl,hX2⟩
 have X2:=Lib.hid (X1.out.trans (hX2.mono X1.out.size))
 have R2:=Lib.hid (R1.out.below hX2)
 obtain ⟨kc,hkc⟩:∃ c,c=rfcKey.map cellOf:=⟨_,rfl⟩
 rw [<- hkc]
 have HKC:=Lib.hid hkc
 clear hX2 hk2 HK1 hw1 R1 X1 hkc
 go_wp2_with fail
 obtain ⟨w3,hw3⟩:∃ x,x=w2.alloc (.cells (rfcText.map cellOf).toArray 5 (34,35)):=⟨_,rfl⟩
 have R3:Hid (Rd w3 (some ⟨w2.heap.size,0,none⟩) 34 34 rfcText):=by unfold Hid; rw [hw3]; exact lit_bytesF w2 _ _ 34 _ _ (by rfl) rfl (by omega) rfl
 have X3:Hid (Below w.heap.size w w3):=by unfold Hid; rw [hw3]; exact X2.out.alloc X2.out.size _
 have R23:Hid (Rd w3 (some ⟨w.heap.size,0,none⟩) 32 32 rfcKey):=by unfold Hid; rw [hw3]; exact R2.out.below (alloc_below _ _)
 have ht1:Hid (Calls Tryd.prog 80 #[.agg kc.toArray,.slice (some ⟨w2.heap.size,0,none⟩) 34 34] (w2.alloc (.cells (rfcText.map cellOf).toArray 5 (34,35))) fun e w'=>e = .returned (.agg ((Pol.tag rfcKey rfcText).map cellOf).toArray)/\Below w3.heap.size w3 w'):=by
  rw [<- hw3,HKC.out]
  exact ptag_any rfcKey rfl R3.out
 refine ht1.out.mono ?_
 rintro e w4 ⟨rfl,hX4⟩
 obtain ⟨T,hT⟩:∃ T,T=(Pol.tag rfcKey rfcText).map cellOf:=⟨_,rfl⟩
 rw [<- hT]
 have hTl:T.length=16:=by rw [hT,List.length_map,Pol.tag,Pol.bytesN_length]
 have t0:T[0]?=some (.int .u8 168):=by
  rw [hT,List.getElem?_map,List.getElem?_eq_getElem (by rw [Pol.tag,Pol.bytesN_length]; omega)]
  have:=rfc_tag.1
  rw [List.getD_eq_getElem?_getD,List.getElem?_eq_getElem (by rw [Pol.tag,Pol.bytesN_length]; omega)] at this
  simp only [Option.getD_some] at this
  simp [cellOf,this]
 have t15:T[15]?=some (.int .u8 169):=by
  rw [hT,List.getElem?_map,List.getElem?_eq_getElem (by rw [Pol.tag,Pol.bytesN_length]; omega)]
  have:=rfc_tag.2
  rw [List.getD_eq_getElem?_getD,List.getElem?_eq_getElem (by rw [Pol.tag,Pol.bytesN_length]; omega)] at this
  simp only [Option.getD_some] at this
  simp [cellOf,this]
 have IT:Hid ((Tryd.prog.info? 128).map (·.size)=some T.length):=by unfold Hid; rw [hTl]; kernel_rfl
 have LT:Hid ((List.replicate 16 (Value.int .u8 0)).length=T.length):=by unfold Hid; rw [hTl]; rfl
 have OT:Hid (∀ v ∈ T,v.oneCell'=true):=by unfold Hid; rw [hT]; exact cells_u8 _
 have T0:=Lib.hid t0
 have T15:=Lib.hid t15
 have X4:=Lib.hid (X3.out.trans (hX4.mono X3.out.size))
 have R4:=Lib.hid (R23.out.below hX4)
 clear hX4 hT hTl t0 t15 ht1 hw3 R3 R23 X3 X2 R2
 go_upto_region 4 with (first
  | ((with_reducible refine storeGen_law rfl 128 (.tmp 6) (.tmp 21) rfl w4.heap.size rfl T rfl 128 (List.replicate 16 (.int .u8 0)) IT.out LT.out OT.out w4.heap.size w4 ?_ ?_ (Nat.le_refl _) ?_)
     ·exact Blk.at_new _ _ 128 _ _ (by rfl) rfl
     ·exact (Below.refl _ _).alloc (Nat.le_refl _) _
     intro w5 B5 X5))
 have W5:=Lib.hid (X4.out.trans (X5.out.mono X4.out.size))
 obtain ⟨gt,hgt⟩:∃ g,g=w4.heap.size:=⟨_,rfl⟩
 rw [<- hgt] at B5
 rw [<- hgt]
 have XX5:=Lib.hid X5.out
 clear X4 X5 hgt IT LT OT
 have R5:=Lib.hid (R4.out.below XX5.out)
 clear XX5 R4
 have CK:Hid (∀ W,Rd W (some ⟨w.heap.size,0,none⟩) 32 32 rfcKey->Calls Tryd.prog 81 #[.slice (some ⟨w.heap.size,0,none⟩) 32 32] W fun e w'=>e = .returned (.agg kc.toArray)/\Below W.heap.size W w'):=fun W h=>by
  have:=key_any h
  rw [rfc_pad,<- HKC.out] at this
  exact this
 obtain ⟨non,hnon⟩:∃ l,l=padTo 12 ([]:List UInt8):=⟨_,rfl⟩
 have LNO:Hid (non.length=12):=by unfold Hid; rw [hnon,padTo_length]
 obtain ⟨nc,hnc⟩:∃ c,c=non.map cellOf:=⟨_,rfl⟩
 have CN:Hid (∀ W:World,Calls Tryd.prog 82 #[.slice none 0 0] W fun e w'=>e = .returned (.agg nc.toArray)/\Below W.heap.size W w'):=fun W=>by rw [hnc,hnon]; exact nonce_any (Rd.nil W none 0 (by unfold maxLen; omega))
 have CS:Hid (∀ (W:World) (A A':Option Addr),Rd W A 1 1 [97]->Rd W A' 2 2 [98,99]->Calls Tryd.prog 57 #[.agg kc.toArray,.agg nc.toArray,.slice A 1 1,.slice A' 2 2] W (RetR W (Ae.sealed rfcKey non [97] [98,99]))):=fun W A A' h1 h2=>by rw [HKC.out,hnc]; exact HAE.out.s rfcKey non rfl LNO.out h1 h2 (by omega) (by omega)
 have CO:Hid (∀ (W:World) (A A':Option Addr) (nx cx:Nat),Rd W A 1 1 [97]->Rd W A' nx cx (Ae.sealed rfcKey non [97] [98,99])->nx<=10000->Calls Tryd.prog 60 #[.agg kc.toArray,.agg nc.toArray,.slice A 1 1,.slice A' nx cx] W (RetO W [98,99] true)):=fun W A A' nx cx h1 h2 hx=>by
  have:=HAE.out.o rfcKey non rfl LNO.out h1 h2 (by omega) hx
  rw [opened_sealed,Ae.opens_sealed] at this
  rw [HKC.out,hnc]
  exact this
 have LSE:Hid ((Ae.sealed rfcKey non [97] [98,99]).length=18):=by unfold Hid; rw [Ae.sealed_length]; rfl
 obtain ⟨se,hse⟩:∃ l,l=Ae.sealed rfcKey non [97] [98,99]:=⟨_,rfl⟩
 rw [<- hse] at CS CO LSE
 clear hnon hnc hse
 go_wp2_with fail
 refine (CK.out _ R5.out).mono ?_
 rintro e w6 ⟨rfl,hX⟩
 have W6:=Lib.hid (W5.out.trans (hX.mono W5.out.size))
 have R6:=Lib.hid (R5.out.below hX)
 have B6:=Lib.hid (B5.out.below hX B5.out.lt)
 clear hX W5 R5 B5
 go_wp2_with fail
 refine (CN.out _).mono ?_
 rintro e w7 ⟨rfl,hX⟩
 have W7:=Lib.hid (W6.out.trans (hX.mono W6.out.size))
 have R7:=Lib.hid (R6.out.below hX)
 have B7:=Lib.hid (B6.out.below hX B6.out.lt)
 clear hX W6 R6 B6
 go_wp2_with fail
 obtain ⟨w8,hw8⟩:∃ x,x=w7.alloc (.cells #[.int .u8 97] 5 (1,2)):=⟨_,rfl⟩
 obtain ⟨w9,hw9⟩:∃ x,x=w8.alloc (.cells #[.int .u8 98,.int .u8 99] 5 (2,3)):=⟨_,rfl⟩
 have s8:w8.heap.size=w7.heap.size + 1:=by rw [hw8]; simp
 have X8:Below w7.heap.size w7 w8:=by rw [hw8]; exact alloc_below _ _
 have X9:Below w7.heap.size w7 w9:=by rw [hw9]; exact X8.alloc X8.size _
 have R8:Rd w9 (some ⟨w7.heap.size,0,none⟩) 1 1 [97]:=by
  rw [hw9]
  refine Rd.below ?_ (alloc_below _ _)
  rw [hw8]
  exact lit_bytesF w7 _ _ 1 _ _ (by rfl) rfl (by omega) rfl
 have R9:Rd w9 (some ⟨w7.heap.size + 1,0,none⟩) 2 2 [98,99]:=by rw [hw9]; exact lit_bytesF w8 _ _ 2 _ _ (by rfl) rfl (by omega) s8.symm
 have hcall:=Lib.hid (CS.out w9 _ _ R8 R9)
 have W9:=Lib.hid (W7.out.trans (X9.mono W7.out.size))
 have RK9:=Lib.hid (R7.out.below X9)
 have B9:=Lib.hid (B7.out.below X9 B7.out.lt)
 rw [hw9,hw8] at hcall
 refine hcall.out.mono ?_
 rintro e wa ⟨AS,ns,cs,rfl,hRS,hXS⟩
 rw [<- hw8,<- hw9] at hXS
 obtain rfl:ns=18:=by rw [<- hRS.len]; exact LSE.out
 have Wa:=Lib.hid (W9.out.trans (hXS.mono W9.out.size))
 have Ra:=Lib.hid (RK9.out.below hXS)
 have Ba:=Lib.hid (B9.out.below hXS B9.out.lt)
 have RSa:=Lib.hid hRS
 clear hRS hXS hcall R8 R9 X8 X9 hw8 hw9 s8 W9 RK9 B9 W7 R7 B7 CS
 go_wp2_with fail
 refine (CK.out _ Ra.out).mono ?_
 rintro e wb ⟨rfl,hX⟩
 have Wb:=Lib.hid (Wa.out.trans (hX.mono Wa.out.size))
 have RSb:=Lib.hid (RSa.out.below hX)
 have Bb:=Lib.hid (Ba.out.below hX Ba.out.lt)
 clear hX Wa Ra RSa Ba
 go_wp2_with fail
 refine (CN.out _).mono ?_
 rintro e wc ⟨rfl,hX⟩
 have Wc:=Lib.hid (Wb.out.trans (hX.mono Wb.out.size))
 have RSc:=Lib.hid (RSb.out.below hX)
 have Bc:=Lib.hid (Bb.out.below hX Bb.out.lt)
 clear hX Wb RSb Bb
 go_wp2_with fail
 obtain ⟨wd,hwd⟩:∃ x,x=wc.alloc (.cells #[.int .u8 97] 5 (1,2)):=⟨_,rfl⟩
 have Xd:Below wc.heap.size wc wd:=by rw [hwd]; exact alloc_below _ _
 have Rd1:Rd wd (some ⟨wc.heap.size,0,none⟩) 1 1 [97]:=by rw [hwd]; exact lit_bytesF wc _ _ 1 _ _ (by rfl) rfl (by omega) rfl
 have hcall:=Lib.hid (CO.out wd _ _ _ _ Rd1 (RSc.out.below Xd) (by omega))
 have Wd:=Lib.hid (Wc.out.trans (Xd.mono Wc.out.size))
 have Bd:=Lib.hid (Bc.out.below Xd Bc.out.lt)
 rw [hwd] at hcall
 refine hcall.out.mono ?_
 rintro e we ⟨AO,no,co,rfl,hRO,hXO⟩
 rw [<- hwd] at hXO
 obtain rfl:no=2:=hRO.len.symm
 have We:=Lib.hid (Wd.out.trans (hXO.mono Wd.out.size))
 have Be:=Lib.hid (Bd.out.below hXO Bd.out.lt)
 have ROe:=Lib.hid hRO
 have HGe:=Lib.hid (HG.out.below We.out HG.out.size)
 clear hRO hXO hcall Rd1 Xd hwd Wd Bd Wc Bc RSc CO CK CN
 go_wp2_with (first | (go_at_call 83; refine (begun3_any HGe.out).mono ?_; rintro e wf ⟨rfl,HB⟩; have Xf:=Lib.hid HB; have c0:wf.cell? ⟨gt,0,none⟩=some (.int .u8 168):=(by rw [(Be.out.below HB Be.out.lt).cell]; exact T0.out); have c15:wf.cell? ⟨gt,15,none⟩=some (.int .u8 169):=(by rw [(Be.out.below HB Be.out.lt).cell]; exact T15.out); have hcs:=conv_bytes (ROe.out.below HB); clear HB))
 go_ret
 exact ⟨rfl,We.out.trans (Xf.out.mono We.out.size)⟩
end Go.Proofs.YtajgjeialbgijaaDoor
