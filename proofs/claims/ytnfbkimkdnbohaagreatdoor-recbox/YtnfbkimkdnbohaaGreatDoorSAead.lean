import Derived.Test.YtnfbkimkdnbohaaGreatDoorSGcha
import Derived.Test.YtnfbkimkdnbohaaGreatDoorSGpol
import Derived.Test.YtnfbkimkdnbohaaGreatDoorSGchr
import Derived.Test.YtnfbkimkdnbohaaGreatDoorSGref2
import Derived.Test.YtnfbkimkdnbohaaGreatDoorSGtag
set_option linter.unusedVariables false
set_option linter.unusedSimpArgs false
set_option maxRecDepth 100000
set_option maxHeartbeats 8000000
namespace Go.Proofs.YtnfbkimkdnbohaaGreatDoor.Ae
def gap (n:Nat):Nat:=(16 - n % 16) % 16
def up (m:List UInt8):List UInt8:=m ++ List.replicate (gap m.length) 0
def text (ad c:List UInt8):List UInt8:=up (up ad ++ c) ++ Pol.bytesN 8 (ad.length:Int) ++ Pol.bytesN 8 (c.length:Int)
def mark (key nonce ad c:List UInt8):List UInt8:=Pol.tag ((Cha.block key 0 nonce).take 32) (text ad c)
def sealed (key nonce ad b:List UInt8):List UInt8:=Cha.xor key 1 nonce b ++ mark key nonce ad (Cha.xor key 1 nonce b)
def opens (key nonce ad c:List UInt8):Bool:=decide (16<=c.length) && decide (mark key nonce ad (c.take (c.length - 16))=c.drop (c.length - 16))
def opened (key nonce ad c:List UInt8):List UInt8:=if opens key nonce ad c then Cha.xor key 1 nonce (c.take (c.length - 16)) else []
theorem up_length (m:List UInt8):(up m).length % 16=0/\m.length<=(up m).length/\(up m).length<=m.length + 15:=by
 simp only [up,List.length_append,List.length_replicate,gap]
 omega
theorem gap_zero (n:Nat) (h:n % 16=0):gap n=0:=by unfold gap; omega
theorem up_of (m:List UInt8) (h:m.length % 16=0):up m=m:=by rw [up,gap_zero _ h]; simp
theorem up_more (m:List UInt8) (h:m.length % 16 ≠ 0):up (m ++ [0])=up m:=by
 have hg:gap m.length=gap (m ++ [(0:UInt8)]).length + 1:=by simp only [gap,List.length_append,List.length_cons,List.length_nil]; omega
 rw [up,up,hg,List.replicate_succ,List.append_assoc]
 rfl
theorem up_front (x c:List UInt8) (h:x.length % 16=0):up (x ++ c)=x ++ up c:=by
 have hg:gap (x ++ c).length=gap c.length:=by simp only [gap,List.length_append]; omega
 rw [up,up,hg,List.append_assoc]
theorem mark_length (key nonce ad c:List UInt8):(mark key nonce ad c).length=16:=by rw [mark,Pol.tag,Pol.bytesN_length]
theorem text_length (ad c:List UInt8):(text ad c).length<=ad.length + c.length + 46:=by
 have h1:=up_length ad
 have h2:=up_length (up ad ++ c)
 rw [List.length_append] at h2
 simp only [text,List.length_append,Pol.bytesN_length]
 omega
theorem xor_len (key nonce b:List UInt8) (ctr:Int):(Cha.xor key ctr nonce b).length=b.length:=by simp [Cha.xor,Cha.xorTo]
theorem sealed_length (key nonce ad b:List UInt8):(sealed key nonce ad b).length=b.length + 16:=by rw [sealed,List.length_append,xor_len,mark_length]
theorem opens_sealed (key nonce ad b:List UInt8):opens key nonce ad (sealed key nonce ad b)=true:=by
 have h1:=sealed_length key nonce ad b
 have h2:=xor_len key nonce b 1
 have e1:(sealed key nonce ad b).take (b.length + 16 - 16)=Cha.xor key 1 nonce b:=by rw [sealed,Nat.add_sub_cancel,<- h2]; exact List.take_left' rfl
 have e2:(sealed key nonce ad b).drop (b.length + 16 - 16)=mark key nonce ad (Cha.xor key 1 nonce b):=by rw [sealed,Nat.add_sub_cancel,<- h2]; exact List.drop_left' rfl
 rw [opens,h1,e1,e2]
 simp
end Go.Proofs.YtnfbkimkdnbohaaGreatDoor.Ae
namespace Go.Proofs.YtnfbkimkdnbohaaGreatDoor
open Go.RowKit
def RetB (w:World) (l:List UInt8) (e:Ending) (w':World):Prop:=∃ v,e = .returned v/\Ow w' w.heap.size v l/\Below w.heap.size w w'
theorem reight_any (n:Nat) (w:World) (hn:n<=1000000000):Calls Tryz.prog 108 #[.int .i64 (n:Int)] w (RetB w (Pol.bytesN 8 (n:Int))):=by
 go_enter Tryz.func108,Tryz.ntmps108
 go_wp2_with fail
 go_loopw [0,3,4] (fun q v i wr=>∃ (k:Nat) (z:Int),k<=8/\q = .int .i64 z/\i = .int .i64 k/\0<=z/\z<=1000000000/\Hid (z=(n:Int) / 256 ^ k)/\Hid (Ow wr w.heap.size v (Pol.bytesN k (n:Int)))/\Hid (Below w.heap.size w wr)) (fun _ _ i _=>8 - (intOf i).toNat)
 case atStart=>exact ⟨0,n,by omega,rfl,rfl,by omega,by omega,by unfold Hid; simp,Ow.empty _ _,Below.refl _ _⟩
 case round =>
  obtain ⟨k,z,hk,rfl,rfl,hz0,hz1,HZ,OW,BW⟩:=hrel
  by_cases hlt:k < 8
  ·have hlb:decide ((k:Int) < 8)=true:=by simp; omega
   obtain ⟨y,hy⟩:=zx (Sha.by8 z:UInt8)
   have hyz:z % 256=(y.toNat:Int):=by rw [hy,Pol.by8_toNat]
   have hym:(y.toNat:Int) % 256=(y.toNat:Int):=by have:=y.toNat_lt; omega
   have HN:Hid (Pol.bytesN (k + 1) (n:Int)=Pol.bytesN k (n:Int) ++ [y]):=by unfold Hid; rw [Pol.bytesN_succ,hy,<- HZ.out]
   have HZ2:Hid (z / 256=(n:Int) / 256 ^ (k + 1)):=by unfold Hid; rw [HZ.out,Pol.div_next]
   have LN:Hid ((Pol.bytesN k (n:Int)).length + 1<=140737488355328):=by unfold Hid; rw [Pol.bytesN_length]; omega
   have hy0:(0:Int)<=(y.toNat:Int):=by omega
   have hy1:(y.toNat:Int) < 256:=by have:=y.toNat_lt; omega
   clear hy
   go_wp2_with (first
    | (at_builtin; refine push_law rfl (.tmp 9) (.tmp 13) rfl rfl rfl y OW.out rfl LN.out BW.out.size BW.out ?_; intro v2 w2 OW2 BW2))
   rw [<- HN.out] at OW2
   clear hyz hym
   go_roundw
   case rel=>exact ⟨k + 1,z / 256,by omega,rfl,by go_num,by omega,by omega,HZ2,OW2,BW2⟩
   case measure=>simp [intOf]; omega
  ·obtain rfl:k=8:=by omega
   rw [show ((8:Nat):Int)=8 from rfl]
   go_wp2_with fail
   go_ret
   exact ⟨_,rfl,OW.out,BW.out⟩
theorem rmark_any (key nonce:List UInt8) {w:World} {A A':Option Addr} {n c n' c':Nat} {ad cc:List UInt8} (hk:key.length=32) (hn:nonce.length=12) (hra:Rd w A n c ad) (hrc:Rd w A' n' c' cc) (hn1:n<=100000) (hn2:n'<=100000) :
  Calls Tryz.prog 84 #[.agg (key.map cellOf).toArray,.agg (nonce.map cellOf).toArray,.slice A n c,.slice A' n' c'] w fun e w'=>∃ g,e = .returned (.slice (some ⟨g,0,none⟩) 16 16)/\Rd w' (some ⟨g,0,none⟩) 16 16 (Ae.mark key nonce ad cc)/\w.heap.size<=g/\Below w.heap.size w w':=by
 obtain ⟨kc,hkc⟩:=zx (key.map cellOf)
 obtain ⟨nc,hnc⟩:=zx (nonce.map cellOf)
 have CB:=qh (fun W=>rblock_any key nonce 0 W hk hn)
 rw [<- hkc,<- hnc] at CB
 rw [<- hkc,<- hnc]
 obtain ⟨bk,hbk⟩:=zx (Cha.block key 0 nonce)
 rw [<- hbk] at CB
 have LBK:Hid (bk.length=64):=by unfold Hid; rw [hbk]; exact Cha.block_length key 0 nonce
 obtain ⟨bc,hbc⟩:=zx (bk.map cellOf)
 rw [<- hbc] at CB
 have HMARK:Hid (Ae.mark key nonce ad cc=Pol.tag (bk.take 32) (Ae.text ad cc)):=by unfold Hid Ae.mark; rw [<- hbk]
 have IK:Hid ((Tryz.prog.info? 45).map (·.size)=some kc.length):=by unfold Hid; rw [hkc,List.length_map,hk]; kernel_rfl
 have IN:Hid ((Tryz.prog.info? 88).map (·.size)=some nc.length):=by unfold Hid; rw [hnc,List.length_map,hn]; kernel_rfl
 have IB:Hid ((Tryz.prog.info? 120).map (·.size)=some bc.length):=by unfold Hid; rw [hbc,List.length_map,LBK.out]; kernel_rfl
 have LBC:Hid ((List.replicate 64 (Value.int .u8 0)).length=bc.length):=by unfold Hid; rw [hbc,List.length_map,LBK.out]; rfl
 have OBC:Hid (∀ v ∈ bc,v.oneCell'=true):=by unfold Hid; rw [hbc]; exact cells_u8 _
 have HRA:=qh hra
 have HRC:=qh hrc
 have HLA:=qh hra.len
 have HLC:=qh hrc.len
 have HBC:=qh hbc
 clear hkc hnc hbk hbc hra hrc hk hn
 go_enter Tryz.func84,Tryz.ntmps84
 go_upto_region 1 with (fail)
 obtain ⟨w0,hw0⟩:=zx ((w.alloc (Obj.cells kc.toArray 45)).alloc (Obj.cells nc.toArray 88))
 have B0:Hid (Blk w0 w.heap.size 45 kc):=by unfold Hid; rw [hw0]; exact (Blk.new w _ _).alloc _
 have B1:Hid (Blk w0 (w.heap.size + 1) 88 nc):=by unfold Hid; rw [hw0]; exact Blk.at_new _ _ _ _ _ rfl (by simp)
 have W0:Hid (Below w.heap.size w w0):=by unfold Hid; rw [hw0]; exact ((Below.refl _ _).alloc (Nat.le_refl _) _).alloc (by simp) _
 change Code.wp _ _ _ _ ((w.alloc (Obj.cells kc.toArray 45)).alloc (Obj.cells nc.toArray 88))
 rw [<- hw0]
 clear hw0
 go_wp2_with (first
  | ((with_reducible refine load_law rfl 45 (.tmp 4) rfl w.heap.size 0 rfl kc _ Tryz.underlying45 rfl IK.out B0.out.cells ?_))
  | ((with_reducible refine load_law rfl 88 (.tmp 5) rfl (w.heap.size + 1) 0 rfl nc _ Tryz.underlying88 rfl IN.out B1.out.cells ?_)))
 refine (CB.out w0).mono ?_
 rintro e w1 ⟨rfl,hX⟩
 have W1:=qt W0 hX
 clear hX B0 B1 W0 CB IK IN
 go_upto_region 2 with (first
  | ((with_reducible refine storeGen_law rfl 120 (.tmp 9) (.tmp 15) rfl w1.heap.size rfl bc rfl 120 (List.replicate 64 (.int .u8 0)) IB.out LBC.out OBC.out w1.heap.size w1 ?_ ?_ (Nat.le_refl _) ?_)
     ·exact Blk.at_new _ _ 120 _ _ (by rfl) rfl
     ·exact (Below.refl _ _).alloc (Nat.le_refl _) _
     intro w2 B2 X2))
 have W2:=qt W1 X2.out
 obtain ⟨gb,hgb⟩:=zx (w1.heap.size)
 rw [<- hgb] at B2
 rw [<- hgb]
 clear X2 hgb W1
 go_upto_region 3 with (fail)
 obtain ⟨g1,hg1⟩:=zx (w2.heap.size)
 obtain ⟨wb,hwb⟩:=zx (w2.alloc (Obj.cells (List.replicate 32 (.int .u8 0)).toArray 45))
 change Code.wp _ _ _ _ (w2.alloc (Obj.cells (List.replicate 32 (.int .u8 0)).toArray 45))
 have C1:Blk wb.drew g1 45 (List.replicate 32 (.int .u8 0)):=by rw [hwb,hg1]; exact Blk.new w2 _ _
 have C2:Blk wb.drew gb 120 bc:=by rw [hwb]; exact B2.out.alloc _
 have XB:Below w2.heap.size w2 wb.drew:=by rw [hwb]; exact ((Below.refl _ _).alloc (Nat.le_refl _) _).drew
 rw [<- hwb,<- hg1]
 have RB:Rd wb.drew (some ⟨gb,0,none⟩) 32 64 (bk.take 32):=Rd.of_block C2 (by rw [List.length_take,LBK.out]; rfl) (by omega) (by unfold maxLen; omega) (fun j hj=>by
  rw [HBC.out,Nat.zero_add]
  have hj2:j < bk.length:=by rw [LBK.out]; omega
  simp [List.getD_eq_getElem?_getD,List.getElem?_take,hj,List.getElem?_eq_getElem hj2])
 obtain ⟨w3,hcopy,hB3,hO3⟩:=copy_into (off:=0) (dLen:=32) (dCap:=32) C1 RB (by simp)
 have hsl1:=fun W=>sliceAt_all 45 32 Tryz.underlying45 g1 0 W
 have hsl2:=fun W=>sliceAt_h 120 64 Tryz.underlying120 gb 0 32 (by omega) W
 rw [show ((32:Nat):Int)=32 from rfl] at hsl2
 have hcells:(List.replicate 32 (Value.int .u8 0)).take 0 ++ ((bk.take 32).take (min 32 32)).map cellOf ++ (List.replicate 32 (Value.int .u8 0)).drop (0 + min 32 32)=(bk.take 32).map cellOf:=by
  rw [Nat.min_self,List.take_take,Nat.min_self,List.take_zero,List.nil_append,List.drop_of_length_le (by simp),List.append_nil]
 rw [hcells] at hB3
 obtain ⟨k1,hk1⟩:=zx (bk.take 32)
 have LK1:Hid (k1.length=32):=by unfold Hid; rw [hk1,List.length_take,LBK.out]; rfl
 rw [<- hk1] at hB3 HMARK
 have B3:=qh hB3
 have X3:Below w2.heap.size w2 w3:=below_of_only XB hO3 (by omega) XB.size
 have W3:=qt W2 X3
 clear hwb hB3 hO3 C1 C2 RB hcells hk1 XB X3 B2 W2 hg1 HBC
 refine wp_region_still_tail 2 (by kernel_rfl) (by kernel_rfl) ?_
 simp only [List.take_succ_cons,List.take_zero,List.drop_succ_cons,List.drop_zero]
 have hD:({ wb with drawn:=wb.drawn + 1 }:World)=wb.drew:=rfl
 rw [hD]
 clear hD
 generalize wb.drew=wd at *
 repeat still_step
 refine wpStill_nil ?_
 have HRA3:=qh (HRA.out.below W3.out)
 have HRC3:=qh (HRC.out.below W3.out)
 have E0:=qh (Ow.empty w3 w3.heap.size)
 have LN0:Hid (([]:List UInt8).length + n<=140737488355328):=by unfold Hid; simp; omega
 go_upto_region 5 with (first
  | (at_builtin; refine onto_law rfl (.const (.slice none 0 0)) (.tmp 19) rfl rfl rfl HRA3.out E0.out LN0.out (Nat.le_refl _) (Below.refl _ _) ?_; intro v4 w4 O4 X4))
 clear hcopy hsl1 hsl2 E0 LN0
 rw [List.nil_append] at O4
 obtain ⟨A4,c4,rfl,_,_⟩:=O4.out.value
 rw [HLA.out] at O4
 rw [HLA.out]
 have L4:=HLA
 go_loopw [11] (fun v wr=>∃ (AP:Option Addr) (np cp:Nat) (m:List UInt8),v = .slice AP np cp/\np<=300000/\Hid (m.length=np)/\Hid (np<=ad.length + 15)/\Hid (Ae.up m=Ae.up ad)/\Hid (Ow wr w3.heap.size (.slice AP np cp) m)/\Hid (Below w3.heap.size w3 wr)) (fun v _=>Ae.gap (sliceLen v))
 case atStart=>exact ⟨_,_,_,_,rfl,by omega,L4,by unfold Hid; have:=L4.out; omega,rfl,O4,X4⟩
 case round =>
  clear O4 X4 L4
  obtain ⟨AP,np,cp,m,rfl,hnm,LM,LB,HU,OM,XM⟩:=hrel
  by_cases h16:np % 16=0
  ·have hne:(((np:Int) % 16) != 0)=false:=by simp; omega
   have HUP:Hid (m=Ae.up ad):=by unfold Hid; rw [<- HU.out,Ae.up_of m (by rw [LM.out]; exact h16)]
   obtain ⟨u1,hu1⟩:=zx (Ae.up ad)
   rw [<- hu1] at HUP
   have HU1:=qh hu1
   have hm1:=HUP.out
   subst hm1
   have HRC5:=qh (HRC3.out.below XM.out)
   have LN1:Hid (m.length + n'<=140737488355328):=by unfold Hid; rw [LM.out]; omega
   clear hu1 HUP
   go_upto_region 8 with (first
    | (at_builtin; refine onto_law rfl (.tmp 28) (.tmp 29) rfl rfl rfl HRC5.out OM.out LN1.out XM.out.size XM.out ?_; intro v6 w6 O6 X6))
   obtain ⟨t6,ht6⟩:=zx (m ++ cc)
   rw [<- ht6] at O6
   obtain ⟨n6,hn6⟩:=zx (t6.length)
   obtain ⟨A6,c6,rfl,_,_⟩:=O6.out.value
   rw [<- hn6] at O6
   rw [<- hn6]
   have L6:Hid (t6.length=n6):=hn6.symm
   have hn6b:n6<=250000:=by
    rw [hn6,ht6,List.length_append,LM.out,HLC.out]
    have:=LB.out
    have:=HLA.out
    omega
   have HT6:Hid (t6=Ae.up ad ++ cc):=by unfold Hid; rw [ht6,HU1.out]
   clear ht6 hn6 HRC5 LN1 OM XM hne h16 HU
   go_loopw [11] (fun v wr=>∃ (AM:Option Addr) (nm cm:Nat) (m:List UInt8),v = .slice AM nm cm/\nm<=300000/\Hid (m.length=nm)/\Hid (nm<=t6.length + 15)/\Hid (Ae.up m=Ae.up t6)/\Hid (Ow wr w3.heap.size (.slice AM nm cm) m)/\Hid (Below w3.heap.size w3 wr)) (fun v _=>Ae.gap (sliceLen v))
   case atStart=>exact ⟨_,_,_,_,rfl,by omega,L6,by unfold Hid; have:=L6.out; omega,rfl,O6,X6⟩
   case round =>
    clear O6 X6 L6
    obtain ⟨AM,nm,cm,m,rfl,hnm,LM,LB,HU,OM,XM⟩:=hrel
    by_cases h16:nm % 16=0
    ·have hne:(((nm:Int) % 16) != 0)=false:=by simp; omega
     have HUP:Hid (m=Ae.up t6):=by unfold Hid; rw [<- HU.out,Ae.up_of m (by rw [LM.out]; exact h16)]
     have HTM:Hid (m=Ae.up (Ae.up ad ++ cc)):=by unfold Hid; rw [HUP.out,HT6.out]
     obtain ⟨e1,he1⟩:=zx (Pol.bytesN 8 (n:Int))
     obtain ⟨e2,he2⟩:=zx (Pol.bytesN 8 (n':Int))
     have LE1:Hid (e1.length=8):=by unfold Hid; rw [he1,Pol.bytesN_length]
     have LE2:Hid (e2.length=8):=by unfold Hid; rw [he2,Pol.bytesN_length]
     have HTXT:Hid (m ++ e1 ++ e2=Ae.text ad cc):=by unfold Hid Ae.text; rw [<- HTM.out,he1,he2,HLA.out,HLC.out]
     have CE1:Hid (∀ W,Calls Tryz.prog 108 #[.int .i64 (n:Int)] W (RetB W e1)):=fun W=>by rw [he1]; exact reight_any n W (by omega)
     have CE2:Hid (∀ W,Calls Tryz.prog 108 #[.int .i64 (n':Int)] W (RetB W e2)):=fun W=>by rw [he2]; exact reight_any n' W (by omega)
     obtain ⟨T,hT⟩:=zx ((Ae.mark key nonce ad cc).map cellOf)
     obtain ⟨kk,hkk⟩:=zx (k1.map cellOf)
     have hnmb:nm<=300000:=hnm
     have CT:Hid (∀ (W:World) (AX:Option Addr) (nx cx:Nat),nx<=1000000->Rd W AX nx cx (m ++ e1 ++ e2)->Calls Tryz.prog 107 #[.agg kk.toArray,.slice AX nx cx] W fun e w'=>e = .returned (.agg T.toArray)/\Below W.heap.size W w'):=fun W AX nx cx hx h=>by
      rw [hkk,hT,HMARK.out,<- HTXT.out]
      exact rtag_any k1 LK1.out h hx
     have hTl:T.length=16:=by rw [hT,List.length_map,Ae.mark_length]
     have IT:Hid ((Tryz.prog.info? 116).map (·.size)=some T.length):=by unfold Hid; rw [hTl]; kernel_rfl
     have LT:Hid ((List.replicate 16 (Value.int .u8 0)).length=T.length):=by unfold Hid; rw [hTl]; rfl
     have OT:Hid (∀ v ∈ T,v.oneCell'=true):=by unfold Hid; rw [hT]; exact cells_u8 _
     have IKK:Hid ((Tryz.prog.info? 45).map (·.size)=some kk.length):=by unfold Hid; rw [hkk,List.length_map,LK1.out]; kernel_rfl
     have BKK:Hid (Blk w3 g1 45 kk):=by unfold Hid; rw [hkk]; exact B3.out
     have HTT:=qh hT
     have LM5:Hid (m.length + 8<=140737488355328):=by unfold Hid; rw [LM.out]; omega
     have LM9:Hid ((m ++ e1).length + 8<=140737488355328):=by unfold Hid; rw [List.length_append,LM.out,LE1.out]; omega
     have LTX:Hid ((m ++ e1 ++ e2).length<=1000000):=by unfold Hid; rw [List.length_append,List.length_append,LM.out,LE1.out,LE2.out]; omega
     clear he1 he2 hT hkk hTl HTM HTXT
     go_upto_region 10 with (fail)
     refine wp_region_any (by kernel_rfl) ?_
     change wpAny _ _ _ _ _ _ _ (World.drew _)
     have DO:Hid (Ow wr.drew w3.heap.size (.slice AM nm cm) m):=OM.out
     have DX:Hid (Below w3.heap.size w3 wr.drew):=XM.out.drew
     clear OM XM hne
     generalize wr.drew=w5 at *
     refine ztk 1 (.slice AM nm cm) ?_
     try simp only [zpt]
     refine ztk 2 (.slice A n c) ?_
     try simp only [zpt]
     refine ztk 3 (.int .i64 (n:Int)) ?_
     try simp only [zpt]
     refine ztk 6 (.slice A' n' c') ?_
     try simp only [zpt]
     refine ztk 7 (.int .i64 (n':Int)) ?_
     try simp only [zpt]
     refine phase (fun i=>if i=5 then [4] else if i=8 then [5] else if i=9 then [5,8] else if i=10 then [0,9] else []) (fun d a w'=>∃ x12 x38 x42 x43 x46 x47 x48:Value,a={ tmps:=#[.agg kc.toArray,.agg nc.toArray,.slice A n c,.slice A' n' c',.pointer (some ⟨w.heap.size,0,none⟩),.pointer (some ⟨w.heap.size + 1,0,none⟩),undef,undef,.slice none 0 0,.pointer (some ⟨gb,0,none⟩),.pointer (some ⟨g1,0,none⟩),.slice AM nm cm,x12,.agg kc.toArray,.agg nc.toArray,.agg bc.toArray,.slice (some ⟨g1,0,none⟩) 32 32,.slice (some ⟨gb,0,none⟩) 32 64,.int .i64 32,.slice A n c,.slice A4 n c4,.slice AP np cp,.int .i64 (np:Int),.int .i64 ((np:Int) % 16),.bool false,u25,u26,u27,.slice AP np cp,.slice A' n' c',.slice A6 n6 c6,.slice AM nm cm,.int .i64 (nm:Int),.int .i64 ((nm:Int) % 16),.bool false,u35,u36,u37,x38,.slice AM nm cm,.slice A n c,.int .i64 (n:Int),x42,x43,.slice A' n' c',.int .i64 (n':Int),x46,x47,x48,undef],defers:=[] }/\Hid (Below w3.heap.size w3 w')
      /\ (d 0=true->x38 = .agg kk.toArray)/\(d 4=true->d 5=false->Hid (∃ AX cx,x42 = .slice AX 8 cx/\Rd w' AX 8 cx e1))/\(d 5=false->Hid (Ow w' w3.heap.size (.slice AM nm cm) m))/\(d 5=true->d 9=false->Hid (Ow w' w3.heap.size x43 (m ++ e1)))
      /\ (d 8=true->d 9=false->Hid (∃ AX cx,x46 = .slice AX 8 cx/\Rd w' AX 8 cx e2))/\(d 9=true->Hid (∃ AX nx cx,x47 = .slice AX nx cx/\nx<=1000000/\Rd w' AX nx cx (m ++ e1 ++ e2)))/\(d 10=true->x48 = .agg T.toArray)
      /\ (d 5=false->d 8=false/\d 9=false)/\(d 11=true->Hid (∃ g,x12 = .pointer (some ⟨g,0,none⟩)/\w3.heap.size<=g/\Blk w' g 116 (List.replicate 16 (.int .u8 0))))) [0,4,5,8,9,10,11] ?step 1 7 [0,4,5,8,9,10,11] _ _ _ rfl (by decide) (fun _ h=>h) (by kernel_rfl) ?init ?fin
     case init =>
      refine ⟨_,_,_,_,_,_,_,rfl,DX,fun h=>absurd h (by decide),fun h=>absurd h (by decide),fun _=>DO,fun h=>absurd h (by decide),fun h=>absurd h (by decide),fun h=>absurd h (by decide),fun h=>absurd h (by decide),fun _=>⟨by decide,by decide⟩,fun h=>absurd h (by decide)⟩
     case step =>
      intro i hi d a w6 hI hdi hdeps
      obtain ⟨x12,x38,x42,x43,x46,x47,x48,rfl,BW6,h0,h4,hm0,h5,h8,h9,h10,h589,h11⟩:=hI
      have hs6:=BW6.out.size
      have H4':Hid (∀ w7,Below w6.heap.size w6 w7->(d 4=true->d 5=false->Hid (∃ AX cx,x42 = .slice AX 8 cx/\Rd w7 AX 8 cx e1))):=fun w7 hX a b=>by obtain ⟨AX,cx,e,hR⟩:=(h4 a b).out; exact ⟨AX,cx,e,hR.below hX⟩
      have HM':Hid (∀ w7,Below w6.heap.size w6 w7->(d 5=false->Hid (Ow w7 w3.heap.size (.slice AM nm cm) m))):=fun w7 hX b=>(hm0 b).out.keep hX
      have H5':Hid (∀ w7,Below w6.heap.size w6 w7->(d 5=true->d 9=false->Hid (Ow w7 w3.heap.size x43 (m ++ e1)))):=fun w7 hX a b=>(h5 a b).out.keep hX
      have H8':Hid (∀ w7,Below w6.heap.size w6 w7->(d 8=true->d 9=false->Hid (∃ AX cx,x46 = .slice AX 8 cx/\Rd w7 AX 8 cx e2))):=fun w7 hX a b=>by obtain ⟨AX,cx,e,hR⟩:=(h8 a b).out; exact ⟨AX,cx,e,hR.below hX⟩
      have H9':Hid (∀ w7,Below w6.heap.size w6 w7->(d 9=true->Hid (∃ AX nx cx,x47 = .slice AX nx cx/\nx<=1000000/\Rd w7 AX nx cx (m ++ e1 ++ e2)))):=fun w7 hX a=>by obtain ⟨AX,nx,cx,e,hx,hR⟩:=(h9 a).out; exact ⟨AX,nx,cx,e,hx,hR.below hX⟩
      have H11':Hid (∀ w7,Below w6.heap.size w6 w7->(d 11=true->Hid (∃ g,x12 = .pointer (some ⟨g,0,none⟩)/\w3.heap.size<=g/\Blk w7 g 116 (List.replicate 16 (.int .u8 0))))):=fun w7 hX a=>by obtain ⟨g,e,hg,hB⟩:=(h11 a).out; exact ⟨g,e,hg,hB.below hX hB.lt⟩
      simp only [List.mem_cons,List.not_mem_nil,or_false] at hi
      rcases hi with rfl | rfl | rfl | rfl | rfl | rfl | rfl
      ·refine zst fun K hK=>?_
       refine step_loadL rfl 45 (.tmp 10) rfl g1 0 rfl kk _ Tryz.underlying45 rfl IKK.out (BKK.out.below BW6.out BKK.out.lt).cells (hK _ _ ?_)
       clear hK K
       try simp only [zpt]
       exact ⟨x12,_,x42,x43,x46,x47,x48,rfl,BW6,fun _=>rfl,fun a b=>h4 (by simpa using a) (by simpa using b),fun b=>hm0 (by simpa using b),fun a b=>h5 (by simpa using a) (by simpa using b),fun a b=>h8 (by simpa using a) (by simpa using b),zk h9,zk h10,fun b=>by simpa using h589 (by simpa using b),zk h11⟩
      ·refine zst fun K hK=>?_
       clear h4 hm0 h5 h8 h9 h11
       go_simp
       refine (CE1.out w6).mono ?_
       rintro e w7 ⟨v7,rfl,hO,hX⟩
       refine hK _ _ ?_; clear hK K; try simp only [zpt]
       obtain ⟨AX,cx,rfl,hR,_⟩:=hO.value
       rw [LE1.out] at hR
       rw [LE1.out]
       exact ⟨x12,x38,_,x43,x46,x47,x48,rfl,BW6.out.trans (hX.mono hs6),zk h0,fun _ _=>⟨_,_,rfl,hR⟩,fun b=>HM'.out w7 hX (by simpa using b),fun a b=>H5'.out w7 hX (by simpa using a) (by simpa using b),fun a b=>H8'.out w7 hX (by simpa using a) (by simpa using b),fun a=>H9'.out w7 hX (by simpa using a),zk h10,fun b=>by simpa using h589 (by simpa using b),fun a=>H11'.out w7 hX (by simpa using a)⟩
      ·obtain ⟨AX,cx,rfl,hR⟩:=(h4 (hdeps 4 (by simp)) hdi).out
       have hO:=(hm0 hdi).out
       obtain ⟨bx,ox,rfl,_,_⟩:=hR.at_ (by omega)
       refine zst fun K hK=>?_
       refine step_app (w0:=w3) rfl (.tmp 39) (.tmp 42) rfl rfl rfl hR hO LM5.out (by omega) hs6 BW6.out ?_
       intro v7 w7 O7 X7 G7 _
       refine hK _ _ ?_; clear hK K; try simp only [zpt]
       refine ⟨x12,x38,_,v7,x46,x47,x48,rfl,X7,zk h0,fun _ b=>absurd b (by simp),fun b=>absurd b (by simp),fun _ _=>O7,fun a b=>?_,fun a=>?_,zk h10,fun b=>absurd b (by simp),fun a=>?_⟩
       ·rw [(h589 hdi).1] at a; exact absurd a (by simp)
       ·rw [(h589 hdi).2] at a; exact absurd a (by simp)
       ·obtain ⟨g,e,hg,hB⟩:=(h11 (by simpa using a)).out
        exact ⟨g,e,hg,(G7.out.block g hB.lt (blk_apart hB hO (by decide))).trans hB⟩
      ·have hd5:=hdeps 5 (by simp)
       refine zst fun K hK=>?_
       clear h4 hm0 h5 h8 h9 h11
       go_simp
       refine (CE2.out w6).mono ?_
       rintro e w7 ⟨v7,rfl,hO,hX⟩
       refine hK _ _ ?_; clear hK K; try simp only [zpt]
       obtain ⟨AX,cx,rfl,hR,_⟩:=hO.value
       rw [LE2.out] at hR
       rw [LE2.out]
       exact ⟨x12,x38,x42,x43,_,x47,x48,rfl,BW6.out.trans (hX.mono hs6),zk h0,fun a b=>H4'.out w7 hX (by simpa using a) (by simpa using b),fun b=>HM'.out w7 hX (by simpa using b),fun a b=>H5'.out w7 hX (by simpa using a) (by simpa using b),fun _ _=>⟨_,_,rfl,hR⟩,fun a=>H9'.out w7 hX (by simpa using a),zk h10,fun b=>absurd b (by simp [hd5]),fun a=>H11'.out w7 hX (by simpa using a)⟩
      ·obtain ⟨AX,cx,rfl,hR⟩:=(h8 (hdeps 8 (by simp)) hdi).out
       have hd5:=hdeps 5 (by simp)
       have hO:=(h5 hd5 hdi).out
       obtain ⟨bx,ox,rfl,_,_⟩:=hR.at_ (by omega)
       refine zst fun K hK=>?_
       refine step_app (w0:=w3) rfl (.tmp 43) (.tmp 46) rfl rfl rfl hR hO LM9.out (by omega) hs6 BW6.out ?_
       intro v7 w7 O7 X7 G7 _
       refine hK _ _ ?_; clear hK K; try simp only [zpt]
       obtain ⟨A7,c7,rfl,hR7,_⟩:=O7.out.value
       refine ⟨x12,x38,x42,x43,_,_,x48,rfl,X7,zk h0,fun _ b=>absurd b (by simp [hd5]),fun b=>absurd b (by simp [hd5]),fun _ b=>absurd b (by simp),fun _ b=>absurd b (by simp),fun _=>⟨_,_,_,rfl,LTX.out,hR7⟩,zk h10,fun b=>absurd b (by simp [hd5]),fun a=>?_⟩
       obtain ⟨g,e,hg,hB⟩:=(h11 (by simpa using a)).out
       exact ⟨g,e,hg,(G7.out.block g hB.lt (blk_apart hB hO (by decide))).trans hB⟩
      ·obtain rfl:=h0 (hdeps 0 (by simp))
       obtain ⟨AX,nx,cx,rfl,hnx,hR⟩:=(h9 (hdeps 9 (by simp))).out
       have HRX:=qh hR
       refine zst fun K hK=>?_
       clear h4 hm0 h5 h8 h9 h11 hR
       go_simp
       refine (CT.out w6 AX nx cx hnx HRX.out).mono ?_
       rintro e w7 ⟨rfl,hX⟩
       refine hK _ _ ?_; clear hK K; try simp only [zpt]
       exact ⟨x12,_,x42,x43,x46,_,_,rfl,BW6.out.trans (hX.mono hs6),fun _=>rfl,fun a b=>H4'.out w7 hX (by simpa using a) (by simpa using b),fun b=>HM'.out w7 hX (by simpa using b),fun a b=>H5'.out w7 hX (by simpa using a) (by simpa using b),fun a b=>H8'.out w7 hX (by simpa using a) (by simpa using b),fun a=>H9'.out w7 hX (by simpa using a),fun _=>rfl,fun b=>by simpa using h589 (by simpa using b),fun a=>H11'.out w7 hX (by simpa using a)⟩
      ·refine zst fun K hK=>?_
       clear h4 hm0 h5 h8 h9 h11
       go_simp
       refine hK _ _ ?_; clear hK K; try simp only [zpt]
       have hX:Below w6.heap.size w6 (w6.alloc (Obj.cells (List.replicate 16 (.int .u8 0)).toArray 116)):=(Below.refl _ _).alloc (Nat.le_refl _) _
       exact ⟨_,x38,x42,x43,x46,x47,x48,rfl,BW6.out.trans (hX.mono hs6),zk h0,fun a b=>H4'.out _ hX (by simpa using a) (by simpa using b),fun b=>HM'.out _ hX (by simpa using b),fun a b=>H5'.out _ hX (by simpa using a) (by simpa using b),fun a b=>H8'.out _ hX (by simpa using a) (by simpa using b),fun a=>H9'.out _ hX (by simpa using a),zk h10,fun b=>by simpa using h589 (by simpa using b),fun _=>⟨_,rfl,hs6,Blk.at_new _ _ _ _ _ (by rfl) rfl⟩⟩
     case fin =>
      intro a w6 hI
      obtain ⟨x12,x38,x42,x43,x46,x47,x48,rfl,BW6,h0,h4,hm0,h5,h8,h9,h10,h589,h11⟩:=hI
      obtain rfl:=h10 (by decide)
      obtain ⟨gt,rfl,hgt,hBt⟩:=(h11 (by decide)).out
      clear h0 h4 hm0 h5 h8 h9 h10 h11
      have WZ:Below w.heap.size w w6:=zt W3.out BW6.out
      dsimp only
      refine zrd 12 fun K hK=>?_
      refine step_storeAll rfl 116 (.tmp 12) (.tmp 48) rfl gt rfl T rfl 116 (List.replicate 16 (Value.int .u8 0)) hBt IT.out LT.out OT.out (hK _ _ ?_)
      clear hK K
      try simp only [zpt]
      refine wpAny_done (by kernel_rfl) ?_ _
      have GT:Hid (Blk (w6.setRow gt T.toArray) gt 116 T):=Blk.row hBt
      have hwg:w.heap.size<=gt:=Nat.le_trans W3.out.size hgt
      have GW:=qh (below_setRow WZ hwg T.toArray)
      clear hBt WZ BW6
      generalize w6.setRow gt T.toArray=w7 at *
      have hsl:=fun W=>sliceAt_all 116 16 Tryz.underlying116 gt 0 W
      go_wp2_with fail
      go_ret
      refine ⟨gt,rfl,Rd.of_block GT.out (Ae.mark_length _ _ _ _) (Nat.le_refl _) (by unfold maxLen; omega) (fun j hj=>?_),hwg,GW.out⟩
      rw [HTT.out,Nat.zero_add]
      have hj2:j < (Ae.mark key nonce ad cc).length:=by rw [Ae.mark_length]; exact hj
      simp [List.getD_eq_getElem?_getD,List.getElem?_eq_getElem hj2]
    ·have hne:(((nm:Int) % 16) != 0)=true:=by simp; omega
     have HU2:Hid (Ae.up (m ++ [0])=Ae.up t6):=by unfold Hid; rw [Ae.up_more m (by rw [LM.out]; exact h16),HU.out]
     have LM1:Hid (m.length + 1<=140737488355328):=by unfold Hid; rw [LM.out]; omega
     have LB2:Hid (nm + 1<=t6.length + 15):=by
      unfold Hid
      have h1:=Ae.up_length m
      have h2:=(Ae.up_length t6).2.2
      rw [HU.out] at h1
      have h3:=LM.out
      omega
     go_wp2_with (first
      | (at_builtin; refine push_law rfl (.tmp 35) (.tmp 36) rfl rfl rfl (0:UInt8) OM.out rfl LM1.out XM.out.size XM.out ?_; intro v2 w2 O2 X2))
     obtain ⟨A2,c2,rfl,_,_⟩:=O2.out.value
     have hl2:(m ++ [(0:UInt8)]).length=nm + 1:=by rw [List.length_append,LM.out]; rfl
     rw [hl2] at O2
     rw [hl2]
     have LM2:=qh hl2
     have hb3:nm + 1<=300000:=by have:=LB2.out; omega
     clear hl2
     go_roundw
     case rel=>exact ⟨_,_,_,_,rfl,hb3,LM2,LB2,HU2,O2,X2⟩
     case measure=>simp [sliceLen,Ae.gap]; omega
  ·have hne:(((np:Int) % 16) != 0)=true:=by simp; omega
   have HU2:Hid (Ae.up (m ++ [0])=Ae.up ad):=by unfold Hid; rw [Ae.up_more m (by rw [LM.out]; exact h16),HU.out]
   have LM1:Hid (m.length + 1<=140737488355328):=by unfold Hid; rw [LM.out]; omega
   have LB2:Hid (np + 1<=ad.length + 15):=by
    unfold Hid
    have h1:=Ae.up_length m
    have h2:=(Ae.up_length ad).2.2
    rw [HU.out] at h1
    have h3:=LM.out
    omega
   go_wp2_with (first
    | (at_builtin; refine push_law rfl (.tmp 25) (.tmp 26) rfl rfl rfl (0:UInt8) OM.out rfl LM1.out XM.out.size XM.out ?_; intro v2 w2 O2 X2))
   obtain ⟨A2,c2,rfl,_,_⟩:=O2.out.value
   have hl2:(m ++ [(0:UInt8)]).length=np + 1:=by rw [List.length_append,LM.out]; rfl
   rw [hl2] at O2
   rw [hl2]
   have LM2:=qh hl2
   have hb3:np + 1<=300000:=by have:=LB2.out; omega
   clear hl2
   go_roundw
   case rel=>exact ⟨_,_,_,_,rfl,hb3,LM2,LB2,HU2,O2,X2⟩
   case measure=>simp [sliceLen,Ae.gap]; omega
open Go.RowKit
theorem step_loadW {P:Program} {ops:Array Oper} {op:Oper} {a:Act} {w:World} {K:Act->World->Prop} {Q:Exit->Act->World->Prop} {E:Prop} (hgd:Region.wanted op (yielded ops a.tmps)=true) (ty:TypeId) (x:Operand) (ho:op.op = .load ty x)
  (b off:Nat) (hx:a.eval x = .pointer (some ⟨b,off,none⟩)) (l:List Value) (d:TypeDesc) (hu:P.underlying ty=some d) (hd:(match d with | .struct _ | .array _ _=>true | _=>false)=true)
  (hi:(P.info? ty).map (·.size)=some l.length) (h:∀ j v,l[j]?=some v->w.cell? ⟨b,off + j,none⟩=some v)
  (hk:K (a.put op.dst (.agg l.toArray)) w):if Region.wanted op (yielded ops a.tmps)=true then op.wp P a w K Q else E:=by
 rw [if_pos hgd]
 unfold Oper.wp execOp
 simp only [ho,hx,Instr.loadAt,Instr.sureAddr,Sem.run_bind,Sem.run_pure,Result.andThen_ok,run_loadVar_list w ty b off l d hu hd hi h]
 exact hk
theorem rseal_any (key nonce:List UInt8) {w:World} {A A':Option Addr} {n c n' c':Nat} {ad b:List UInt8} (hk:key.length=32) (hn:nonce.length=12) (hra:Rd w A n c ad) (hrb:Rd w A' n' c' b) (hn1:n<=100000) (hn2:n'<=100000) :
  Calls Tryz.prog 57 #[.agg (key.map cellOf).toArray,.agg (nonce.map cellOf).toArray,.slice A n c,.slice A' n' c'] w (RetB w (Ae.sealed key nonce ad b)):=by
 have CX:=qh (fun W (h:Rd W A' n' c' b)=>rxor_own key nonce 1 h hn2 hk hn (by omega) (by omega))
 have CM:=qh (fun (W:World) (AX:Option Addr) (cx:Nat) (h1:Rd W A n c ad) (h2:Rd W AX n' cx (Cha.xor key 1 nonce b))=>rmark_any key nonce hk hn h1 h2 hn1 hn2)
 obtain ⟨kc,hkc⟩:=zx (key.map cellOf)
 obtain ⟨nc,hnc⟩:=zx (nonce.map cellOf)
 rw [<- hkc,<- hnc] at CX CM
 rw [<- hkc,<- hnc]
 have IK:Hid ((Tryz.prog.info? 45).map (·.size)=some kc.length):=by unfold Hid; rw [hkc,List.length_map,hk]; kernel_rfl
 have IN:Hid ((Tryz.prog.info? 88).map (·.size)=some nc.length):=by unfold Hid; rw [hnc,List.length_map,hn]; kernel_rfl
 have HRA:=qh hra
 have HRB:=qh hrb
 obtain ⟨x,hx⟩:=zx (Cha.xor key 1 nonce b)
 rw [<- hx] at CX CM
 have LX:Hid (x.length=n'):=by unfold Hid; rw [hx,Ae.xor_len,hrb.len]
 obtain ⟨mk,hmk⟩:=zx (Ae.mark key nonce ad x)
 rw [<- hmk] at CM
 have HS:Hid (Ae.sealed key nonce ad b=x ++ mk):=by unfold Hid Ae.sealed; rw [<- hx,<- hmk]
 clear hkc hnc hk hn hra hrb hx hmk
 go_enter Tryz.func57,Tryz.ntmps57
 go_upto_region 1 with (fail)
 obtain ⟨w0,hw0⟩:=zx ((w.alloc (Obj.cells kc.toArray 45)).alloc (Obj.cells nc.toArray 88))
 have B0:Hid (Blk w0 w.heap.size 45 kc):=by unfold Hid; rw [hw0]; exact (Blk.new w _ _).alloc _
 have B1:Hid (Blk w0 (w.heap.size + 1) 88 nc):=by unfold Hid; rw [hw0]; exact Blk.at_new _ _ _ _ _ rfl (by simp)
 have W0:Hid (Below w.heap.size w w0):=by unfold Hid; rw [hw0]; exact ((Below.refl _ _).alloc (Nat.le_refl _) _).alloc (by simp) _
 change Code.wp _ _ _ _ ((w.alloc (Obj.cells kc.toArray 45)).alloc (Obj.cells nc.toArray 88))
 rw [<- hw0]
 clear hw0
 go_wp2_with (first
  | ((with_reducible refine load_law rfl 45 (.tmp 4) rfl w.heap.size 0 rfl kc _ Tryz.underlying45 rfl IK.out B0.out.cells ?_))
  | ((with_reducible refine load_law rfl 88 (.tmp 5) rfl (w.heap.size + 1) 0 rfl nc _ Tryz.underlying88 rfl IN.out B1.out.cells ?_)))
 refine (CX.out w0 (HRB.out.below W0.out)).mono ?_
 rintro e w1 ⟨AX,cx,rfl,hRX,hX,hOX⟩
 have C0:=qh (B0.out.below hX B0.out.lt)
 have C1:=qh (B1.out.below hX B1.out.lt)
 have W1:=qt W0 hX
 have RX:=qh hRX
 have OX:=qh hOX
 have hs1:=hX.size
 have X1:=qh hX
 clear hX hRX hOX B0 B1 CX
 go_wp2_with (first
  | ((with_reducible refine load_law rfl 45 (.tmp 4) rfl w.heap.size 0 rfl kc _ Tryz.underlying45 rfl IK.out C0.out.cells ?_))
  | ((with_reducible refine load_law rfl 88 (.tmp 5) rfl (w.heap.size + 1) 0 rfl nc _ Tryz.underlying88 rfl IN.out C1.out.cells ?_)))
 refine (CM.out w1 AX cx (HRA.out.below W1.out) RX.out).mono ?_
 rintro e w2 ⟨g,rfl,hRM,hg,hX⟩
 have RM:=qh hRM
 have O2:=qh (OX.out.keep hX)
 have X2:=qh (X1.out.trans (hX.mono hs1))
 have LN:Hid (x.length + 16<=140737488355328):=by unfold Hid; rw [LX.out]; omega
 clear hX hRM OX RX C0 C1 CM X1
 go_wp2_with (first
  | (at_builtin; refine onto_law rfl (.tmp 14) (.tmp 19) rfl rfl rfl RM.out O2.out LN.out X2.out.size X2.out ?_; intro v3 w3 O3 X3))
 go_ret
 exact ⟨_,rfl,by rw [HS.out]; exact Ow.more O3.out W0.out.size,zt W0.out X3.out⟩
open Go.RowKit
def RetO (w:World) (l:List UInt8) (ok:Bool) (e:Ending) (w':World):Prop:=∃ A n c,e = .returned (.tuple #[.slice A n c,.bool ok])/\Rd w' A n c l/\Below w.heap.size w w'
theorem str_ne {a b:List UInt8} (h:a ≠ b):((⟨a.toArray⟩:ByteArray) == ⟨b.toArray⟩)=false:=by
 show (a.toArray == b.toArray)=false
 simpa using h
theorem ropen_any (key nonce:List UInt8) {w:World} {A A':Option Addr} {n c n' c':Nat} {ad cc:List UInt8} (hk:key.length=32) (hn:nonce.length=12) (hra:Rd w A n c ad) (hrc:Rd w A' n' c' cc) (hn1:n<=100000) (hn2:n'<=100000) :
  Calls Tryz.prog 70 #[.agg (key.map cellOf).toArray,.agg (nonce.map cellOf).toArray,.slice A n c,.slice A' n' c'] w (RetO w (Ae.opened key nonce ad cc) (Ae.opens key nonce ad cc)):=by
 have CX:=qh (fun (W:World) (AX:Option Addr) (nx cx:Nat) (l:List UInt8) (h:Rd W AX nx cx l) (hx:nx<=100000)=>rxor_any key nonce 1 h hx hk hn (by omega) (by omega))
 have CM:=qh (fun (W:World) (AX:Option Addr) (nx cx:Nat) (l:List UInt8) (h1:Rd W A n c ad) (h2:Rd W AX nx cx l) (hx:nx<=100000)=>rmark_any key nonce hk hn h1 h2 hn1 hx)
 obtain ⟨kc,hkc⟩:=zx (key.map cellOf)
 obtain ⟨nc,hnc⟩:=zx (nonce.map cellOf)
 rw [<- hkc,<- hnc] at CX CM
 rw [<- hkc,<- hnc]
 have IK:Hid ((Tryz.prog.info? 45).map (·.size)=some kc.length):=by unfold Hid; rw [hkc,List.length_map,hk]; kernel_rfl
 have IN:Hid ((Tryz.prog.info? 88).map (·.size)=some nc.length):=by unfold Hid; rw [hnc,List.length_map,hn]; kernel_rfl
 have HRA:=qh hra
 have HRC:=qh hrc
 have HLC:=qh hrc.len
 have hcap:=hrc.cap
 clear hkc hnc hk hn hra hrc
 by_cases h16:n' < 16
 ·have d1:decide ((n':Int) - 16 < 0)=true:=by simp; omega
  have HOF:Hid (Ae.opens key nonce ad cc=false):=by unfold Hid Ae.opens; rw [HLC.out]; simp; omega
  have HOP:Hid (Ae.opened key nonce ad cc=[]):=by unfold Hid Ae.opened; rw [HOF.out]; rfl
  go_enter Tryz.func70,Tryz.ntmps70
  go_upto_region 2 with (fail)
  obtain ⟨w0,hw0⟩:=zx ((w.alloc (Obj.cells kc.toArray 45)).alloc (Obj.cells nc.toArray 88))
  have W0:Hid (Below w.heap.size w w0.drew):=by unfold Hid; rw [hw0]; exact (((Below.refl _ _).alloc (Nat.le_refl _) _).alloc (by simp) _).drew
  change Code.wp _ _ _ _ ((w.alloc (Obj.cells kc.toArray 45)).alloc (Obj.cells nc.toArray 88))
  rw [<- hw0]
  clear hw0
  refine wp_region_any (by kernel_rfl) ?_
  change wpAny _ _ _ _ _ _ _ (World.drew _)
  generalize w0.drew=w5 at *
  refine ztk 0 (.int .i64 ((n':Int) - 16)) ?_
  try simp only [zpt]
  refine ztk 1 (.bool true) ?_
  try simp only [zpt]
  refine ztk 2 (.bool true) ?_
  try simp only [zpt]
  refine ztk 3 (undef) ?_
  try simp only [zpt]
  refine ztk 4 (undef) ?_
  try simp only [zpt]
  refine ztk 5 (undef) ?_
  try simp only [zpt]
  refine ztk 6 (undef) ?_
  try simp only [zpt]
  refine ztk 7 (undef) ?_
  try simp only [zpt]
  refine ztk 8 (undef) ?_
  try simp only [zpt]
  refine ztk 9 (undef) ?_
  try simp only [zpt]
  refine ztk 10 (undef) ?_
  try simp only [zpt]
  refine ztk 11 (undef) ?_
  try simp only [zpt]
  refine ztk 12 (undef) ?_
  try simp only [zpt]
  refine ztk 13 (undef) ?_
  try simp only [zpt]
  refine ztk 14 (undef) ?_
  try simp only [zpt]
  refine ztk 15 (undef) ?_
  try simp only [zpt]
  refine ztk 16 (.bool true) ?_
  try simp only [zpt]
  refine wpAny_done (by kernel_rfl) ?_ _
  go_wp2_with fail
  go_ret2
  exact ⟨none,0,0,by rw [HOF.out]; rfl,by rw [HOP.out]; exact Rd.nil _ _ _ (by unfold maxLen; omega),W0.out⟩
 ·obtain ⟨N,hN⟩:=zx (n' - 16:Nat)
  have e16:(n':Int) - 16=(N:Int):=by omega
  have hNn:N<=n':=by omega
  have hN16:n' - N=16:=by omega
  have d1:decide ((N:Int) < 0)=false:=decide_eq_false (by omega)
  obtain ⟨fr,hfr⟩:=zx (cc.take N)
  obtain ⟨tl,htl⟩:=zx (cc.drop N)
  obtain ⟨mk,hmk⟩:=zx (Ae.mark key nonce ad fr)
  have HOE:Hid (Ae.opens key nonce ad cc=decide (mk=tl)):=by
   unfold Hid Ae.opens
   rw [HLC.out,<- hN,<- hfr,<- htl,<- hmk,decide_eq_true (show 16<=n' by omega),Bool.true_and]
  have HOX:Hid (Ae.opened key nonce ad cc=if decide (mk=tl)=true then Cha.xor key 1 nonce fr else []):=by
   unfold Hid Ae.opened
   rw [HOE.out,HLC.out,<- hN,<- hfr]
  have RF:Hid (∀ W,Rd W A' n' c' cc->Rd W (cutA A' c' 0) N c' fr):=fun W h=>by
   have:=h.cut (k:=0) (e:=N) (by omega) hNn
   rw [List.drop_zero,Nat.sub_zero,Nat.sub_zero,<- hfr] at this
   exact this
  have RT:Hid (∀ W,Rd W A' n' c' cc->Rd W (cutA A' c' N) 16 (c' - N) tl):=fun W h=>by
   have:=h.cut (k:=N) (e:=n') hNn (Nat.le_refl _)
   rw [hN16,List.take_of_length_le (by rw [List.length_drop,HLC.out]; omega),<- htl] at this
   exact this
  have CM2:Hid (∀ W,Rd W A n c ad->Rd W (cutA A' c' 0) N c' fr->Calls Tryz.prog 84 #[.agg kc.toArray,.agg nc.toArray,.slice A n c,.slice (cutA A' c' 0) N c'] W fun e w'=>∃ g,e = .returned (.slice (some ⟨g,0,none⟩) 16 16)/\Rd w' (some ⟨g,0,none⟩) 16 16 mk/\W.heap.size<=g/\Below W.heap.size W w'):=fun W h1 h2=>by rw [hmk]; exact CM.out W _ _ _ _ h1 h2 (by omega)
  have hcut1:=fun W=>slice_h A' n' c' N (by omega) W
  have hcut2:=fun W=>slice_l A' n' c' N hNn W
  rw [hN16] at hcut2
  clear hN hfr htl hmk h16 CM
  go_enter Tryz.func70,Tryz.ntmps70
  go_upto_region 2 with (fail)
  obtain ⟨w0,hw0⟩:=zx ((w.alloc (Obj.cells kc.toArray 45)).alloc (Obj.cells nc.toArray 88))
  have B0:Hid (Blk w0.drew w.heap.size 45 kc):=by unfold Hid; rw [hw0]; exact (Blk.new w _ _).alloc _
  have B1:Hid (Blk w0.drew (w.heap.size + 1) 88 nc):=by unfold Hid; rw [hw0]; exact Blk.at_new _ _ _ _ _ rfl (by simp)
  have W0:Hid (Below w.heap.size w w0.drew):=by unfold Hid; rw [hw0]; exact (((Below.refl _ _).alloc (Nat.le_refl _) _).alloc (by simp) _).drew
  change Code.wp _ _ _ _ ((w.alloc (Obj.cells kc.toArray 45)).alloc (Obj.cells nc.toArray 88))
  rw [<- hw0]
  clear hw0 e16
  refine wp_region_any (by kernel_rfl) ?_
  change wpAny _ _ _ _ _ _ _ (World.drew _)
  generalize w0.drew=w5 at *
  have RA5:=qh (HRA.out.below W0.out)
  have RC5:=qh (HRC.out.below W0.out)
  refine ztk 0 (.int .i64 (N:Int)) ?_
  try simp only [zpt]
  refine ztk 1 (.bool false) ?_
  try simp only [zpt]
  refine ztk 2 (.bool false) ?_
  try simp only [zpt]
  refine ztk 5 (.slice A n c) ?_
  try simp only [zpt]
  refine ztk 6 (.slice A' n' c') ?_
  try simp only [zpt]
  refine ztk 7 (.int .i64 (N:Int)) ?_
  try simp only [zpt]
  refine ztk 8 (.slice (cutA A' c' 0) N c') ?_
  try simp only [zpt]
  refine ztk 11 (.slice A' n' c') ?_
  try simp only [zpt]
  refine ztk 12 (.int .i64 (N:Int)) ?_
  try simp only [zpt]
  refine ztk 13 (.slice (cutA A' c' N) 16 (c' - N)) ?_
  try simp only [zpt]
  refine phase (fun i=>if i=9 then [3,4] else if i=10 then [9] else []) (fun d a w'=>∃ x17 x18 x23 x24 x28:Value,a={ tmps:=#[.agg kc.toArray,.agg nc.toArray,.slice A n c,.slice A' n' c',.pointer (some ⟨w.heap.size,0,none⟩),.pointer (some ⟨w.heap.size + 1,0,none⟩),undef,undef,.slice none 0 0,.bool false,.int .i64 (N:Int),.slice A' n' c',.int .i64 (n':Int),.int .i64 (N:Int),.int .i64 (N:Int),.bool false,.bool false,x17,x18,.slice A n c,.slice A' n' c',.int .i64 (N:Int),.slice (cutA A' c' 0) N c',x23,x24,.slice A' n' c',.int .i64 (N:Int),.slice (cutA A' c' N) 16 (c' - N),x28,undef,undef,undef,undef,undef,undef,undef,undef],defers:=[] }/\Hid (Below w5.heap.size w5 w')
   /\ (d 3=true->x17 = .agg kc.toArray)/\(d 4=true->x18 = .agg nc.toArray)/\(d 9=true->Hid (∃ g,x23 = .slice (some ⟨g,0,none⟩) 16 16/\Rd w' (some ⟨g,0,none⟩) 16 16 mk))/\(d 10=true->x24 = .string ⟨mk.toArray⟩)/\(d 14=true->x28 = .string ⟨tl.toArray⟩)) [3,4,9,10,14] ?step 2 5 [3,4,9,10,14] _ _ _ rfl (by decide) (fun _ h=>h) (by kernel_rfl) ?init ?fin
  case init =>
   refine ⟨_,_,_,_,_,rfl,Below.refl _ _,?_,?_,?_,?_,?_⟩ <;> (intro h; exact absurd h (by decide))
  case step =>
   intro i hi d a w6 hI hdi hdeps
   obtain ⟨x17,x18,x23,x24,x28,rfl,BW6,h3,h4,h9,h10,h14⟩:=hI
   have hs6:=BW6.out.size
   have H9':Hid (∀ w7,Below w6.heap.size w6 w7->(d 9=true->Hid (∃ g,x23 = .slice (some ⟨g,0,none⟩) 16 16/\Rd w7 (some ⟨g,0,none⟩) 16 16 mk))):=fun w7 hX a=>by obtain ⟨g,e,hR⟩:=(h9 a).out; exact ⟨g,e,hR.below hX⟩
   simp only [List.mem_cons,List.not_mem_nil,or_false] at hi
   rcases hi with rfl | rfl | rfl | rfl | rfl
   ·refine zst fun K hK=>?_
    refine step_loadW rfl 45 (.tmp 4) rfl w.heap.size 0 rfl kc _ Tryz.underlying45 rfl IK.out (B0.out.below BW6.out B0.out.lt).cells (hK _ _ ?_)
    clear hK K
    try simp only [zpt]
    exact ⟨_,x18,x23,x24,x28,rfl,BW6,fun _=>rfl,zk h4,zk h9,zk h10,zk h14⟩
   ·refine zst fun K hK=>?_
    refine step_loadW rfl 88 (.tmp 5) rfl (w.heap.size + 1) 0 rfl nc _ Tryz.underlying88 rfl IN.out (B1.out.below BW6.out B1.out.lt).cells (hK _ _ ?_)
    clear hK K
    try simp only [zpt]
    exact ⟨x17,_,x23,x24,x28,rfl,BW6,zk h3,fun _=>rfl,zk h9,zk h10,zk h14⟩
   ·obtain rfl:=h3 (hdeps 3 (by simp))
    obtain rfl:=h4 (hdeps 4 (by simp))
    refine zst fun K hK=>?_
    clear h9
    go_simp
    refine (CM2.out w6 (RA5.out.below BW6.out) (RF.out w6 (RC5.out.below BW6.out))).mono ?_
    rintro e w7 ⟨g,rfl,hR,_,hX⟩
    refine hK _ _ ?_; clear hK K; try simp only [zpt]
    exact ⟨_,_,_,x24,x28,rfl,BW6.out.trans (hX.mono hs6),fun _=>rfl,fun _=>rfl,fun _=>⟨_,rfl,hR⟩,zk h10,zk h14⟩
   ·obtain ⟨g,rfl,hR⟩:=(h9 (hdeps 9 (by simp))).out
    have hcv:=conv_bytes hR
    refine zst fun K hK=>?_
    clear h9
    go_simp
    refine hK _ _ ?_; clear hK K; try simp only [zpt]
    exact ⟨x17,x18,_,_,x28,rfl,BW6,zk h3,zk h4,fun _=>⟨_,rfl,hR⟩,fun _=>rfl,zk h14⟩
   ·have hcv:=conv_bytes (RT.out w6 (RC5.out.below BW6.out))
    refine zst fun K hK=>?_
    go_simp
    refine hK _ _ ?_; clear hK K; try simp only [zpt]
    exact ⟨x17,x18,x23,x24,_,rfl,BW6,zk h3,zk h4,zk h9,zk h10,fun _=>rfl⟩
  case fin =>
   intro a w6 hI
   obtain ⟨x17,x18,x23,x24,x28,rfl,BW6,h3,h4,h9,h10,h14⟩:=hI
   obtain rfl:=h10 (by decide)
   obtain rfl:=h14 (by decide)
   have W6:=qt W0 BW6.out
   have C0:=qh (B0.out.below BW6.out B0.out.lt)
   have C1:=qh (B1.out.below BW6.out B1.out.lt)
   have RC6:=qh (RC5.out.below BW6.out)
   clear h3 h4 h9 h10 h14 CM2 BW6
   dsimp only
   by_cases hEq:mk=tl
   ·have HOT:Hid (Ae.opens key nonce ad cc=true):=by unfold Hid; rw [HOE.out]; simpa using hEq
    have HOP:Hid (Ae.opened key nonce ad cc=Cha.xor key 1 nonce fr):=by unfold Hid; rw [HOX.out,if_pos (by simpa using hEq)]
    subst hEq
    refine ztk 15 (.bool false) ?_
    try simp only [zpt]
    refine ztk 16 (.bool false) ?_
    try simp only [zpt]
    refine wpAny_done (by kernel_rfl) ?_ _
    go_upto_region 4 with (fail)
    refine wp_region_any (by kernel_rfl) ?_
    change wpAny _ _ _ _ _ _ _ (World.drew _)
    have D0:Hid (Blk w6.drew w.heap.size 45 kc):=C0.out.drew
    have D1:Hid (Blk w6.drew (w.heap.size + 1) 88 nc):=C1.out.drew
    have DW:Hid (Below w.heap.size w w6.drew):=W6.out.drew
    have DR:Hid (Rd w6.drew A' n' c' cc):=RC6.out.drew
    clear C0 C1 W6 RC6
    generalize w6.drew=w8 at *
    refine ztk 2 (.slice A' n' c') ?_
    try simp only [zpt]
    refine ztk 3 (.int .i64 (N:Int)) ?_
    try simp only [zpt]
    refine ztk 4 (.slice (cutA A' c' 0) N c') ?_
    try simp only [zpt]
    refine phase (fun i=>if i=5 then [0,1] else []) (fun d a w'=>∃ x31 x32 x36:Value,a={ tmps:=#[.agg kc.toArray,.agg nc.toArray,.slice A n c,.slice A' n' c',.pointer (some ⟨w.heap.size,0,none⟩),.pointer (some ⟨w.heap.size + 1,0,none⟩),undef,undef,.slice none 0 0,.bool false,.int .i64 (N:Int),.slice A' n' c',.int .i64 (n':Int),.int .i64 (N:Int),.int .i64 (N:Int),.bool false,.bool false,x17,x18,.slice A n c,.slice A' n' c',.int .i64 (N:Int),.slice (cutA A' c' 0) N c',x23,.string ⟨mk.toArray⟩,.slice A' n' c',.int .i64 (N:Int),.slice (cutA A' c' N) 16 (c' - N),.string ⟨mk.toArray⟩,.bool false,.bool false,x31,x32,.slice A' n' c',.int .i64 (N:Int),.slice (cutA A' c' 0) N c',x36],defers:=[] }/\Hid (Below w8.heap.size w8 w')
     /\ (d 0=true->x31 = .agg kc.toArray)/\(d 1=true->x32 = .agg nc.toArray)/\(d 5=true->Hid (∃ AX cx,x36 = .slice AX N cx/\Rd w' AX N cx (Cha.xor key 1 nonce fr)))) [0,1,5] ?step4 2 3 [0,1,5] _ _ _ rfl (by decide) (fun _ h=>h) (by kernel_rfl) ?init4 ?fin4
    case init4 =>
     refine ⟨_,_,_,rfl,Below.refl _ _,?_,?_,?_⟩ <;> (intro h; exact absurd h (by decide))
    case step4 =>
     intro i hi d a w9 hI hdi hdeps
     obtain ⟨x31,x32,x36,rfl,BW9,h0,h1,h5⟩:=hI
     have hs9:=BW9.out.size
     simp only [List.mem_cons,List.not_mem_nil,or_false] at hi
     rcases hi with rfl | rfl | rfl
     ·refine zst fun K hK=>?_
      refine step_loadL rfl 45 (.tmp 4) rfl w.heap.size 0 rfl kc _ Tryz.underlying45 rfl IK.out (D0.out.below BW9.out D0.out.lt).cells (hK _ _ ?_)
      clear hK K
      try simp only [zpt]
      exact ⟨_,x32,x36,rfl,BW9,fun _=>rfl,zk h1,zk h5⟩
     ·refine zst fun K hK=>?_
      refine step_loadL rfl 88 (.tmp 5) rfl (w.heap.size + 1) 0 rfl nc _ Tryz.underlying88 rfl IN.out (D1.out.below BW9.out D1.out.lt).cells (hK _ _ ?_)
      clear hK K
      try simp only [zpt]
      exact ⟨x31,_,x36,rfl,BW9,zk h0,fun _=>rfl,zk h5⟩
     ·obtain rfl:=h0 (hdeps 0 (by simp))
      obtain rfl:=h1 (hdeps 1 (by simp))
      refine zst fun K hK=>?_
      clear h5
      go_simp
      refine (CX.out w9 _ _ _ _ (RF.out w9 (DR.out.below BW9.out)) (by omega)).mono ?_
      rintro e w10 ⟨AX,cx,rfl,hR,hX⟩
      refine hK _ _ ?_; clear hK K; try simp only [zpt]
      exact ⟨_,_,_,rfl,BW9.out.trans (hX.mono hs9),fun _=>rfl,fun _=>rfl,fun _=>⟨_,_,rfl,hR⟩⟩
    case fin4 =>
     intro a w9 hI
     obtain ⟨x31,x32,x36,rfl,BW9,h0,h1,h5⟩:=hI
     obtain ⟨AX,cx,rfl,hR⟩:=(h5 (by decide)).out
     have W9:=qt DW BW9.out
     have HRX:=qh hR
     clear h0 h1 h5 CX BW9 hR
     dsimp only
     refine ztk 6 (.slice AX N cx) ?_
     try simp only [zpt]
     refine ztk 7 (.bool true) ?_
     try simp only [zpt]
     refine wpAny_done (by kernel_rfl) ?_ _
     go_wp2_with fail
     go_ret2
     exact ⟨AX,N,cx,by rw [HOT.out]; rfl,by rw [HOP.out]; exact HRX.out,W9.out⟩
   ·have HOF:Hid (Ae.opens key nonce ad cc=false):=by unfold Hid; rw [HOE.out]; simpa using hEq
    have HOP:Hid (Ae.opened key nonce ad cc=[]):=by unfold Hid; rw [HOX.out,if_neg (by simpa using hEq)]
    refine ztk 15 (.bool true) ?_
    try simp only [zpt]
    refine ztk 16 (.bool true) ?_
    try simp only [zpt]
    refine wpAny_done (by kernel_rfl) ?_ _
    go_wp2_with fail
    go_ret2
    exact ⟨none,0,0,by rw [HOF.out]; rfl,by rw [HOP.out]; exact Rd.nil _ _ _ (by unfold maxLen; omega),W6.out⟩
open Go.RowKit
def RetR (w:World) (l:List UInt8) (e:Ending) (w':World):Prop:=∃ A n c,e = .returned (.slice A n c)/\Rd w' A n c l/\Below w.heap.size w w'
structure AeOk:Prop where
 s:∀ (key nonce:List UInt8) {w:World} {A A':Option Addr} {n c n' c':Nat} {ad b:List UInt8},key.length=32->nonce.length=12->Rd w A n c ad->Rd w A' n' c' b->n<=10000->n'<=10000 ->
  Calls Tryz.prog 55 #[.agg (key.map cellOf).toArray,.agg (nonce.map cellOf).toArray,.slice A n c,.slice A' n' c'] w (RetR w (Ae.sealed key nonce ad b))
 o:∀ (key nonce:List UInt8) {w:World} {A A':Option Addr} {n c n' c':Nat} {ad cc:List UInt8},key.length=32->nonce.length=12->Rd w A n c ad->Rd w A' n' c' cc->n<=10000->n'<=10000 ->
  Calls Tryz.prog 69 #[.agg (key.map cellOf).toArray,.agg (nonce.map cellOf).toArray,.slice A n c,.slice A' n' c'] w (RetO w (Ae.opened key nonce ad cc) (Ae.opens key nonce ad cc))
theorem opened_sealed (key nonce ad b:List UInt8):Ae.opened key nonce ad (Ae.sealed key nonce ad b)=b:=by
 have h1:=Ae.sealed_length key nonce ad b
 have h2:=Ae.xor_len key nonce b 1
 have e1:(Ae.sealed key nonce ad b).take (b.length + 16 - 16)=Cha.xor key 1 nonce b:=by rw [Ae.sealed,Nat.add_sub_cancel,<- h2]; exact List.take_left' rfl
 rw [Ae.opened,Ae.opens_sealed,h1,e1,if_pos rfl,Cha.xor_xor]
open Go.RowKit
theorem outC_own {w:World} {g n B:Nat} {l:List UInt8} (hb:Blk w g 5 (outC l n)) (hl:l.length=n) (hm:n<=1000000) (hB:B<=g):Ow w B (.slice (some ⟨g,0,none⟩) n n) l:=by
 subst hl
 refine ⟨by simp,.inr ⟨g,l.length,(outC l l.length).toArray,rfl,hB,hb,Nat.le_refl _,by unfold maxLen; omega,by simp [outC_length],?_⟩⟩
 rw [out_end l l.length (Nat.le_refl _)]
 simp [List.take_of_length_le]
theorem Ow.front {w:World} {B g n c:Nat} {l:List UInt8} (h:Ow w B (.slice (some ⟨g,0,none⟩) n c) l):Ow w B (.slice (some ⟨g,0,none⟩) 0 c) []:=by
 rcases h.2 with ⟨h',_⟩ | ⟨g',cap',cur,h',hb,hg,hnc,hcm,hcs,htake⟩
 ·simp at h'
 ·simp only [Value.slice.injEq,Option.some.injEq,Addr.mk.injEq,and_true,true_and] at h'
  obtain ⟨rfl,_,rfl⟩:=h'
  exact ⟨by simp,.inr ⟨g,c,cur,rfl,hb,hg,Nat.zero_le _,hcm,hcs,by simp⟩⟩
theorem cut_none (W:World):(Instr.slice 24 (.slice none 0 0) none (some (.int .i64 0)) none).run Tryz.prog W = .ok (.slice none 0 0) W:=by
 have:=slice_h none 0 0 0 (Nat.le_refl _) W
 simpa [cutA] using this
theorem cut_front (g n c:Nat) (W:World):(Instr.slice 24 (.slice (some ⟨g,0,none⟩) n c) none (some (.int .i64 0)) none).run Tryz.prog W = .ok (.slice (some ⟨g,0,none⟩) 0 c) W:=by
 have:=slice_h (some ⟨g,0,none⟩) n c 0 (Nat.zero_le _) W
 have e:cutA (some ⟨g,0,none⟩) c 0=some ⟨g,0,none⟩:=by
  unfold cutA
  split
  ·rfl
  ·simp [add_plain]
 rw [e] at this
 exact this
theorem eight_any (n:Nat) (w:World) (hn:n<=1000000000):Calls Tryz.prog 105 #[.int .i64 (n:Int)] w fun e w'=>∃ g,e = .returned (.slice (some ⟨g,0,none⟩) 8 8)/\Rd w' (some ⟨g,0,none⟩) 8 8 (Pol.bytesN 8 (n:Int))/\Below w.heap.size w w':=by
 have hmk:∀ W:World,(Instr.makeSlice 24 (.int .i64 8) (.int .i64 8)).run Tryz.prog W = .ok (.slice (some ⟨W.heap.size,0,none⟩) 8 8) (W.alloc (.cells (outC [] 8).toArray 5)):=fun W=>make_bytes 8 (by omega) W
 go_enter Tryz.func105,Tryz.ntmps105
 go_wp2_with fail
 clear hmk
 go_loopw [8] (fun i wr=>∃ k:Nat,k<=8/\i = .int .i64 k/\Hid (Blk wr w.heap.size 5 (outC (Pol.bytesN k (n:Int)) 8))/\Hid (Below w.heap.size w wr)) (fun i _=>8 - (intOf i).toNat)
 case atStart=>exact ⟨0,by omega,rfl,Blk.at_new _ _ 5 _ _ rfl rfl,(Below.refl _ _).alloc (Nat.le_refl _) _⟩
 case round =>
  obtain ⟨k,hk,rfl,B2,BW⟩:=hrel
  by_cases hlt:k < 8
  ·have hlb:decide ((k:Int) < 8)=true:=by simp; omega
   obtain ⟨y,hy⟩:=zx (Sha.by8 ((n:Int) / 256 ^ k):UInt8)
   have HN:Hid (Pol.bytesN (k + 1) (n:Int)=Pol.bytesN k (n:Int) ++ [y]):=by unfold Hid; rw [Pol.bytesN_succ,hy]
   have hL:(Pol.bytesN k (n:Int)).length=k:=Pol.bytesN_length _ _
   have c0:wr.cell? ⟨w.heap.size,k,none⟩=some (.int .u8 0):=by rw [B2.out.cell]; exact outC_at _ 8 k hL hlt
   have f0:wr.frozen? ⟨w.heap.size,k,none⟩=false:=B2.out.frozen _
   have B4:Hid (Blk (wr.setCell ⟨w.heap.size,k,none⟩ (.int .u8 (y.toNat:Int))) w.heap.size 5 (outC (Pol.bytesN (k + 1) (n:Int)) 8)):=by
    have:=B2.out.set_ k (cellOf y)
    rw [outC_set _ 8 k _ hL hlt,<- HN.out] at this
    exact this
   have hsh:(n:Int) / 2 ^ (8 * k) % 256=(y.toNat:Int):=by rw [hy,Pol.by8_toNat,Int.pow_mul]; rfl
   have hm8:((8 * (k:Int)).toNat)=8 * k:=by omega
   clear hy hL
   go_wp2_with fail
   clear c0 f0 hsh
   go_roundw
   case rel=>exact ⟨k + 1,by omega,by go_num,B4,BW.out.setCell (by simp) _⟩
   case measure=>simp [intOf]; omega
  ·obtain rfl:k=8:=by omega
   rw [show ((8:Nat):Int)=8 from rfl]
   have HRR:=qh (outC_rd B2.out (Pol.bytesN_length 8 (n:Int)) (by omega))
   clear B2
   go_wp2_with fail
   go_ret
   exact ⟨_,rfl,HRR.out,BW.out⟩
theorem noughts_any (n:Nat) (w:World) (hn:n<=1000000000):Calls Tryz.prog 104 #[.int .i64 (n:Int)] w fun e w'=>∃ g,e = .returned (.slice (some ⟨g,0,none⟩) (Ae.gap n) (Ae.gap n))/\Rd w' (some ⟨g,0,none⟩) (Ae.gap n) (Ae.gap n) (List.replicate (Ae.gap n) 0)/\Below w.heap.size w w':=by
 obtain ⟨z,hz⟩:=zx (Ae.gap n)
 rw [<- hz]
 obtain ⟨r,hr⟩:=zx (n % 16)
 have hr16:r < 16:=by omega
 have e1:(n:Int) % 16=(r:Int):=by omega
 have e2:(16 - (r:Int)) % 16=(z:Int):=by rw [hz]; unfold Ae.gap; omega
 have e3:(16 - (r:Int)).tmod 16=(z:Int):=by rw [Int.tmod_eq_emod_of_nonneg (by omega)]; exact e2
 have hz16:z < 16:=by omega
 have hmk:=fun W=>make_bytes z (by omega) W
 clear hz hr
 go_enter Tryz.func104,Tryz.ntmps104
 go_wp2_with fail
 go_ret
 refine ⟨_,rfl,Rd.of_block (Blk.new w 5 (outC [] z)) (by simp) (Nat.le_refl _) (by unfold maxLen; omega) (fun j hj=>?_),(Below.refl _ _).alloc (Nat.le_refl _) _⟩
 simp [outC,hj,cellOf]
theorem grow_any (n:Nat) (w:World) (h0:0 < n) (hn:n<=900000):Calls Tryz.prog 51 #[.slice none 0 0,.int .i64 (n:Int)] w fun e w'=>∃ v,e = .returned v/\Ow w' w.heap.size v []/\Below w.heap.size w w':=by
 have b1:decide ((n:Int) < 0)=false:=by simp
 have b2:decide ((0:Int) < (n:Int))=true:=by simp; omega
 have hc1:=fun W=>cut_none W
 have hc2:=fun g c W=>cut_front g n c W
 have E0:=qh (Ow.empty w w.heap.size)
 have LN0:Hid (([]:List UInt8).length + n<=1000000):=by unfold Hid; simp; omega
 go_enter Tryz.func51,Tryz.ntmps51
 go_wp2_with (first
  | (at_builtin; refine zeros_law rfl (.tmp 20) (.tmp 21) rfl rfl rfl E0.out LN0.out (Nat.le_refl _) (Below.refl _ _) ?_; intro v3 w3 O3 X3; obtain ⟨g,c,rfl,hgb,hgl⟩:=O3.out.form (by simp; omega); simp only [List.nil_append,List.length_replicate] at *))
 go_ret
 exact ⟨_,rfl,O3.out.front,X3.out⟩
theorem concat_any {w:World} {A:Option Addr} {n c:Nat} {ps:List (List UInt8)} (hr:RdP w A n ps) (hn:n<=1000000) (h0:0 < ps.flatten.length) (hb:ps.flatten.length<=900000) :
  Calls Tryz.prog 29 #[.slice A n c] w fun e w'=>∃ v,e = .returned v/\Ow w' w.heap.size v ps.flatten/\Below w.heap.size w w':=by
 have HR:=qh hr
 clear hr
 go_enter Tryz.func29,Tryz.ntmps29
 go_wp2_with fail
 go_loopw [3,11] (fun s i wr=>∃ (k z:Nat),k<=n/\i = .int .i64 k/\s = .int .i64 z/\z<=900000/\Hid (z=(ps.take k).flatten.length)/\Hid (w=wr)) (fun _ i _=>n - (intOf i).toNat)
 case atStart=>exact ⟨0,0,by omega,rfl,rfl,by omega,by unfold Hid; simp,rfl⟩
 case round =>
  obtain ⟨k,z,hk,rfl,rfl,hz,HZ,HW⟩:=hrel
  have hw:=HW.out
  subst hw
  clear HW
  by_cases hlt:k < n
  ·have hlb:decide ((k:Int) < (n:Int))=true:=by simp; omega
   obtain ⟨b,off,A',n',c',rfl,hblt,hcell,hrd⟩:=HR.out.at_ k hlt
   have hlen:=hrd.len
   have hfl:=flat_len_take ps (k + 1)
   rw [flat_take ps k (by rw [HR.out.len]; exact hlt),List.length_append,<- HZ.out,hlen] at hfl
   have HZ2:Hid (z + n'=(ps.take (k + 1)).flatten.length):=by unfold Hid; rw [flat_take ps k (by rw [HR.out.len]; exact hlt),List.length_append,<- HZ.out,hlen]
   have hneg:decide ((z:Int) + (n':Int) < 0)=false:=by simp; omega
   clear hrd hlen
   go_wp2_with fail
   go_roundw
   case rel=>exact ⟨k + 1,z + n',by omega,by go_num,by go_num,by omega,HZ2,(show Hid True from trivial)⟩
   case measure=>simp [intOf]; omega
  ·obtain rfl:k=n:=by omega
   have hze:z=ps.flatten.length:=by rw [HZ.out,List.take_of_length_le (by rw [HR.out.len]; omega)]
   have CG:=qh (grow_any z w (by omega) (by omega))
   clear HZ hze
   go_wp2_with fail
   refine CG.out.mono ?_
   rintro e w1 ⟨v1,rfl,hO1,hX1⟩
   have O1:=qh hO1
   have X1:=qh hX1
   clear hO1 hX1 CG
   go_wp2_with fail
   go_loopw [6,27] (fun v i wq=>∃ (j:Nat),j<=k/\i = .int .i64 j/\Hid (Ow wq w.heap.size v (ps.take j).flatten)/\Hid (Below w.heap.size w wq)) (fun _ i _=>k - (intOf i).toNat)
   case atStart=>exact ⟨0,by omega,rfl,O1,X1⟩
   case round =>
    clear O1 X1
    obtain ⟨j,hj,rfl,O1,X1⟩:=hrel
    by_cases hjt:j < k
    ·have hlb2:decide ((j:Int) < (k:Int))=true:=by simp; omega
     obtain ⟨b,off,A',n',c',rfl,hblt,hcell,hrd⟩:=HR.out.at_ j hjt
     have c0:wr.cell? ⟨b,off + j,none⟩=some (.slice A' n' c'):=(X1.out.cell (p:=⟨b,off + j,none⟩) hblt).trans hcell
     have RD:=qh (hrd.below X1.out)
     have HF:=qh (flat_take ps j (by rw [HR.out.len]; exact hjt))
     have LN:Hid ((ps.take j).flatten.length + n'<=140737488355328):=by
      unfold Hid
      have h1:=flat_len_take ps (j + 1)
      rw [HF.out,List.length_append,hrd.len] at h1
      omega
     clear hcell hrd
     go_wp2_with (first
      | (at_builtin; refine onto_law rfl (.tmp 31) (.tmp 32) rfl rfl rfl RD.out O1.out LN.out X1.out.size X1.out ?_; intro v2 w2 O2 X2))
     rw [<- HF.out] at O2
     clear c0
     go_roundw
     case rel=>exact ⟨j + 1,by omega,by go_num,O2,X2⟩
     case measure=>simp [intOf]; omega
    ·obtain rfl:j=k:=by omega
     rw [List.take_of_length_le (by rw [HR.out.len]; omega)] at O1
     go_wp2_with fail
     go_ret
     exact ⟨_,rfl,O1.out,X1.out⟩
theorem cxor_own (key nonce:List UInt8) (ctr:Int) {w:World} {A:Option Addr} {n c:Nat} {b:List UInt8} (hr:Rd w A n c b) (hn:n<=100000) (hk:key.length=32) (hnn:nonce.length=12) (h0:0<=ctr) (h1:ctr < 4294967296) :
  Calls Tryz.prog 81 #[.agg (key.map cellOf).toArray,.int .u32 ctr,.agg (nonce.map cellOf).toArray,.slice A n c] w fun e w'=>∃ g,e = .returned (.slice (some ⟨g,0,none⟩) n n)/\Ow w' w.heap.size (.slice (some ⟨g,0,none⟩) n n) (Cha.xor key ctr nonce b)/\w.heap.size<=g/\Below w.heap.size w w':=by
 have HBL:=qh (fun W x=>cblock_any key nonce x W hk hnn)
 have HR:=qh hr
 have HL:=qh hr.len
 have HC0:=qh (ctr_zero ctr h0 h1)
 obtain ⟨kc,hkc⟩:=zx (key.map cellOf)
 obtain ⟨nc,hnc⟩:=zx (nonce.map cellOf)
 rw [<- hkc,<- hnc] at HBL
 rw [<- hkc,<- hnc]
 have hkl:kc.length=32:=by rw [hkc,List.length_map,hk]
 have hnl:nc.length=12:=by rw [hnc,List.length_map,hnn]
 have IK:Hid ((Tryz.prog.info? 45).map (·.size)=some kc.length):=by unfold Hid; rw [hkl]; kernel_rfl
 have IN:Hid ((Tryz.prog.info? 88).map (·.size)=some nc.length):=by unfold Hid; rw [hnl]; kernel_rfl
 have hmk:=fun W=>make_bytes n (by omega) W
 clear hkc hnc hk hnn hkl hnl hr h0 h1
 go_enter Tryz.func81,Tryz.ntmps81
 go_upto_region 3 with (fail)
 clear hmk
 obtain ⟨w0,hw0⟩:=zx ((((w.alloc (Obj.cells kc.toArray 45)).alloc (Obj.cells nc.toArray 88)).alloc (Obj.cells (outC [] n).toArray 5)).alloc (Obj.cells (List.replicate 64 (.int .u8 0)).toArray 120))
 have B0:Hid (Blk w0 w.heap.size 45 kc):=by unfold Hid; rw [hw0]; exact (((Blk.new w 45 kc).alloc _).alloc _).alloc _
 have B1:Hid (Blk w0 (w.heap.size + 1) 88 nc):=by unfold Hid; rw [hw0]; exact ((Blk.at_new _ _ 88 _ _ rfl (by simp)).alloc _).alloc _
 have B2:Hid (Blk w0 (w.heap.size + 1 + 1) 5 (outC (Cha.xorTo key ctr nonce b 0) n)):=by unfold Hid; rw [hw0]; exact (Blk.at_new _ _ 5 _ _ rfl (by simp)).alloc _
 have B3:Hid (Blk w0 (w.heap.size + 1 + 1 + 1) 120 (List.replicate 64 (.int .u8 0))):=by unfold Hid; rw [hw0]; exact Blk.at_new _ _ 120 _ _ rfl (by simp)
 have W0:Hid (Below w.heap.size w w0):=by unfold Hid; rw [hw0]; exact ((((Below.refl _ _).alloc (Nat.le_refl _) _).alloc (by simp) _).alloc (by simp <;> omega) _).alloc (by simp <;> omega) _
 change Code.wp _ _ _ _ ((((w.alloc (Obj.cells kc.toArray 45)).alloc (Obj.cells nc.toArray 88)).alloc (Obj.cells (outC [] n).toArray 5)).alloc (Obj.cells (List.replicate 64 (.int .u8 0)).toArray 120))
 rw [<- hw0]
 clear hw0
 go_wp2_with fail
 go_loopw [1,18] (fun cv i wr=>∃ (k:Nat) (D:List Value),k<=n/\i = .int .i64 k/\cv = .int .u32 (Cha.ctrAt ctr ((k + 63) / 64))/\Hid (D.length=64)/\Hid (k % 64 ≠ 0->D=(Cha.block key (Cha.ctrAt ctr (k / 64)) nonce).map cellOf)/\Hid (Blk wr w.heap.size 45 kc)/\Hid (Blk wr (w.heap.size + 1) 88 nc)/\Hid (Blk wr (w.heap.size + 1 + 1) 5 (outC (Cha.xorTo key ctr nonce b k) n))/\Hid (Blk wr (w.heap.size + 1 + 1 + 1) 120 D)/\Hid (Below w.heap.size w wr)) (fun _ i _=>n - (intOf i).toNat)
 case atStart=>exact ⟨0,List.replicate 64 (.int .u8 0),by omega,rfl,by rw [show (0 + 63) / 64=0 from rfl,HC0.out],by unfold Hid; simp,fun h=>absurd rfl h,B0,B1,B2,B3,W0⟩
 case round =>
  clear B0 B1 B2 B3 W0
  obtain ⟨k,D,hk,rfl,rfl,LD,HD,B0,B1,B2,B3,BW⟩:=hrel
  obtain ⟨wi,rfl⟩:=zx (wr)
  by_cases hlt:k < n
  ·have hlb:decide ((k:Int) < (n:Int))=true:=by simp; omega
   have hlb':decide (k < n)=true:=by simp; omega
   obtain ⟨bb,off,hA,hbl,hcell⟩:=HR.out.at_ (by omega)
   subst hA
   obtain ⟨x,hx⟩:=zx (b.getD k 0)
   have e0:wi.cell? ⟨bb,off + k,none⟩=some (.int .u8 (x.toNat:Int)):=by rw [hx]; exact (BW.out.cell (p:=⟨bb,off + k,none⟩) hbl).trans (hcell k hlt)
   have HX:=qh hx
   obtain ⟨q,hq⟩:=zx (k % 64)
   have hqe:(k:Int) % 64=(q:Int):=by omega
   have hq64:q < 64:=by omega
   have HQ:=qh hq
   clear hx hcell hq
   go_upto_if 25 with (fail)
   clear e0
   go_cut [1,18] from 18 to 41 (fun cv i wx=>Hid (i = .int .i64 (k:Int))/\Hid (cv = .int .u32 (Cha.ctrAt ctr (k / 64 + 1)))/\Hid (Blk wx w.heap.size 45 kc)/\Hid (Blk wx (w.heap.size + 1) 88 nc)/\Hid (Blk wx (w.heap.size + 1 + 1) 5 (outC (Cha.xorTo key ctr nonce b k) n))/\Hid (Blk wx (w.heap.size + 1 + 1 + 1) 120 ((Cha.block key (Cha.ctrAt ctr (k / 64)) nonce).map cellOf))/\Hid (Below w.heap.size w wx))
   case first =>
    by_cases hz:q=0
    ·have hqz:((q:Int) == 0)=true:=by simp; omega
     have ek:(k + 63) / 64=k / 64:=by have:=HQ.out; omega
     rw [ek]
     have hcall:=qh (HBL.out wi (Cha.ctrAt ctr (k / 64)))
     go_wp2_with (first
      | ((with_reducible refine load_law rfl 45 (.tmp 4) rfl w.heap.size 0 rfl kc _ Tryz.underlying45 rfl IK.out B0.out.cells ?_))
      | ((with_reducible refine load_law rfl 88 (.tmp 6) rfl (w.heap.size + 1) 0 rfl nc _ Tryz.underlying88 rfl IN.out B1.out.cells ?_)))
     refine hcall.out.mono ?_
     rintro e w2 ⟨rfl,hX⟩
     obtain ⟨E,hE⟩:=zx ((Cha.block key (Cha.ctrAt ctr (k / 64)) nonce).map cellOf)
     rw [<- hE]
     have hEl:E.length=64:=by rw [hE,List.length_map,Cha.block_length]
     have IE:Hid ((Tryz.prog.info? 120).map (·.size)=some E.length):=by unfold Hid; rw [hEl]; kernel_rfl
     have LE:Hid (D.length=E.length):=by unfold Hid; rw [hEl,LD.out]
     have OE:Hid (∀ v ∈ E,v.oneCell'=true):=by unfold Hid; rw [hE]; exact cells_u8 _
     have HE:=qh hE
     have C0:=qh (B0.out.below hX B0.out.lt)
     have C1:=qh (B1.out.below hX B1.out.lt)
     have C2:=qh (B2.out.below hX B2.out.lt)
     have C3:=qh (B3.out.below hX B3.out.lt)
     have CW:=qt BW hX
     clear hX hE hEl hcall B0 B1 B2 B3 BW
     go_wp2_with (first
      | ((with_reducible refine storeGen_law rfl 120 (.tmp 10) (.tmp 29) rfl (w.heap.size + 1 + 1 + 1) rfl E rfl 120 D IE.out LE.out OE.out (w.heap.size + 1 + 1 + 1) w2 C3.out (Below.refl _ _) (Nat.le_refl _) ?_); intro w3 E3 X3))
     go_meet
     case rel =>
      refine ⟨rfl,by unfold Hid; rw [ctr_succ],C0.out.below X3.out (by omega),C1.out.below X3.out (by omega),C2.out.below X3.out (by omega),?_,CW.out.trans (X3.out.mono (by omega))⟩
      rw [<- HE.out]
      exact E3
    ·have hqz:((q:Int) == 0)=false:=by simp; omega
     have ek:(k + 63) / 64=k / 64 + 1:=by have:=HQ.out; omega
     rw [ek]
     have hD:=HD.out (by rw [<- HQ.out]; exact hz)
     rw [hD] at B3
     clear hD
     go_wp2_with fail
     go_meet
     case rel=>exact ⟨rfl,rfl,B0,B1,B2,B3,BW⟩
   case rest =>
    clear B0 B1 B2 B3 BW LD HD
    obtain ⟨h1,h2,B0,B1,B2,B3,BW⟩:=hcut
    have h1':=h1.out
    have h2':=h2.out
    subst h1'
    subst h2'
    clear h1 h2
    obtain ⟨wi,rfl⟩:=zx (wc)
    obtain ⟨z,hz⟩:=zx ((Cha.block key (Cha.ctrAt ctr (k / 64)) nonce).getD q 0)
    have cz:wi.cell? ⟨w.heap.size + 1 + 1 + 1,q,none⟩=some (.int .u8 (z.toNat:Int)):=by rw [B3.out.cell,hz]; exact block_at key nonce _ q hq64
    have HZ:Hid (Cha.xorTo key ctr nonce b (k + 1)=Cha.xorTo key ctr nonce b k ++ [x ^^^ z]):=by unfold Hid; rw [Cha.xorTo_succ,hz,HX.out,HQ.out]; rfl
    have hxz:=xor_cell x z
    have c0:wi.cell? ⟨w.heap.size + 1 + 1,k,none⟩=some (.int .u8 0):=by rw [B2.out.cell]; exact outC_at _ n k (Cha.xorTo_length _ _ _ _ _) hlt
    have f0:wi.frozen? ⟨w.heap.size + 1 + 1,k,none⟩=false:=B2.out.frozen _
    have bq:(q:Int) < 64:=by omega
    have B4:Hid (Blk (wi.setCell ⟨w.heap.size + 1 + 1,k,none⟩ (.int .u8 ((x ^^^ z).toNat:Int))) (w.heap.size + 1 + 1) 5 (outC (Cha.xorTo key ctr nonce b (k + 1)) n)):=by
     have:=B2.out.set_ k (cellOf (x ^^^ z))
     rw [outC_set _ n k _ (Cha.xorTo_length _ _ _ _ _) hlt,<- HZ.out] at this
     exact this
    have ek:(k + 1 + 63) / 64=k / 64 + 1:=by omega
    have HEK:=qh ek
    clear hz ek
    go_wp2_with fail
    clear hxz c0 f0 cz
    go_roundw
    case rel =>
     refine ⟨k + 1,(Cha.block key (Cha.ctrAt ctr (k / 64)) nonce).map cellOf,by omega,by go_num,by rw [HEK.out],by unfold Hid; rw [List.length_map,Cha.block_length],fun hne=>?_,B0.out.far (by simp <;> omega) _,B1.out.far (by simp) _,B4,B3.out.far (by simp) _,BW.out.setCell (by simp <;> omega) _⟩
     have e:(k + 1) / 64=k / 64:=by omega
     rw [e]
    case measure=>simp [intOf]; omega
  ·obtain rfl:k=n:=by omega
   have hlb:decide ((k:Int) < (k:Int))=false:=by simp
   have HRR:=qh (outC_own (B:=w.heap.size) B2.out (Cha.xorTo_length key ctr nonce b k) (by omega) (by omega))
   have HXE:Hid (Cha.xorTo key ctr nonce b k=Cha.xor key ctr nonce b):=by unfold Hid Cha.xor; rw [HL.out]
   rw [HXE.out] at HRR
   clear B0 B1 B2 B3
   go_wp2_with fail
   go_ret
   exact ⟨_,rfl,HRR.out,by omega,BW.out⟩
open Go.RowKit
def Got (w:World) (x:Value) (l:List UInt8):Prop:=∃ A n c,x = .slice A n c/\Rd w A n c l
theorem Got.below {w w':World} {x:Value} {l:List UInt8} (h:Got w x l) (hb:Below w.heap.size w w'):Got w' x l:=by
 obtain ⟨A,n,c,e,hr⟩:=h
 exact ⟨A,n,c,e,hr.below hb⟩
theorem lit_parts6 (w:World) {a0 a1 a2 a3 a4 a5:Option Addr} {n0 n1 n2 n3 n4 n5 c0 c1 c2 c3 c4 c5:Nat} {l0 l1 l2 l3 l4 l5:List UInt8} (h0:Rd w a0 n0 c0 l0) (h1:Rd w a1 n1 c1 l1) (h2:Rd w a2 n2 c2 l2) (h3:Rd w a3 n3 c3 l3) (h4:Rd w a4 n4 c4 l4) (h5:Rd w a5 n5 c5 l5) :
  RdP (w.alloc (.cells #[.slice a0 n0 c0,.slice a1 n1 c1,.slice a2 n2 c2,.slice a3 n3 c3,.slice a4 n4 c4,.slice a5 n5 c5] 24)) (some ⟨w.heap.size,0,none⟩) 6 [l0,l1,l2,l3,l4,l5] :=
 ⟨rfl,fun j hj=>by
  have hX:=(Below.refl w.heap.size w).alloc (Nat.le_refl _) (.cells #[.slice a0 n0 c0,.slice a1 n1 c1,.slice a2 n2 c2,.slice a3 n3 c3,.slice a4 n4 c4,.slice a5 n5 c5] 24)
  have hB:=Blk.new w 24 [.slice a0 n0 c0,.slice a1 n1 c1,.slice a2 n2 c2,.slice a3 n3 c3,.slice a4 n4 c4,.slice a5 n5 c5]
  match j,hj with
  | 0,_=>exact ⟨w.heap.size,0,a0,n0,c0,rfl,by simp,hB.cell 0,h0.below hX⟩
  | 1,_=>exact ⟨w.heap.size,0,a1,n1,c1,rfl,by simp,hB.cell 1,h1.below hX⟩
  | 2,_=>exact ⟨w.heap.size,0,a2,n2,c2,rfl,by simp,hB.cell 2,h2.below hX⟩
  | 3,_=>exact ⟨w.heap.size,0,a3,n3,c3,rfl,by simp,hB.cell 3,h3.below hX⟩
  | 4,_=>exact ⟨w.heap.size,0,a4,n4,c4,rfl,by simp,hB.cell 4,h4.below hX⟩
  | 5,_=>exact ⟨w.heap.size,0,a5,n5,c5,rfl,by simp,hB.cell 5,h5.below hX⟩⟩
theorem text_parts (ad cc:List UInt8):[ad,List.replicate (Ae.gap ad.length) 0,cc,List.replicate (Ae.gap cc.length) 0,Pol.bytesN 8 (ad.length:Int),Pol.bytesN 8 (cc.length:Int)].flatten=Ae.text ad cc:=by
 rw [Ae.text,Ae.up_front _ _ (Ae.up_length ad).1]
 simp [Ae.up]
structure TagI (w5:World) (kk mk:List Value) (ad r1 cc r2 e1 e2 tx:List UInt8) (d:Nat->Bool) (w':World) (x17 x21 x25 x28 x31 x32 x33 x34:Value):Prop where
 bel:Below w5.heap.size w5 w'
 i0:d 0=true->x17 = .agg kk.toArray
 i4:d 4=true->Got w' x21 r1
 i8:d 8=true->Got w' x25 r2
 i11:d 11=true->Got w' x28 e1
 i14:d 14=true->Got w' x31 e2
 i15:d 15=true->∃ g,x32 = .slice (some ⟨g,0,none⟩) 6 6/\RdP w' (some ⟨g,0,none⟩) 6 [ad,r1,cc,r2,e1,e2]
 i16:d 16=true->Got w' x33 tx
 i17:d 17=true->x34 = .agg mk.toArray
theorem TagI.below {w5:World} {kk mk:List Value} {ad r1 cc r2 e1 e2 tx:List UInt8} {d:Nat->Bool} {w' w'':World} {x17 x21 x25 x28 x31 x32 x33 x34:Value} (h:TagI w5 kk mk ad r1 cc r2 e1 e2 tx d w' x17 x21 x25 x28 x31 x32 x33 x34) (hb:Below w'.heap.size w' w''):TagI w5 kk mk ad r1 cc r2 e1 e2 tx d w'' x17 x21 x25 x28 x31 x32 x33 x34 :=
 ⟨h.bel.trans (hb.mono h.bel.size),h.i0,fun a=>(h.i4 a).below hb,fun a=>(h.i8 a).below hb,fun a=>(h.i11 a).below hb,fun a=>(h.i14 a).below hb,fun a=>by obtain ⟨g,e,hr⟩:=h.i15 a; exact ⟨g,e,hr.below hb⟩,fun a=>(h.i16 a).below hb,h.i17⟩
theorem tag_any (key nonce:List UInt8) {w:World} {A A':Option Addr} {n c n' c':Nat} {ad cc:List UInt8} (hk:key.length=32) (hn:nonce.length=12) (hra:Rd w A n c ad) (hrc:Rd w A' n' c' cc) (hn1:n<=100000) (hn2:n'<=100000) :
  Calls Tryz.prog 82 #[.agg (key.map cellOf).toArray,.agg (nonce.map cellOf).toArray,.slice A n c,.slice A' n' c'] w fun e w'=>e = .returned (.agg ((Ae.mark key nonce ad cc).map cellOf).toArray)/\Below w.heap.size w w':=by
 obtain ⟨kc,hkc⟩:=zx (key.map cellOf)
 obtain ⟨nc,hnc⟩:=zx (nonce.map cellOf)
 have CB:=qh (fun W=>cblock_any key nonce 0 W hk hn)
 rw [<- hkc,<- hnc] at CB
 rw [<- hkc,<- hnc]
 obtain ⟨bk,hbk⟩:=zx (Cha.block key 0 nonce)
 rw [<- hbk] at CB
 have LBK:Hid (bk.length=64):=by unfold Hid; rw [hbk]; exact Cha.block_length key 0 nonce
 obtain ⟨bc,hbc⟩:=zx (bk.map cellOf)
 rw [<- hbc] at CB
 obtain ⟨k1,hk1⟩:=zx (bk.take 32)
 have LK1:Hid (k1.length=32):=by unfold Hid; rw [hk1,List.length_take,LBK.out]; rfl
 obtain ⟨kk,hkk⟩:=zx (k1.map cellOf)
 obtain ⟨tx,htx⟩:=zx (Ae.text ad cc)
 obtain ⟨T,hT⟩:=zx ((Ae.mark key nonce ad cc).map cellOf)
 have hTL:T.length=16:=by rw [hT,List.length_map,Ae.mark_length]
 have IT:Hid ((Tryz.prog.info? 116).map (·.size)=some T.length):=by unfold Hid; rw [hTL]; kernel_rfl
 have LT:Hid ((List.replicate 16 (Value.int .u8 0)).length=T.length):=by unfold Hid; rw [hTL]; rfl
 have OT:Hid (∀ v ∈ T,v.oneCell'=true):=by unfold Hid; rw [hT]; exact cells_u8 _
 have CT:=qh (fun (W:World) (AX:Option Addr) (nx cx:Nat) (h:Rd W AX nx cx tx)=>ptag_any k1 LK1.out h)
 have hMT:(Pol.tag k1 tx).map cellOf=T:=by rw [hT,Ae.mark,<- hbk,<- hk1,<- htx]
 rw [hMT,<- hkk] at CT
 rw [<- hT]
 have IK:Hid ((Tryz.prog.info? 45).map (·.size)=some kc.length):=by unfold Hid; rw [hkc,List.length_map,hk]; kernel_rfl
 have IN:Hid ((Tryz.prog.info? 88).map (·.size)=some nc.length):=by unfold Hid; rw [hnc,List.length_map,hn]; kernel_rfl
 have IB:Hid ((Tryz.prog.info? 120).map (·.size)=some bc.length):=by unfold Hid; rw [hbc,List.length_map,LBK.out]; kernel_rfl
 have LBC:Hid ((List.replicate 64 (Value.int .u8 0)).length=bc.length):=by unfold Hid; rw [hbc,List.length_map,LBK.out]; rfl
 have OBC:Hid (∀ v ∈ bc,v.oneCell'=true):=by unfold Hid; rw [hbc]; exact cells_u8 _
 have I1:Hid ((Tryz.prog.info? 45).map (·.size)=some kk.length):=by unfold Hid; rw [hkk,List.length_map,LK1.out]; kernel_rfl
 have L1:Hid ((List.replicate 32 (Value.int .u8 0)).length=kk.length):=by unfold Hid; rw [hkk,List.length_map,LK1.out]; rfl
 have O1:Hid (∀ v ∈ kk,v.oneCell'=true):=by unfold Hid; rw [hkk]; exact cells_u8 _
 have KB:Hid (∀ (j:Nat) v,kk[j]?=some v->bc[j]?=some v):=by
  unfold Hid
  intro j v hv
  rw [hkk,hk1,List.map_take,List.getElem?_take] at hv
  rw [hbc]
  split at hv
  ·exact hv
  ·cases hv
 have CN1:=qh (fun W=>noughts_any n W (by omega))
 have CN2:=qh (fun W=>noughts_any n' W (by omega))
 have CE1:=qh (fun W=>eight_any n W (by omega))
 have CE2:=qh (fun W=>eight_any n' W (by omega))
 obtain ⟨r1,hr1⟩:=zx (List.replicate (Ae.gap n) (0:UInt8))
 obtain ⟨r2,hr2⟩:=zx (List.replicate (Ae.gap n') (0:UInt8))
 obtain ⟨e1,he1⟩:=zx (Pol.bytesN 8 (n:Int))
 obtain ⟨e2,he2⟩:=zx (Pol.bytesN 8 (n':Int))
 have HTX:Hid ([ad,r1,cc,r2,e1,e2].flatten=tx):=by unfold Hid; rw [hr1,hr2,he1,he2,htx,<- text_parts,hra.len,hrc.len]
 have htl:tx.length<=900000:=by rw [htx]; have:=Ae.text_length ad cc; rw [hra.len,hrc.len] at this; omega
 have htp:0 < tx.length:=by rw [<- HTX.out,he2]; simp only [List.flatten_cons,List.length_append,Pol.bytesN_length,List.flatten_nil]; omega
 have CC:=qh (fun (W:World) (AX:Option Addr) (cx:Nat) (h:RdP W AX 6 [ad,r1,cc,r2,e1,e2])=>concat_any (c:=cx) h (by omega) (by rw [HTX.out]; exact htp) (by rw [HTX.out]; exact htl))
 rw [HTX.out] at CC
 rw [<- hr1] at CN1
 rw [<- hr2] at CN2
 rw [<- he1] at CE1
 rw [<- he2] at CE2
 have HRA:=qh hra
 have HRC:=qh hrc
 clear hkc hnc hbk hbc hra hrc hk hn hT hTL hMT hkk hk1 htx htl htp hr1 hr2 he1 he2 HTX
 go_enter Tryz.func82,Tryz.ntmps82
 go_upto_region 1 with (fail)
 obtain ⟨w0,hw0⟩:=zx (((w.alloc (Obj.cells kc.toArray 45)).alloc (Obj.cells nc.toArray 88)).alloc (Obj.cells (List.replicate 16 (.int .u8 0)).toArray 116))
 have B0:Hid (Blk w0 w.heap.size 45 kc):=by unfold Hid; rw [hw0]; exact ((Blk.new w _ _).alloc _).alloc _
 have B1:Hid (Blk w0 (w.heap.size + 1) 88 nc):=by unfold Hid; rw [hw0]; exact (Blk.at_new _ _ _ _ _ rfl (by simp)).alloc _
 obtain ⟨gz,hgz⟩:=zx (w.heap.size + 1 + 1)
 have BZ:Hid (Blk w0 gz 116 (List.replicate 16 (.int .u8 0))):=by unfold Hid; rw [hw0,hgz]; exact Blk.at_new _ _ _ _ _ rfl (by simp)
 have W0:Hid (Below w.heap.size w w0):=by unfold Hid; rw [hw0]; exact (((Below.refl _ _).alloc (Nat.le_refl _) _).alloc (by simp) _).alloc (by simp <;> omega) _
 have hgw:w.heap.size<=gz:=by omega
 change Code.wp _ _ _ _ (((w.alloc (Obj.cells kc.toArray 45)).alloc (Obj.cells nc.toArray 88)).alloc (Obj.cells (List.replicate 16 (.int .u8 0)).toArray 116))
 rw [<- hw0,<- hgz]
 clear hw0 hgz
 go_wp2_with (first
  | ((with_reducible refine load_law rfl 45 (.tmp 4) rfl w.heap.size 0 rfl kc _ Tryz.underlying45 rfl IK.out B0.out.cells ?_))
  | ((with_reducible refine load_law rfl 88 (.tmp 5) rfl (w.heap.size + 1) 0 rfl nc _ Tryz.underlying88 rfl IN.out B1.out.cells ?_)))
 refine (CB.out w0).mono ?_
 rintro e w1 ⟨rfl,hX⟩
 have W1:=qt W0 hX
 have BZ1:=qh (BZ.out.below hX BZ.out.lt)
 clear hX B0 B1 W0 CB IK IN BZ
 go_upto_region 2 with (first
  | ((with_reducible refine storeGen_law rfl 120 (.tmp 9) (.tmp 13) rfl w1.heap.size rfl bc rfl 120 (List.replicate 64 (.int .u8 0)) IB.out LBC.out OBC.out w1.heap.size w1 ?_ ?_ (Nat.le_refl _) ?_)
     ·exact Blk.at_new _ _ 120 _ _ (by rfl) rfl
     ·exact (Below.refl _ _).alloc (Nat.le_refl _) _
     intro w2 B2 X2))
 have W2:=qt W1 X2.out
 have BZ2:=qh (BZ1.out.below X2.out BZ1.out.lt)
 obtain ⟨gb,hgb⟩:=zx (w1.heap.size)
 rw [<- hgb] at B2
 rw [<- hgb]
 clear X2 hgb W1 BZ1
 have hsl:=fun W=>sliceAt_all 120 64 Tryz.underlying120 gb 0 W
 have hCK:Hid (∀ (j:Nat) v,kk[j]?=some v->w2.cell? ⟨gb,0 + j,none⟩=some v):=fun j v hv=>B2.out.cells j v (KB.out j v hv)
 have hap:∀ W,(Instr.arrayAt 45 (.slice (some ⟨gb,0,none⟩) 64 64)).run Tryz.prog W = .ok (.pointer (some ⟨gb,0,none⟩)) W:=fun W=>by simp [Instr.arrayAt,run_underlying Tryz.underlying45]
 go_upto_region 3 with (first
  | ((with_reducible refine load_law rfl 45 (.tmp 15) rfl gb 0 rfl kk _ Tryz.underlying45 rfl I1.out hCK.out ?_))
  | ((with_reducible refine storeGen_law rfl 45 (.tmp 10) (.tmp 16) rfl w2.heap.size rfl kk rfl 45 (List.replicate 32 (.int .u8 0)) I1.out L1.out O1.out w2.heap.size w2 ?_ ?_ (Nat.le_refl _) ?_)
     ·exact Blk.at_new _ _ 45 _ _ (by rfl) rfl
     ·exact (Below.refl _ _).alloc (Nat.le_refl _) _
     intro w3 B3 X3))
 have W3:=qt W2 X3.out
 have BZ3:=qh (BZ2.out.below X3.out BZ2.out.lt)
 obtain ⟨g1,hg1⟩:=zx (w2.heap.size)
 rw [<- hg1] at B3
 rw [<- hg1]
 clear X3 hg1 W2 BZ2 B2 hCK hap hsl
 refine wp_region_any (by kernel_rfl) ?_
 change wpAny _ _ _ _ _ _ _ (World.drew _)
 have D3:Hid (Blk w3.drew g1 45 kk):=B3.out.drew
 have DZ:Hid (Blk w3.drew gz 116 (List.replicate 16 (.int .u8 0))):=BZ3.out.drew
 have DW:Hid (Below w.heap.size w w3.drew):=W3.out.drew
 clear B3 BZ3 W3
 generalize w3.drew=w5 at *
 refine ztk 1 (.slice A n c) ?_
 try simp only [zpt]
 refine ztk 2 (.slice A n c) ?_
 try simp only [zpt]
 refine ztk 3 (.int .i64 (n:Int)) ?_
 try simp only [zpt]
 refine ztk 5 (.slice A' n' c') ?_
 try simp only [zpt]
 refine ztk 6 (.slice A' n' c') ?_
 try simp only [zpt]
 refine ztk 7 (.int .i64 (n':Int)) ?_
 try simp only [zpt]
 refine ztk 9 (.slice A n c) ?_
 try simp only [zpt]
 refine ztk 10 (.int .i64 (n:Int)) ?_
 try simp only [zpt]
 refine ztk 12 (.slice A' n' c') ?_
 try simp only [zpt]
 refine ztk 13 (.int .i64 (n':Int)) ?_
 try simp only [zpt]
 refine phase (fun i=>if i=8 then [4] else if i=11 then [8] else if i=14 then [11] else if i=15 then [4,8,11,14] else if i=16 then [15] else if i=17 then [0,16] else []) (fun d a w'=>∃ x17 x21 x25 x28 x31 x32 x33 x34:Value,a={ tmps:=#[.agg kc.toArray,.agg nc.toArray,.slice A n c,.slice A' n' c',.pointer (some ⟨w.heap.size,0,none⟩),.pointer (some ⟨w.heap.size + 1,0,none⟩),undef,undef,.pointer (some ⟨gz,0,none⟩),.pointer (some ⟨gb,0,none⟩),.pointer (some ⟨g1,0,none⟩),.agg kc.toArray,.agg nc.toArray,.agg bc.toArray,.slice (some ⟨gb,0,none⟩) 64 64,.pointer (some ⟨gb,0,none⟩),.agg kk.toArray,x17,.slice A n c,.slice A n c,.int .i64 (n:Int),x21,.slice A' n' c',.slice A' n' c',.int .i64 (n':Int),x25,.slice A n c,.int .i64 (n:Int),x28,.slice A' n' c',.int .i64 (n':Int),x31,x32,x33,x34],defers:=[] }/\Hid (TagI w5 kk T ad r1 cc r2 e1 e2 tx d w' x17 x21 x25 x28 x31 x32 x33 x34)) [0,4,8,11,14,15,16,17] ?step 1 8 [0,4,8,11,14,15,16,17] _ _ _ rfl (by decide) (fun _ h=>h) (by kernel_rfl) ?init ?fin
 case init =>
  refine ⟨_,_,_,_,_,_,_,_,rfl,Below.refl _ _,?_,?_,?_,?_,?_,?_,?_,?_⟩ <;> (intro h; exact absurd h (by decide))
 case step =>
  intro i hi d a w6 hI hdi hdeps
  obtain ⟨x17,x21,x25,x28,x31,x32,x33,x34,rfl,HI⟩:=hI
  simp only [List.mem_cons,List.not_mem_nil,or_false] at hi
  rcases hi with rfl | rfl | rfl | rfl | rfl | rfl | rfl | rfl
  ·refine zst fun K hK=>?_
   refine step_loadL rfl 45 (.tmp 10) rfl g1 0 rfl kk _ Tryz.underlying45 rfl I1.out (D3.out.below HI.out.bel D3.out.lt).cells (hK _ _ ?_)
   clear hK K
   try simp only [zpt]
   have hJ:=HI.out
   exact ⟨_,_,_,_,_,_,_,_,rfl,hJ.bel,fun _=>rfl,fun a=>hJ.i4 (by simpa using a),fun a=>hJ.i8 (by simpa using a),fun a=>hJ.i11 (by simpa using a),fun a=>hJ.i14 (by simpa using a),fun a=>hJ.i15 (by simpa using a),fun a=>hJ.i16 (by simpa using a),fun a=>hJ.i17 (by simpa using a)⟩
  ·refine zst fun K hK=>?_
   go_simp
   refine (CN1.out w6).mono ?_
   rintro e w7 ⟨g,rfl,hR,hX⟩
   have hJ:=HI.out.below hX
   refine hK _ _ ?_; clear hK K; try simp only [zpt]
   exact ⟨_,_,_,_,_,_,_,_,rfl,hJ.bel,fun a=>hJ.i0 (by simpa using a),fun _=>⟨_,_,_,rfl,hR⟩,fun a=>hJ.i8 (by simpa using a),fun a=>hJ.i11 (by simpa using a),fun a=>hJ.i14 (by simpa using a),fun a=>hJ.i15 (by simpa using a),fun a=>hJ.i16 (by simpa using a),fun a=>hJ.i17 (by simpa using a)⟩
  ·refine zst fun K hK=>?_
   go_simp
   refine (CN2.out w6).mono ?_
   rintro e w7 ⟨g,rfl,hR,hX⟩
   have hJ:=HI.out.below hX
   refine hK _ _ ?_; clear hK K; try simp only [zpt]
   exact ⟨_,_,_,_,_,_,_,_,rfl,hJ.bel,fun a=>hJ.i0 (by simpa using a),fun a=>hJ.i4 (by simpa using a),fun _=>⟨_,_,_,rfl,hR⟩,fun a=>hJ.i11 (by simpa using a),fun a=>hJ.i14 (by simpa using a),fun a=>hJ.i15 (by simpa using a),fun a=>hJ.i16 (by simpa using a),fun a=>hJ.i17 (by simpa using a)⟩
  ·refine zst fun K hK=>?_
   go_simp
   refine (CE1.out w6).mono ?_
   rintro e w7 ⟨g,rfl,hR,hX⟩
   have hJ:=HI.out.below hX
   refine hK _ _ ?_; clear hK K; try simp only [zpt]
   exact ⟨_,_,_,_,_,_,_,_,rfl,hJ.bel,fun a=>hJ.i0 (by simpa using a),fun a=>hJ.i4 (by simpa using a),fun a=>hJ.i8 (by simpa using a),fun _=>⟨_,_,_,rfl,hR⟩,fun a=>hJ.i14 (by simpa using a),fun a=>hJ.i15 (by simpa using a),fun a=>hJ.i16 (by simpa using a),fun a=>hJ.i17 (by simpa using a)⟩
  ·refine zst fun K hK=>?_
   go_simp
   refine (CE2.out w6).mono ?_
   rintro e w7 ⟨g,rfl,hR,hX⟩
   have hJ:=HI.out.below hX
   refine hK _ _ ?_; clear hK K; try simp only [zpt]
   exact ⟨_,_,_,_,_,_,_,_,rfl,hJ.bel,fun a=>hJ.i0 (by simpa using a),fun a=>hJ.i4 (by simpa using a),fun a=>hJ.i8 (by simpa using a),fun a=>hJ.i11 (by simpa using a),fun _=>⟨_,_,_,rfl,hR⟩,fun a=>hJ.i15 (by simpa using a),fun a=>hJ.i16 (by simpa using a),fun a=>hJ.i17 (by simpa using a)⟩
  ·obtain ⟨q1,m1,d1,rfl,hR1⟩:=HI.out.i4 (hdeps 4 (by simp))
   obtain ⟨q2,m2,d2,rfl,hR2⟩:=HI.out.i8 (hdeps 8 (by simp))
   obtain ⟨q3,m3,d3,rfl,hR3⟩:=HI.out.i11 (hdeps 11 (by simp))
   obtain ⟨q4,m4,d4,rfl,hR4⟩:=HI.out.i14 (hdeps 14 (by simp))
   have RA6:=(HRA.out.below DW.out).below HI.out.bel
   have RC6:=(HRC.out.below DW.out).below HI.out.bel
   have HP:=qh (lit_parts6 w6 RA6 hR1 RC6 hR2 hR3 hR4)
   have hX:=(Below.refl w6.heap.size w6).alloc (Nat.le_refl _) (.cells #[.slice A n c,.slice q1 m1 d1,.slice A' n' c',.slice q2 m2 d2,.slice q3 m3 d3,.slice q4 m4 d4] 24)
   have HJ:=qh (HI.out.below hX)
   clear hR1 hR2 hR3 hR4 RA6 RC6 hX
   refine zst fun K hK=>?_
   go_simp
   have hJ:=HJ.out
   refine hK _ _ ?_; clear hK K; try simp only [zpt]
   exact ⟨_,_,_,_,_,_,_,_,rfl,hJ.bel,fun a=>hJ.i0 (by simpa using a),fun a=>hJ.i4 (by simpa using a),fun a=>hJ.i8 (by simpa using a),fun a=>hJ.i11 (by simpa using a),fun a=>hJ.i14 (by simpa using a),fun _=>⟨_,rfl,HP.out⟩,fun a=>hJ.i16 (by simpa using a),fun a=>hJ.i17 (by simpa using a)⟩
  ·obtain ⟨g,rfl,hR⟩:=HI.out.i15 (hdeps 15 (by simp))
   have HP:=qh hR
   clear hR
   refine zst fun K hK=>?_
   go_simp
   refine (CC.out w6 _ _ HP.out).mono ?_
   rintro e w7 ⟨v,rfl,hO,hX⟩
   obtain ⟨A3,c3,rfl,hR3,_⟩:=hO.value
   have hJ:=HI.out.below hX
   refine hK _ _ ?_; clear hK K; try simp only [zpt]
   exact ⟨_,_,_,_,_,_,_,_,rfl,hJ.bel,fun a=>hJ.i0 (by simpa using a),fun a=>hJ.i4 (by simpa using a),fun a=>hJ.i8 (by simpa using a),fun a=>hJ.i11 (by simpa using a),fun a=>hJ.i14 (by simpa using a),fun a=>hJ.i15 (by simpa using a),fun _=>⟨_,_,_,rfl,hR3⟩,fun a=>hJ.i17 (by simpa using a)⟩
  ·obtain rfl:=HI.out.i0 (hdeps 0 (by simp))
   obtain ⟨q1,m1,d1,rfl,hR1⟩:=HI.out.i16 (hdeps 16 (by simp))
   have HR1:=qh hR1
   clear hR1
   refine zst fun K hK=>?_
   go_simp
   refine (CT.out w6 _ _ _ HR1.out).mono ?_
   rintro e w7 ⟨rfl,hX⟩
   have hJ:=HI.out.below hX
   refine hK _ _ ?_; clear hK K; try simp only [zpt]
   exact ⟨_,_,_,_,_,_,_,_,rfl,hJ.bel,fun a=>hJ.i0 (by simpa using a),fun a=>hJ.i4 (by simpa using a),fun a=>hJ.i8 (by simpa using a),fun a=>hJ.i11 (by simpa using a),fun a=>hJ.i14 (by simpa using a),fun a=>hJ.i15 (by simpa using a),fun a=>hJ.i16 (by simpa using a),fun _=>rfl⟩
 case fin =>
  intro a w6 hI
  obtain ⟨x17,x21,x25,x28,x31,x32,x33,x34,rfl,HI⟩:=hI
  obtain rfl:=HI.out.i17 (by decide)
  have FZ:=DZ.out.below HI.out.bel DZ.out.lt
  have FW:=DW.out.trans (HI.out.bel.mono DW.out.size)
  clear HI
  dsimp only
  refine zrd 18 fun K hK=>?_
  refine step_storeAll rfl 116 (.tmp 8) (.tmp 34) rfl gz rfl T rfl 116 (List.replicate 16 (Value.int .u8 0)) FZ IT.out LT.out OT.out (hK _ _ ?_)
  clear hK K
  try simp only [zpt]
  refine wpAny_done (by kernel_rfl) ?_ _
  have GZ:Hid (Blk (w6.setRow gz T.toArray) gz 116 T):=Blk.row FZ
  have GW:=qh (below_setRow FW (g:=gz) hgw T.toArray)
  clear FZ FW
  generalize w6.setRow gz T.toArray=w7 at *
  go_wp2_with fail
  exact bodyPost_ret (results_cell_row rfl _ _ gz 116 T.toArray (0,0) _ rfl GZ.out Tryz.underlying116 rfl (by rw [IT.out]; simp)) rfl ⟨rfl,GW.out⟩
open Go.RowKit
theorem mark_rd {w:World} {g:Nat} {t:TypeId} {T:List Value} {m:List UInt8} (hb:Blk w g t T) (hT:T=m.map cellOf) (hl:m.length=16):Rd w (some ⟨g,0,none⟩) 16 16 m:=by
 subst hT
 exact Rd.of_block hb hl (Nat.le_refl _) (by unfold maxLen; omega) (fun j hj=>by
  rw [Nat.zero_add]
  simp [cellOf,List.getD_eq_getElem?_getD,List.getElem?_eq_getElem (show j < m.length by omega)])
theorem seal_new (key nonce:List UInt8) {w:World} {A A':Option Addr} {n c n' c':Nat} {ad b:List UInt8} (hk:key.length=32) (hn:nonce.length=12) (hra:Rd w A n c ad) (hrb:Rd w A' n' c' b) (hn1:n<=10000) (hn2:n'<=10000) :
  Calls Tryz.prog 55 #[.agg (key.map cellOf).toArray,.agg (nonce.map cellOf).toArray,.slice A n c,.slice A' n' c'] w (fun e w'=>∃ A n c,e = .returned (.slice A n c)/\Rd w' A n c (Ae.sealed key nonce ad b)/\Below w.heap.size w w'/\∀ x,A=some x->0 < n->w.heap.size<=x.block):=by
 have CX:=qh (fun W (h:Rd W A' n' c' b)=>cxor_own key nonce 1 h (by omega) hk hn (by omega) (by omega))
 have CM:=qh (fun (W:World) (AX:Option Addr) (cx:Nat) (h1:Rd W A n c ad) (h2:Rd W AX n' cx (Cha.xor key 1 nonce b))=>tag_any key nonce hk hn h1 h2 (by omega) (by omega))
 obtain ⟨kc,hkc⟩:=zx (key.map cellOf)
 obtain ⟨nc,hnc⟩:=zx (nonce.map cellOf)
 rw [<- hkc,<- hnc] at CX CM
 rw [<- hkc,<- hnc]
 have IK:Hid ((Tryz.prog.info? 45).map (·.size)=some kc.length):=by unfold Hid; rw [hkc,List.length_map,hk]; kernel_rfl
 have IN:Hid ((Tryz.prog.info? 88).map (·.size)=some nc.length):=by unfold Hid; rw [hnc,List.length_map,hn]; kernel_rfl
 have HRA:=qh hra
 have HRB:=qh hrb
 obtain ⟨x,hx⟩:=zx (Cha.xor key 1 nonce b)
 rw [<- hx] at CX CM
 have LX:Hid (x.length=n'):=by unfold Hid; rw [hx,Ae.xor_len,hrb.len]
 obtain ⟨mk,hmk⟩:=zx (Ae.mark key nonce ad x)
 rw [<- hmk] at CM
 have LMK:Hid (mk.length=16):=by unfold Hid; rw [hmk,Ae.mark_length]
 obtain ⟨T,hT⟩:=zx (mk.map cellOf)
 rw [<- hT] at CM
 have IT:Hid ((Tryz.prog.info? 116).map (·.size)=some T.length):=by unfold Hid; rw [hT,List.length_map,LMK.out]; kernel_rfl
 have LT:Hid ((List.replicate 16 (Value.int .u8 0)).length=T.length):=by unfold Hid; rw [hT,List.length_map,LMK.out]; rfl
 have OT:Hid (∀ v ∈ T,v.oneCell'=true):=by unfold Hid; rw [hT]; exact cells_u8 _
 have HTT:=qh hT
 have HS:Hid (Ae.sealed key nonce ad b=x ++ mk):=by unfold Hid Ae.sealed; rw [<- hx,<- hmk]
 clear hkc hnc hk hn hra hrb hx hmk hT
 go_enter Tryz.func55,Tryz.ntmps55
 go_upto_region 1 with (fail)
 obtain ⟨w0,hw0⟩:=zx ((w.alloc (Obj.cells kc.toArray 45)).alloc (Obj.cells nc.toArray 88))
 have B0:Hid (Blk w0 w.heap.size 45 kc):=by unfold Hid; rw [hw0]; exact (Blk.new w _ _).alloc _
 have B1:Hid (Blk w0 (w.heap.size + 1) 88 nc):=by unfold Hid; rw [hw0]; exact Blk.at_new _ _ _ _ _ rfl (by simp)
 have W0:Hid (Below w.heap.size w w0):=by unfold Hid; rw [hw0]; exact ((Below.refl _ _).alloc (Nat.le_refl _) _).alloc (by simp) _
 change Code.wp _ _ _ _ ((w.alloc (Obj.cells kc.toArray 45)).alloc (Obj.cells nc.toArray 88))
 rw [<- hw0]
 clear hw0
 go_wp2_with (first
  | ((with_reducible refine load_law rfl 45 (.tmp 4) rfl w.heap.size 0 rfl kc _ Tryz.underlying45 rfl IK.out B0.out.cells ?_))
  | ((with_reducible refine load_law rfl 88 (.tmp 5) rfl (w.heap.size + 1) 0 rfl nc _ Tryz.underlying88 rfl IN.out B1.out.cells ?_)))
 refine (CX.out w0 (HRB.out.below W0.out)).mono ?_
 rintro e w1 ⟨gx,rfl,hOX,hgx,hX⟩
 have C0:=qh (B0.out.below hX B0.out.lt)
 have C1:=qh (B1.out.below hX B1.out.lt)
 have W1:=qt W0 hX
 have OX:=qh hOX
 have RX:=qh (hOX.rdv LX.out)
 have hs1:=hX.size
 have X1:=qh hX
 clear hX hOX B0 B1 CX
 go_wp2_with (first
  | ((with_reducible refine load_law rfl 45 (.tmp 4) rfl w.heap.size 0 rfl kc _ Tryz.underlying45 rfl IK.out C0.out.cells ?_))
  | ((with_reducible refine load_law rfl 88 (.tmp 5) rfl (w.heap.size + 1) 0 rfl nc _ Tryz.underlying88 rfl IN.out C1.out.cells ?_)))
 refine (CM.out w1 _ _ (HRA.out.below W1.out) RX.out).mono ?_
 rintro e w2 ⟨rfl,hX⟩
 have O2:=qh (OX.out.keep hX)
 have X2:=qh (X1.out.trans (hX.mono hs1))
 have hs2:=X2.out.size
 clear hX OX RX C0 C1 CM X1 W1
 go_upto_region 3 with (first
  | ((with_reducible refine storeGen_law rfl 116 (.tmp 10) (.tmp 19) rfl w2.heap.size rfl T rfl 116 (List.replicate 16 (.int .u8 0)) IT.out LT.out OT.out w2.heap.size w2 ?_ ?_ (Nat.le_refl _) ?_)
     ·exact Blk.at_new _ _ 116 _ _ (by rfl) rfl
     ·exact (Below.refl _ _).alloc (Nat.le_refl _) _
     intro w3 B3 X3))
 have O3:=qh (O2.out.keep X3.out)
 have W3:=qh (X2.out.trans (X3.out.mono hs2))
 have RM:=qh (mark_rd B3.out HTT.out LMK.out)
 have LN:Hid (x.length + 16<=140737488355328):=by unfold Hid; rw [LX.out]; omega
 have hsl:=fun W=>sliceAt_all 116 16 Tryz.underlying116 w2.heap.size 0 W
 clear B3 O2 X2 X3
 go_wp2_with (first
  | (at_builtin; refine onto_law rfl (.tmp 20) (.tmp 21) rfl rfl rfl RM.out O3.out LN.out W3.out.size W3.out ?_; intro v4 w4 O4 X4))
 go_ret
 obtain ⟨A4,c4,rfl,hR4,hF4⟩:=O4.out.value
 refine ⟨_,_,_,rfl,by rw [HS.out]; exact hR4,zt W0.out X4.out,fun x hx h0=>?_⟩
 obtain ⟨g4,e4,h4⟩:=hF4 h0
 rw [e4] at hx
 injection hx with hx
 subst hx
 exact Nat.le_trans W0.out.size h4
theorem seal_any (key nonce:List UInt8) {w:World} {A A':Option Addr} {n c n' c':Nat} {ad b:List UInt8} (hk:key.length=32) (hn:nonce.length=12) (hra:Rd w A n c ad) (hrb:Rd w A' n' c' b) (hn1:n<=10000) (hn2:n'<=10000) :
  Calls Tryz.prog 55 #[.agg (key.map cellOf).toArray,.agg (nonce.map cellOf).toArray,.slice A n c,.slice A' n' c'] w (RetR w (Ae.sealed key nonce ad b)) :=
 (seal_new key nonce hk hn hra hrb hn1 hn2).mono fun _ _ ⟨A,n,c,h1,h2,h3,_⟩=>⟨A,n,c,h1,h2,h3⟩
theorem open_new (key nonce:List UInt8) {w:World} {A A':Option Addr} {n c n' c':Nat} {ad cc:List UInt8} (hk:key.length=32) (hn:nonce.length=12) (hra:Rd w A n c ad) (hrc:Rd w A' n' c' cc) (hn1:n<=10000) (hn2:n'<=10000) :
  Calls Tryz.prog 69 #[.agg (key.map cellOf).toArray,.agg (nonce.map cellOf).toArray,.slice A n c,.slice A' n' c'] w (fun e w'=>∃ A n c,e = .returned (.tuple #[.slice A n c,.bool (Ae.opens key nonce ad cc)])/\Rd w' A n c (Ae.opened key nonce ad cc)/\Below w.heap.size w w'/\∀ x,A=some x->0 < n->w.heap.size<=x.block):=by
 have CX:=qh (fun (W:World) (AX:Option Addr) (nx cx:Nat) (l:List UInt8) (h:Rd W AX nx cx l) (hx:nx<=10000)=>cxor_any key nonce 1 h (by omega) hk hn (by omega) (by omega))
 have CM:=qh (fun (W:World) (AX:Option Addr) (nx cx:Nat) (l:List UInt8) (h1:Rd W A n c ad) (h2:Rd W AX nx cx l) (hx:nx<=10000)=>tag_any key nonce hk hn h1 h2 (by omega) (by omega))
 obtain ⟨kc,hkc⟩:=zx (key.map cellOf)
 obtain ⟨nc,hnc⟩:=zx (nonce.map cellOf)
 rw [<- hkc,<- hnc] at CX CM
 rw [<- hkc,<- hnc]
 have IK:Hid ((Tryz.prog.info? 45).map (·.size)=some kc.length):=by unfold Hid; rw [hkc,List.length_map,hk]; kernel_rfl
 have IN:Hid ((Tryz.prog.info? 88).map (·.size)=some nc.length):=by unfold Hid; rw [hnc,List.length_map,hn]; kernel_rfl
 have HRA:=qh hra
 have HRC:=qh hrc
 have HLC:=qh hrc.len
 have hcap:=hrc.cap
 clear hkc hnc hk hn hra hrc
 by_cases h16:n' < 16
 ·have d1:decide ((n':Int) < 16)=true:=by simp; omega
  have HOF:Hid (Ae.opens key nonce ad cc=false):=by unfold Hid Ae.opens; rw [HLC.out]; simp; omega
  have HOP:Hid (Ae.opened key nonce ad cc=[]):=by unfold Hid Ae.opened; rw [HOF.out]; rfl
  go_enter Tryz.func69,Tryz.ntmps69
  go_wp2_with fail
  go_ret2
  exact ⟨none,0,0,by rw [HOF.out]; rfl,by rw [HOP.out]; exact Rd.nil _ _ _ (by unfold maxLen; omega),((Below.refl _ _).alloc (Nat.le_refl _) _).alloc (by simp) _,fun x hx=>by cases hx⟩
 ·obtain ⟨N,hN⟩:=zx (n' - 16:Nat)
  have e16:(n':Int) - 16=(N:Int):=by omega
  have hNn:N<=n':=by omega
  have hN16:n' - N=16:=by omega
  have d1:decide ((n':Int) < 16)=false:=decide_eq_false (by omega)
  obtain ⟨fr,hfr⟩:=zx (cc.take N)
  obtain ⟨tl,htl⟩:=zx (cc.drop N)
  obtain ⟨mk,hmk⟩:=zx (Ae.mark key nonce ad fr)
  have HOE:Hid (Ae.opens key nonce ad cc=decide (mk=tl)):=by
   unfold Hid Ae.opens
   rw [HLC.out,<- hN,<- hfr,<- htl,<- hmk,decide_eq_true (show 16<=n' by omega),Bool.true_and]
  have HOX:Hid (Ae.opened key nonce ad cc=if decide (mk=tl)=true then Cha.xor key 1 nonce fr else []):=by
   unfold Hid Ae.opened
   rw [HOE.out,HLC.out,<- hN,<- hfr]
  have RF:Hid (∀ W,Rd W A' n' c' cc->Rd W (cutA A' c' 0) N c' fr):=fun W h=>by
   have:=h.cut (k:=0) (e:=N) (by omega) hNn
   rw [List.drop_zero,Nat.sub_zero,Nat.sub_zero,<- hfr] at this
   exact this
  have RT:Hid (∀ W,Rd W A' n' c' cc->Rd W (cutA A' c' N) 16 (c' - N) tl):=fun W h=>by
   have:=h.cut (k:=N) (e:=n') hNn (Nat.le_refl _)
   rw [hN16,List.take_of_length_le (by rw [List.length_drop,HLC.out]; omega),<- htl] at this
   exact this
  have LMK:Hid (mk.length=16):=by unfold Hid; rw [hmk,Ae.mark_length]
  obtain ⟨T,hT⟩:=zx (mk.map cellOf)
  have IT:Hid ((Tryz.prog.info? 116).map (·.size)=some T.length):=by unfold Hid; rw [hT,List.length_map,LMK.out]; kernel_rfl
  have LT:Hid ((List.replicate 16 (Value.int .u8 0)).length=T.length):=by unfold Hid; rw [hT,List.length_map,LMK.out]; rfl
  have OT:Hid (∀ v ∈ T,v.oneCell'=true):=by unfold Hid; rw [hT]; exact cells_u8 _
  have HTT:=qh hT
  have CM2:Hid (∀ W,Rd W A n c ad->Rd W (cutA A' c' 0) N c' fr->Calls Tryz.prog 82 #[.agg kc.toArray,.agg nc.toArray,.slice A n c,.slice (cutA A' c' 0) N c'] W fun e w'=>e = .returned (.agg T.toArray)/\Below W.heap.size W w'):=fun W h1 h2=>by rw [hT,hmk]; exact CM.out W _ _ _ _ h1 h2 (by omega)
  have hcut1:=fun W=>slice_h A' n' c' N (by omega) W
  have hcut2:=fun W=>slice_l A' n' c' N hNn W
  rw [hN16] at hcut2
  clear hN hfr htl hmk h16 CM hT
  go_enter Tryz.func69,Tryz.ntmps69
  go_upto_region 4 with (fail)
  obtain ⟨w0,hw0⟩:=zx ((w.alloc (Obj.cells kc.toArray 45)).alloc (Obj.cells nc.toArray 88))
  have B0:Hid (Blk w0.drew w.heap.size 45 kc):=by unfold Hid; rw [hw0]; exact (Blk.new w _ _).alloc _
  have B1:Hid (Blk w0.drew (w.heap.size + 1) 88 nc):=by unfold Hid; rw [hw0]; exact Blk.at_new _ _ _ _ _ rfl (by simp)
  have W0:Hid (Below w.heap.size w w0.drew):=by unfold Hid; rw [hw0]; exact (((Below.refl _ _).alloc (Nat.le_refl _) _).alloc (by simp) _).drew
  change Code.wp _ _ _ _ ((w.alloc (Obj.cells kc.toArray 45)).alloc (Obj.cells nc.toArray 88))
  rw [<- hw0]
  clear hw0 e16 d1
  refine wp_region_any (by kernel_rfl) ?_
  change wpAny _ _ _ _ _ _ _ (World.drew _)
  generalize w0.drew=w5 at *
  have RA5:=qh (HRA.out.below W0.out)
  have RC5:=qh (HRC.out.below W0.out)
  refine ztk 2 (.slice A n c) ?_
  try simp only [zpt]
  refine ztk 3 (.slice A' n' c') ?_
  try simp only [zpt]
  refine ztk 4 (.int .i64 (N:Int)) ?_
  try simp only [zpt]
  refine ztk 5 (.slice (cutA A' c' 0) N c') ?_
  try simp only [zpt]
  refine phase (fun i=>if i=6 then [0,1] else []) (fun d a w'=>∃ x11 x18 x19 x24:Value,a={ tmps:=#[.agg kc.toArray,.agg nc.toArray,.slice A n c,.slice A' n' c',.pointer (some ⟨w.heap.size,0,none⟩),.pointer (some ⟨w.heap.size + 1,0,none⟩),undef,undef,.slice none 0 0,.bool false,.int .i64 (N:Int),x11,.slice A' n' c',.int .i64 (n':Int),.bool false,.slice A' n' c',.int .i64 (n':Int),.int .i64 (N:Int),x18,x19,.slice A n c,.slice A' n' c',.int .i64 (N:Int),.slice (cutA A' c' 0) N c',x24,undef,undef,undef,undef,undef,undef,undef,undef,undef,undef,undef,undef],defers:=[] }/\Hid (Below w5.heap.size w5 w')
   /\ (d 0=true->x18 = .agg kc.toArray)/\(d 1=true->x19 = .agg nc.toArray)/\(d 6=true->x24 = .agg T.toArray)/\(d 7=true->Hid (∃ g,x11 = .pointer (some ⟨g,0,none⟩)/\w5.heap.size<=g/\Blk w' g 116 (List.replicate 16 (.int .u8 0))))) [0,1,6,7] ?step 1 4 [0,1,6,7] _ _ _ rfl (by decide) (fun _ h=>h) (by kernel_rfl) ?init ?fin
  case init =>
   refine ⟨_,_,_,_,rfl,Below.refl _ _,?_,?_,?_,?_⟩ <;> (intro h; exact absurd h (by decide))
  case step =>
   intro i hi d a w6 hI hdi hdeps
   obtain ⟨x11,x18,x19,x24,rfl,BW6,h0,h1,h6,h7⟩:=hI
   have hs6:=BW6.out.size
   have H7':Hid (∀ w7,Below w6.heap.size w6 w7->(d 7=true->Hid (∃ g,x11 = .pointer (some ⟨g,0,none⟩)/\w5.heap.size<=g/\Blk w7 g 116 (List.replicate 16 (.int .u8 0))))):=fun w7 hX a=>by obtain ⟨g,e,hg,hB⟩:=(h7 a).out; exact ⟨g,e,hg,hB.below hX hB.lt⟩
   clear h7
   simp only [List.mem_cons,List.not_mem_nil,or_false] at hi
   rcases hi with rfl | rfl | rfl | rfl
   ·refine zst fun K hK=>?_
    refine step_loadL rfl 45 (.tmp 4) rfl w.heap.size 0 rfl kc _ Tryz.underlying45 rfl IK.out (B0.out.below BW6.out B0.out.lt).cells (hK _ _ ?_)
    clear hK K
    try simp only [zpt]
    exact ⟨_,_,_,_,rfl,BW6,fun _=>rfl,zk h1,zk h6,fun a=>H7'.out _ (Below.refl _ _) (by simpa using a)⟩
   ·refine zst fun K hK=>?_
    refine step_loadL rfl 88 (.tmp 5) rfl (w.heap.size + 1) 0 rfl nc _ Tryz.underlying88 rfl IN.out (B1.out.below BW6.out B1.out.lt).cells (hK _ _ ?_)
    clear hK K
    try simp only [zpt]
    exact ⟨_,_,_,_,rfl,BW6,zk h0,fun _=>rfl,zk h6,fun a=>H7'.out _ (Below.refl _ _) (by simpa using a)⟩
   ·obtain rfl:=h0 (hdeps 0 (by simp))
    obtain rfl:=h1 (hdeps 1 (by simp))
    refine zst fun K hK=>?_
    go_simp
    refine (CM2.out w6 (RA5.out.below BW6.out) (RF.out w6 (RC5.out.below BW6.out))).mono ?_
    rintro e w7 ⟨rfl,hX⟩
    refine hK _ _ ?_; clear hK K; try simp only [zpt]
    exact ⟨_,_,_,_,rfl,BW6.out.trans (hX.mono hs6),fun _=>rfl,fun _=>rfl,fun _=>rfl,fun a=>H7'.out _ hX (by simpa using a)⟩
   ·refine zst fun K hK=>?_
    go_simp
    refine hK _ _ ?_; clear hK K; try simp only [zpt]
    have hX:Below w6.heap.size w6 (w6.alloc (Obj.cells (List.replicate 16 (.int .u8 0)).toArray 116)):=(Below.refl _ _).alloc (Nat.le_refl _) _
    exact ⟨_,_,_,_,rfl,BW6.out.trans (hX.mono hs6),zk h0,zk h1,zk h6,fun _=>⟨_,rfl,hs6,Blk.at_new _ _ _ _ _ (by rfl) rfl⟩⟩
  case fin =>
   intro a w6 hI
   obtain ⟨x11,x18,x19,x24,rfl,BW6,h0,h1,h6,h7⟩:=hI
   obtain rfl:=h6 (by decide)
   obtain ⟨g,rfl,hg,hB⟩:=(h7 (by decide)).out
   clear h0 h1 h6 h7 CM2
   dsimp only
   refine zrd 8 fun K hK=>?_
   refine step_storeAll rfl 116 (.tmp 11) (.tmp 24) rfl g rfl T rfl 116 (List.replicate 16 (Value.int .u8 0)) hB IT.out LT.out OT.out (hK _ _ ?_)
   clear hK K
   try simp only [zpt]
   refine wpAny_done (by kernel_rfl) ?_ _
   have GT:Hid (Blk (w6.setRow g T.toArray).drew g 116 T):=(Blk.row hB).drew
   have GX:=qh (below_setRow BW6.out hg T.toArray).drew
   have C0:=qh (B0.out.below GX.out B0.out.lt)
   have C1:=qh (B1.out.below GX.out B1.out.lt)
   have W7:=qt W0 GX.out
   have RC7:=qh (RC5.out.below GX.out)
   have RM:=qh (mark_rd GT.out HTT.out LMK.out)
   have hsl:=fun W=>sliceAt_all 116 16 Tryz.underlying116 g 0 W
   clear hB GT GX BW6 B0 B1 W0 RC5 RA5
   go_upto_region 5 with (fail)
   refine wp_region_any (by kernel_rfl) ?_
   change wpAny _ _ _ _ _ _ _ (World.drew _)
   generalize (w6.setRow g T.toArray).drew=w7 at *
   refine ztk 0 (.slice (some ⟨g,0,none⟩) 16 16) ?_
   try simp only [zpt]
   refine ztk 1 (.slice A' n' c') ?_
   try simp only [zpt]
   refine ztk 2 (.int .i64 (N:Int)) ?_
   try simp only [zpt]
   refine ztk 3 (.slice (cutA A' c' N) 16 (c' - N)) ?_
   try simp only [zpt]
   have CS:=qh (same_any RM.out (RT.out w7 RC7.out))
   refine zrd 4 fun K hK=>?_
   go_simp
   refine CS.out.mono ?_
   rintro e w8 ⟨rfl,hX⟩
   refine hK _ _ ?_; clear hK K; try simp only [zpt]
   have D0:=qh (C0.out.below hX C0.out.lt)
   have D1:=qh (C1.out.below hX C1.out.lt)
   have W8:=qt W7 hX
   have RC8:=qh (RC7.out.below hX)
   clear hX CS C0 C1 W7 RC7 RM hsl hcut2
   by_cases hEq:mk=tl
   ·have HOT:Hid (Ae.opens key nonce ad cc=true):=by unfold Hid; rw [HOE.out]; simpa using hEq
    have HOP:Hid (Ae.opened key nonce ad cc=Cha.xor key 1 nonce fr):=by unfold Hid; rw [HOX.out,if_pos (by simpa using hEq)]
    have hsB:sameB mk tl=true:=by unfold sameB; simpa using hEq
    rw [hsB]
    clear hsB hEq
    refine ztk 5 (.bool false) ?_
    try simp only [zpt]
    refine wpAny_done (by kernel_rfl) ?_ _
    go_upto_region 7 with (fail)
    refine wp_region_any (by kernel_rfl) ?_
    change wpAny _ _ _ _ _ _ _ (World.drew _)
    have E0:Hid (Blk w8.drew w.heap.size 45 kc):=D0.out.drew
    have E1:Hid (Blk w8.drew (w.heap.size + 1) 88 nc):=D1.out.drew
    have DW:Hid (Below w.heap.size w w8.drew):=W8.out.drew
    have DR:Hid (Rd w8.drew A' n' c' cc):=RC8.out.drew
    clear D0 D1 W8 RC8
    generalize w8.drew=w9 at *
    refine ztk 2 (.slice A' n' c') ?_
    try simp only [zpt]
    refine ztk 3 (.int .i64 (N:Int)) ?_
    try simp only [zpt]
    refine ztk 4 (.slice (cutA A' c' 0) N c') ?_
    try simp only [zpt]
    refine phase (fun i=>if i=5 then [0,1] else []) (fun d a w'=>∃ x31 x32 x36:Value,a={ tmps:=#[.agg kc.toArray,.agg nc.toArray,.slice A n c,.slice A' n' c',.pointer (some ⟨w.heap.size,0,none⟩),.pointer (some ⟨w.heap.size + 1,0,none⟩),undef,undef,.slice none 0 0,.bool false,.int .i64 (N:Int),.pointer (some ⟨g,0,none⟩),.slice A' n' c',.int .i64 (n':Int),.bool false,.slice A' n' c',.int .i64 (n':Int),.int .i64 (N:Int),x18,x19,.slice A n c,.slice A' n' c',.int .i64 (N:Int),.slice (cutA A' c' 0) N c',.agg T.toArray,.slice (some ⟨g,0,none⟩) 16 16,.slice A' n' c',.int .i64 (N:Int),.slice (cutA A' c' N) 16 (c' - N),.bool true,.bool false,x31,x32,.slice A' n' c',.int .i64 (N:Int),.slice (cutA A' c' 0) N c',x36],defers:=[] }/\Hid (Below w9.heap.size w9 w')
     /\ (d 0=true->x31 = .agg kc.toArray)/\(d 1=true->x32 = .agg nc.toArray)/\(d 5=true->Hid (∃ AX cx,x36 = .slice AX N cx/\Rd w' AX N cx (Cha.xor key 1 nonce fr)/\∀ x,AX=some x->w9.heap.size<=x.block))) [0,1,5] ?step4 2 3 [0,1,5] _ _ _ rfl (by decide) (fun _ h=>h) (by kernel_rfl) ?init4 ?fin4
    case init4 =>
     refine ⟨_,_,_,rfl,Below.refl _ _,?_,?_,?_⟩ <;> (intro h; exact absurd h (by decide))
    case step4 =>
     intro i hi d a w10 hI hdi hdeps
     obtain ⟨x31,x32,x36,rfl,BW9,h0,h1,h5⟩:=hI
     have hs9:=BW9.out.size
     simp only [List.mem_cons,List.not_mem_nil,or_false] at hi
     rcases hi with rfl | rfl | rfl
     ·refine zst fun K hK=>?_
      refine step_loadL rfl 45 (.tmp 4) rfl w.heap.size 0 rfl kc _ Tryz.underlying45 rfl IK.out (E0.out.below BW9.out E0.out.lt).cells (hK _ _ ?_)
      clear hK K
      try simp only [zpt]
      exact ⟨_,x32,x36,rfl,BW9,fun _=>rfl,zk h1,zk h5⟩
     ·refine zst fun K hK=>?_
      refine step_loadL rfl 88 (.tmp 5) rfl (w.heap.size + 1) 0 rfl nc _ Tryz.underlying88 rfl IN.out (E1.out.below BW9.out E1.out.lt).cells (hK _ _ ?_)
      clear hK K
      try simp only [zpt]
      exact ⟨x31,_,x36,rfl,BW9,zk h0,fun _=>rfl,zk h5⟩
     ·obtain rfl:=h0 (hdeps 0 (by simp))
      obtain rfl:=h1 (hdeps 1 (by simp))
      refine zst fun K hK=>?_
      clear h5
      go_simp
      refine (CX.out w10 _ _ _ _ (RF.out w10 (DR.out.below BW9.out)) (by omega)).mono ?_
      rintro e w11 ⟨gx,rfl,hR,hgx,hX⟩
      refine hK _ _ ?_; clear hK K; try simp only [zpt]
      exact ⟨_,_,_,rfl,BW9.out.trans (hX.mono hs9),fun _=>rfl,fun _=>rfl,fun _=>⟨_,_,rfl,hR,fun x hx=>by injection hx with hx; subst hx; exact Nat.le_trans hs9 hgx⟩⟩
    case fin4 =>
     intro a w10 hI
     obtain ⟨x31,x32,x36,rfl,BW9,h0,h1,h5⟩:=hI
     obtain ⟨AX,cx,rfl,hR,hFX⟩:=(h5 (by decide)).out
     have FX:=qh (fun x hx=>Nat.le_trans DW.out.size (hFX x hx))
     clear hFX
     have W9:=qt DW BW9.out
     have HRX:=qh hR
     clear h0 h1 h5 CX BW9 hR
     dsimp only
     refine ztk 6 (.slice AX N cx) ?_
     try simp only [zpt]
     refine ztk 7 (.bool true) ?_
     try simp only [zpt]
     refine wpAny_done (by kernel_rfl) ?_ _
     go_wp2_with fail
     go_ret2
     exact ⟨AX,N,cx,by rw [HOT.out]; rfl,by rw [HOP.out]; exact HRX.out,W9.out,fun x hx _=>FX.out x hx⟩
   ·have HOF:Hid (Ae.opens key nonce ad cc=false):=by unfold Hid; rw [HOE.out]; simpa using hEq
    have HOP:Hid (Ae.opened key nonce ad cc=[]):=by unfold Hid; rw [HOX.out,if_neg (by simpa using hEq)]
    have hsB:sameB mk tl=false:=by unfold sameB; simpa using hEq
    rw [hsB]
    clear hsB hEq
    refine ztk 5 (.bool true) ?_
    try simp only [zpt]
    refine wpAny_done (by kernel_rfl) ?_ _
    go_wp2_with fail
    go_ret2
    exact ⟨none,0,0,by rw [HOF.out]; rfl,by rw [HOP.out]; exact Rd.nil _ _ _ (by unfold maxLen; omega),W8.out,fun x hx=>by cases hx⟩
theorem open_any (key nonce:List UInt8) {w:World} {A A':Option Addr} {n c n' c':Nat} {ad cc:List UInt8} (hk:key.length=32) (hn:nonce.length=12) (hra:Rd w A n c ad) (hrc:Rd w A' n' c' cc) (hn1:n<=10000) (hn2:n'<=10000) :
  Calls Tryz.prog 69 #[.agg (key.map cellOf).toArray,.agg (nonce.map cellOf).toArray,.slice A n c,.slice A' n' c'] w (RetO w (Ae.opened key nonce ad cc) (Ae.opens key nonce ad cc)) :=
 (open_new key nonce hk hn hra hrc hn1 hn2).mono fun _ _ ⟨A,n,c,h1,h2,h3,_⟩=>⟨A,n,c,h1,h2,h3⟩
theorem aeOk:AeOk:=⟨fun key nonce _ _ _ _ _ _ _ _ _ hk hn h1 h2 h3 h4=>seal_any key nonce hk hn h1 h2 h3 h4,fun key nonce _ _ _ _ _ _ _ _ _ hk hn h1 h2 h3 h4=>open_any key nonce hk hn h1 h2 h3 h4⟩
end Go.Proofs.YtnfbkimkdnbohaaGreatDoor
