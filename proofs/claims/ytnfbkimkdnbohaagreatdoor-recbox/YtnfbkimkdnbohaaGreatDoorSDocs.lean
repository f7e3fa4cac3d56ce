import Derived.Test.YtnfbkimkdnbohaaGreatDoorSRbs
import Derived.Test.YtnfbkimkdnbohaaGreatDoorSRec
import Derived.Test.YtnfbkimkdnbohaaGreatDoorSDoc
import Derived.Test.YtnfbkimkdnbohaaGreatDoorSKf
import Derived.Test.YtnfbkimkdnbohaaGreatDoorSKeyed
set_option linter.unusedVariables false
set_option linter.unusedSimpArgs false
set_option maxRecDepth 100000
set_option maxHeartbeats 8000000
namespace Go.Proofs.YtnfbkimkdnbohaaGreatDoor
open Go.RowKit
theorem Ow.lower2 {w:World} {b b':Nat} {v:Value} {l:List UInt8} (h:Ow w b v l) (hb:b'<=b):Ow w b' v l :=
 ⟨h.1,h.2.imp id fun h=>by obtain ⟨g,cap,cur,e,h1,h2⟩:=h; exact ⟨g,cap,cur,e,Nat.le_trans hb h1,h2⟩⟩
theorem nonce_drop (N p:Nat) (h:p < 8):(Bx.nonce (N:Int)).drop (4 + p)=UInt8.ofNat (N / 256 ^ (7 - p) % 256) :: (Bx.nonce (N:Int)).drop (4 + p + 1):=by
 have hl:4 + p < (Bx.nonce (N:Int)).length:=by rw [Bx.nonce_length]; omega
 rw [List.drop_eq_getElem_cons hl]
 congr 1
 simp only [Bx.nonce]
 rw [List.getElem_append_right (by simp)]
 simp
theorem set_mid (m:Nat) (z v:Value) (X:List Value):(List.replicate (m + 1) z ++ X).set m v=List.replicate m z ++ v :: X:=by
 rw [List.replicate_succ',List.append_assoc,List.set_append_right _ _ (by simp)]
 simp
theorem nonce_cells (N:Nat):List.replicate (4 + 0) (Value.int .u8 0) ++ ((Bx.nonce (N:Int)).drop (4 + 0)).map cellOf=(Bx.nonce (N:Int)).map cellOf:=by
 rfl
theorem rnonce_any (N:Nat) (w:World) (hN:N<=9223372036854775807):Calls Tryz.prog 58 #[.int .i64 (N:Int)] w fun e w'=>e = .returned (.agg ((Bx.nonce (N:Int)).map cellOf).toArray)/\Below w.heap.size w w':=by
 obtain ⟨D,hD⟩:=zx ((Bx.nonce (N:Int)).map cellOf)
 have HD:=qh hD
 have hDl:D.length=12:=by rw [hD,List.length_map,Bx.nonce_length]
 have ID:Hid ((Tryz.prog.info? 88).map (·.size)=some D.length):=by unfold Hid; rw [hDl]; kernel_rfl
 have LD:Hid ((List.replicate 12 (Value.int .u8 0)).length=D.length):=by unfold Hid; rw [hDl]; rfl
 have OD:Hid (∀ u ∈ D,u.oneCell'=true):=by unfold Hid; rw [hD]; exact cells_u8 _
 rw [<- hD]
 clear hD hDl
 go_enter Tryz.func58,Tryz.ntmps58
 go_upto_region 2 with (fail)
 obtain ⟨w1,hw1⟩:=zx ((w.alloc (Obj.cells (List.replicate 12 (Value.int .u8 0)).toArray 88)).alloc (Obj.cells (List.replicate 12 (Value.int .u8 0)).toArray 88))
 have B2:Hid (Blk w1 w.heap.size 88 (List.replicate 12 (Value.int .u8 0))):=by unfold Hid; rw [hw1]; exact (Blk.new w _ _).alloc _
 have B3:Hid (Blk w1 (w.heap.size + 1) 88 (List.replicate 12 (Value.int .u8 0))):=by unfold Hid; rw [hw1]; exact Blk.at_new _ _ _ _ _ rfl (by simp)
 have W1:Hid (Below w.heap.size w w1):=by unfold Hid; rw [hw1]; exact ((Below.refl _ _).alloc (Nat.le_refl _) _).alloc (by simp) _
 change Code.wp _ _ _ _ ((w.alloc (Obj.cells (List.replicate 12 (Value.int .u8 0)).toArray 88)).alloc (Obj.cells (List.replicate 12 (Value.int .u8 0)).toArray 88))
 rw [<- hw1]
 clear hw1
 have hs1:w.heap.size + 2<=w1.heap.size:=B3.out.lt
 go_wp2_with fail
 go_loopw [0,4] (fun n i wr=>∃ r q:Nat,r<=8/\i = .int .i64 ((r:Int) + 3)/\n = .int .i64 (q:Int)/\q<=9223372036854775807/\Hid (q=N / 256 ^ (8 - r))/\Hid (Blk wr (w.heap.size + 1) 88 (List.replicate (4 + r) (Value.int .u8 0) ++ ((Bx.nonce (N:Int)).drop (4 + r)).map cellOf))/\Hid (Below (w.heap.size + 1) w1 wr)) (fun _ i _=>(intOf i).toNat)
 case atStart=>exact ⟨8,N,by omega,rfl,rfl,hN,by unfold Hid; simp,by
  unfold Hid
  rw [List.drop_of_length_le (by rw [Bx.nonce_length]; omega)]
  exact B3.out,Below.refl _ _⟩
 case round =>
  obtain ⟨r,q,hr8,rfl,rfl,hq,HQ,BK,BW⟩:=hrel
  rcases Nat.eq_zero_or_pos r with h0 | h0
  ·subst h0
   have e0:((0:Nat):Int) + 3=3:=rfl
   rw [e0]
   have B4:Hid (Blk wr (w.heap.size + 1) 88 D):=by unfold Hid; rw [HD.out,<- nonce_cells]; exact BK.out
   have C2:=qh (B2.out.below BW.out (Nat.lt_succ_self _))
   have W2:=qh (W1.out.trans (BW.out.mono (Nat.le_succ _)))
   clear BK BW B2 B3 W1 HQ
   go_wp2_with (first
    | (with_reducible refine load_law rfl 88 (.tmp 3) rfl (w.heap.size + 1) 0 rfl D _ Tryz.underlying88 rfl ID.out B4.out.cells ?_)
    | (with_reducible refine storeAll_law rfl 88 (.tmp 2) (.tmp 16) rfl w.heap.size rfl D rfl 88 (List.replicate 12 (Value.int .u8 0)) C2.out ID.out LD.out OD.out ?_))
   have B10:Hid (Blk (wr.setRow w.heap.size D.toArray) w.heap.size 88 D):=C2.out.row
   exact bodyPost_ret (results_cell_row rfl _ _ w.heap.size 88 D.toArray (0,0) _ rfl B10.out Tryz.underlying88 rfl (by rw [ID.out]; simp)) rfl ⟨rfl,below_setRow W2.out (Nat.le_refl _) _⟩
  ·obtain ⟨p,rfl⟩:∃ p,r=p + 1:=⟨r - 1,by omega⟩
   have e0:((p + 1:Nat):Int) + 3=4 + (p:Int):=by omega
   rw [e0]
   have bp:4 + (p:Int) < 12:=by omega
   have bp2:(4:Int)<=4 + (p:Int):=by omega
   obtain ⟨y,hy⟩:=zx (UInt8.ofNat (N / 256 ^ (7 - p) % 256))
   have hqy:q % 256=y.toNat:=by rw [hy,UInt8.toNat_ofNat',HQ.out,show 8 - (p + 1)=7 - p by omega]; omega
   have ey:(q:Int) % 256=(y.toNat:Int):=by omega
   have ey2:(q:Int).tmod 256=(y.toNat:Int):=by rw [Int.tmod_eq_emod_of_nonneg (by omega)]; exact ey
   obtain ⟨d,hd⟩:=zx (q / 256)
   have ed:(q:Int) / 256=(d:Int):=by omega
   have ed2:(q:Int).tdiv 256=(d:Int):=by rw [Int.tdiv_eq_ediv_of_nonneg (by omega)]; exact ed
   have hq2:d<=9223372036854775807:=by omega
   have ew:IntKind.i64.wrap (d:Int)=(d:Int):=by rw [IntKind.wrap_i64]; omega
   have hy8:=y.toNat_lt
   have HQ2:Hid (d=N / 256 ^ (8 - p)):=by
    unfold Hid
    rw [hd,HQ.out,Nat.div_div_eq_div_mul,show 8 - (p + 1)=7 - p by omega,show 8 - p=(7 - p) + 1 by omega,Nat.pow_succ]
   have hsp:4 + (p + 1)=4 + p + 1:=by omega
   rw [hsp] at BK
   have c0:wr.cell? ⟨w.heap.size + 1,4 + p,none⟩=some (.int .u8 0):=by
    rw [BK.out.cell,List.getElem?_append_left (by simp)]
    simp
   have f0:wr.frozen? ⟨w.heap.size + 1,4 + p,none⟩=false:=BK.out.frozen _
   have HN2:Hid (Blk (wr.setCell ⟨w.heap.size + 1,4 + p,none⟩ (.int .u8 (y.toNat:Int))) (w.heap.size + 1) 88 (List.replicate (4 + p) (Value.int .u8 0) ++ ((Bx.nonce (N:Int)).drop (4 + p)).map cellOf)):=by
    have:=BK.out.set_ (4 + p) (.int .u8 (y.toNat:Int))
    rw [set_mid] at this
    unfold Hid
    rw [nonce_drop N p (by omega),<- hy]
    exact this
   clear BK hy hqy hsp e0 hd
   go_wp2_with fail
   go_roundw
   case rel=>exact ⟨p,d,by omega,by go_num,by go_num,hq2,HQ2,HN2,BW.out.setCell (Nat.le_refl _) _⟩
   case measure=>simp [intOf]; omega
theorem bsealR_any (key:List UInt8) (M:Nat) {w:World} {g:Nat} {s ta:Int} {v:Value} {A A':Option Addr} {n c n' c':Nat} {ad b:List UInt8} (hb:Blk w g 66 [.int .i64 0,.int .i64 s,.int .i64 ta,v]) (hM:M<=9223372036854775807) (h32:key.length=32) (hra:Rd w A n c ad) (hrb:Rd w A' n' c' b) (hn1:n<=100000) (hn2:n'<=100000) :
  Calls Tryz.prog 36 #[.pointer (some ⟨g,0,none⟩),.agg (key.map cellOf).toArray,.int .i64 (M:Int),.slice A n c,.slice A' n' c'] w (RetB w (Ae.sealed key (Bx.nonce (M:Int)) ad b)):=by
 obtain ⟨kc,hkc⟩:=zx (key.map cellOf)
 obtain ⟨nc,hnc⟩:=zx ((Bx.nonce (M:Int)).map cellOf)
 have CN:Hid (∀ W:World,Calls Tryz.prog 58 #[.int .i64 (M:Int)] W fun e w'=>e = .returned (.agg nc.toArray)/\Below W.heap.size W w'):=fun W=>by rw [hnc]; exact rnonce_any M W hM
 obtain ⟨out,hout⟩:=zx (Ae.sealed key (Bx.nonce (M:Int)) ad b)
 have CS:Hid (∀ W:World,Rd W A n c ad->Rd W A' n' c' b->Calls Tryz.prog 57 #[.agg kc.toArray,.agg nc.toArray,.slice A n c,.slice A' n' c'] W (RetB W out)):=fun W h1 h2=>by rw [hkc,hnc,hout]; exact rseal_any key _ h32 (Bx.nonce_length _) h1 h2 hn1 hn2
 rw [<- hout]
 clear hout
 clear hnc
 have IK:Hid ((Tryz.prog.info? 46).map (·.size)=some kc.length):=by unfold Hid; rw [hkc,List.length_map,h32]; kernel_rfl
 rw [<- hkc]
 have hgl:=hb.lt
 have HRA:=qh hra
 have HRB:=qh hrb
 have h0:¬ ((M:Int) < 0):=by omega
 have HBB:=qh hb
 clear hb hra hrb hkc h32
 go_enter Tryz.func36,Tryz.ntmps36
 go_upto_region 1 with (fail)
 have X0:=qh (alloc_below w (.cells kc.toArray 46))
 have B0:=qh (Blk.new w 46 kc)
 generalize w.alloc (.cells kc.toArray 46)=w1 at *
 have c0:w1.cell? ⟨g,0,none⟩=some (.int .i64 0):=(HBB.out.below X0.out hgl).cell 0
 replace HRA:=qh (HRA.out.below X0.out)
 replace HRB:=qh (HRB.out.below X0.out)
 go_upto_region 4 with (fail)
 clear c0 HBB
 replace X0:=qh X0.out.drew
 replace B0:=qh B0.out.drew
 replace HRA:=qh HRA.out.drew
 replace HRB:=qh HRB.out.drew
 refine wp_region_any (by kernel_rfl) ?_
 change wpAny _ _ _ _ _ _ _ (World.drew _)
 generalize w1.drew=w3 at *
 refine ztk 1 (.int .i64 (M:Int)) ?_
 try simp only [zpt]
 refine ztk 3 (.slice A n c) ?_
 try simp only [zpt]
 refine ztk 4 ((.slice A' n' c')) ?_
 try simp only [zpt]
 refine zph (fun i=>[]) [0,2] (fun zT d a w'=>∃ x31 x33:Value,a={ tmps:=((zT.set 31 x31).set 33 x33).toArray,defers:=[] }/\Hid (Below w3.heap.size w3 w')/\(d 0=true->x31 = .agg kc.toArray)/\(d 2=true->x33 = .agg nc.toArray)) 2 2 ?step4 ?init4 ?fin4
 case init4=>refine ⟨_,_,rfl,Below.refl _ _,?_,?_⟩ <;> (intro h; exact absurd h (by decide))
 case step4 =>
  intro i hi d a v4 hI hdi hdeps
  obtain ⟨x31,x33,ha,BW,h0,h2⟩:=hI
  simp only [zpt] at ha; subst ha
  have hsw:=BW.out.size
  simp only [List.mem_cons,List.not_mem_nil,or_false] at hi
  rcases hi with rfl | rfl
  ·refine zst fun K hK=>?_
   refine step_loadW rfl 46 (.tmp 6) rfl w.heap.size 0 rfl kc _ Tryz.underlying46 rfl IK.out (B0.out.below BW.out B0.out.lt).cells (hK _ _ ?_)
   clear hK K
   try simp only [zpt]
   exact ⟨_,_,rfl,BW,fun _=>rfl,zk h2⟩
  ·refine zst fun K hK=>?_
   go_simp
   refine (CN.out v4).mono ?_
   rintro e u4 ⟨rfl,hX⟩
   refine hK _ _ ?_; clear hK K; try simp only [zpt]
   exact ⟨_,_,rfl,BW.out.trans (hX.mono hsw),zk h0,fun _=>rfl⟩
 case fin4 =>
  intro a v4 hI
  obtain ⟨x31,x33,ha,BW,h0,h2⟩:=hI
  simp only [zpt] at ha; subst ha
  obtain rfl:=h0 (by decide)
  obtain rfl:=h2 (by decide)
  have W4:=qt X0 BW.out
  replace HRA:=qh (HRA.out.below BW.out)
  replace HRB:=qh (HRB.out.below BW.out)
  clear BW X0 B0 h0 h2
  try dsimp only
  refine zrd 5 fun K hK=>?_
  go_simp
  refine (CS.out v4 HRA.out HRB.out).mono ?_
  rintro e w5 ⟨v5,rfl,hO,hX⟩
  have O5:=qh (Ow.lower2 hO W4.out.size)
  have W5:=qt W4 hX
  clear hO hX HRA HRB
  refine hK _ _ ?_; clear hK K; try simp only [zpt]
  refine ztk 6 (v5) ?_
  try simp only [zpt]
  refine wpAny_done (by kernel_rfl) ?_ _
  go_wp2_with fail
  go_ret
  exact ⟨_,rfl,O5.out,W5.out⟩
theorem bopenR_any (key:List UInt8) (M:Nat) {w:World} {g:Nat} {s ta:Int} {v:Value} {A A':Option Addr} {n c n' c':Nat} {ad b:List UInt8} (hb:Blk w g 66 [.int .i64 0,.int .i64 s,.int .i64 ta,v]) (hM:M<=9223372036854775807) (h32:key.length=32) (hra:Rd w A n c ad) (hrb:Rd w A' n' c' b) (hn1:n<=100000) (hn2:n'<=100000) :
  Calls Tryz.prog 43 #[.pointer (some ⟨g,0,none⟩),.agg (key.map cellOf).toArray,.int .i64 (M:Int),.slice A n c,.slice A' n' c'] w (RetO w (Ae.opened key (Bx.nonce (M:Int)) ad b) (Ae.opens key (Bx.nonce (M:Int)) ad b)):=by
 obtain ⟨kc,hkc⟩:=zx (key.map cellOf)
 obtain ⟨nc,hnc⟩:=zx ((Bx.nonce (M:Int)).map cellOf)
 have CN:Hid (∀ W:World,Calls Tryz.prog 58 #[.int .i64 (M:Int)] W fun e w'=>e = .returned (.agg nc.toArray)/\Below W.heap.size W w'):=fun W=>by rw [hnc]; exact rnonce_any M W hM
 obtain ⟨out,hout⟩:=zx (Ae.opened key (Bx.nonce (M:Int)) ad b)
 obtain ⟨ok,hok⟩:=zx (Ae.opens key (Bx.nonce (M:Int)) ad b)
 have CS:Hid (∀ W:World,Rd W A n c ad->Rd W A' n' c' b->Calls Tryz.prog 70 #[.agg kc.toArray,.agg nc.toArray,.slice A n c,.slice A' n' c'] W (RetO W out ok)):=fun W h1 h2=>by rw [hkc,hnc,hout,hok]; exact ropen_any key _ h32 (Bx.nonce_length _) h1 h2 hn1 hn2
 rw [<- hout,<- hok]
 clear hout hok
 clear hnc
 have IK:Hid ((Tryz.prog.info? 46).map (·.size)=some kc.length):=by unfold Hid; rw [hkc,List.length_map,h32]; kernel_rfl
 rw [<- hkc]
 have hgl:=hb.lt
 have HRA:=qh hra
 have HRB:=qh hrb
 have h0:¬ ((M:Int) < 0):=by omega
 have HBB:=qh hb
 clear hb hra hrb hkc h32
 go_enter Tryz.func43,Tryz.ntmps43
 go_upto_region 1 with (fail)
 have X0:=qh (alloc_below w (.cells kc.toArray 46))
 have B0:=qh (Blk.new w 46 kc)
 generalize w.alloc (.cells kc.toArray 46)=w1 at *
 have c0:w1.cell? ⟨g,0,none⟩=some (.int .i64 0):=(HBB.out.below X0.out hgl).cell 0
 replace HRA:=qh (HRA.out.below X0.out)
 replace HRB:=qh (HRB.out.below X0.out)
 go_upto_region 4 with (fail)
 clear c0 HBB
 replace X0:=qh X0.out.drew
 replace B0:=qh B0.out.drew
 replace HRA:=qh HRA.out.drew
 replace HRB:=qh HRB.out.drew
 refine wp_region_any (by kernel_rfl) ?_
 change wpAny _ _ _ _ _ _ _ (World.drew _)
 generalize w1.drew=w3 at *
 refine ztk 1 (.int .i64 (M:Int)) ?_
 try simp only [zpt]
 refine ztk 3 (.slice A n c) ?_
 try simp only [zpt]
 refine ztk 4 ((.slice A' n' c')) ?_
 try simp only [zpt]
 refine zph (fun i=>[]) [0,2] (fun zT d a w'=>∃ x21 x23:Value,a={ tmps:=((zT.set 21 x21).set 23 x23).toArray,defers:=[] }/\Hid (Below w3.heap.size w3 w')/\(d 0=true->x21 = .agg kc.toArray)/\(d 2=true->x23 = .agg nc.toArray)) 5 2 ?step12 ?init12 ?fin12
 case init12=>refine ⟨_,_,rfl,Below.refl _ _,?_,?_⟩ <;> (intro h; exact absurd h (by decide))
 case step12 =>
  intro i hi d a v12 hI hdi hdeps
  obtain ⟨x21,x23,ha,BW,h0,h2⟩:=hI
  simp only [zpt] at ha; subst ha
  have hsw:=BW.out.size
  simp only [List.mem_cons,List.not_mem_nil,or_false] at hi
  rcases hi with rfl | rfl
  ·refine zst fun K hK=>?_
   refine step_loadW rfl 46 (.tmp 6) rfl w.heap.size 0 rfl kc _ Tryz.underlying46 rfl IK.out (B0.out.below BW.out B0.out.lt).cells (hK _ _ ?_)
   clear hK K
   try simp only [zpt]
   exact ⟨_,_,rfl,BW,fun _=>rfl,zk h2⟩
  ·refine zst fun K hK=>?_
   go_simp
   refine (CN.out v12).mono ?_
   rintro e u12 ⟨rfl,hX⟩
   refine hK _ _ ?_; clear hK K; try simp only [zpt]
   exact ⟨_,_,rfl,BW.out.trans (hX.mono hsw),zk h0,fun _=>rfl⟩
 case fin12 =>
  intro a v12 hI
  obtain ⟨x21,x23,ha,BW,h0,h2⟩:=hI
  simp only [zpt] at ha; subst ha
  obtain rfl:=h0 (by decide)
  obtain rfl:=h2 (by decide)
  have W4:=qt X0 BW.out
  replace HRA:=qh (HRA.out.below BW.out)
  replace HRB:=qh (HRB.out.below BW.out)
  clear BW X0 B0 h0 h2
  try dsimp only
  refine zrd 5 fun K hK=>?_
  go_simp
  refine (CS.out v12 HRA.out HRB.out).mono ?_
  rintro e w5 ⟨A5,n5,c5,rfl,hR,hX⟩
  have R5:=qh hR
  have W5:=qt W4 hX
  clear hR hX HRA HRB
  refine hK _ _ ?_; clear hK K; try simp only [zpt]
  refine ztk 6 (.slice A5 n5 c5) ?_
  try simp only [zpt]
  refine ztk 7 (.bool ok) ?_
  try simp only [zpt]
  refine ztk 8 (.slice A5 n5 c5) ?_
  try simp only [zpt]
  refine ztk 9 (.bool ok) ?_
  try simp only [zpt]
  refine wpAny_done (by kernel_rfl) ?_ _
  go_wp2_with fail
  go_ret2
  exact ⟨_,_,_,rfl,R5.out,W5.out⟩
open Go.RowKit
def noteC (key:List UInt8) (m:Int) (ad b out:List UInt8):List Value:=.int .i64 0 :: (key.map cellOf ++ [.int .i64 m,.string ⟨ad.toArray⟩,.string ⟨b.toArray⟩,.string ⟨out.toArray⟩])
theorem noteC_length {key:List UInt8} (h:key.length=32) (m:Int) (ad b out:List UInt8):(noteC key m ad b out).length=37:=by simp [noteC,h]
theorem noteC_one (key:List UInt8) (m:Int) (ad b out:List UInt8):∀ v ∈ noteC key m ad b out,v.oneCell'=true:=fun v hv=>by
 unfold noteC at hv
 rcases List.mem_cons.1 hv with rfl | hv
 ·rfl
 rcases List.mem_append.1 hv with hv | hv
 ·exact cells_u8 key v hv
 ·simp at hv
  rcases hv with rfl | rfl | rfl | rfl <;> rfl
theorem noteC_key {key:List UInt8} (h:key.length=32) (m:Int) (ad b out:List UInt8):∀ j v,(key.map cellOf)[j]?=some v->(noteC key m ad b out)[1 + j]?=some v:=fun j v hv=>by
 have hj:=(List.getElem?_eq_some_iff.1 hv).1
 unfold noteC
 rw [Nat.add_comm,List.getElem?_cons_succ,List.getElem?_append_left hj]
 exact hv
theorem noteC_tail {key:List UInt8} (h:key.length=32) (m:Int) (ad b out:List UInt8):(noteC key m ad b out)[33]?=some (.int .i64 m)/\(noteC key m ad b out)[34]?=some (.string ⟨ad.toArray⟩)/\(noteC key m ad b out)[35]?=some (.string ⟨b.toArray⟩)/\(noteC key m ad b out)[36]?=some (.string ⟨out.toArray⟩):=by
 unfold noteC
 refine ⟨?_,?_,?_,?_⟩ <;> (rw [List.getElem?_cons_succ,List.getElem?_append_right (by simp [h])]; simp [h])
theorem noteCBuilt {kc:List Value} (h:kc.length=32) (m:Int) (a u o:ByteArray):Tryz.prog.built 92 [(0,.int .i64 0),(1,.agg kc.toArray),(2,.int .i64 m),(3,.string a),(4,.string u),(5,.string o)]=some (Value.int .i64 0 :: (kc ++ [.int .i64 m,.string a,.string u,.string o])).toArray:=by
 obtain ⟨a0,a1,a2,a3,a4,a5,a6,a7,a8,a9,a10,a11,a12,a13,a14,a15,a16,a17,a18,a19,a20,a21,a22,a23,a24,a25,a26,a27,a28,a29,a30,a31,rfl⟩:=list32 h
 kernel_rfl
theorem noteCRow {key:List UInt8} (h:key.length=32) (m:Int) (ad b out:List UInt8) (W:World):(Instr.buildSlice 64 1 #[(0,.agg (noteC key m ad b out).toArray)]).run Tryz.prog W = .ok (.slice (some ⟨W.heap.size,0,none⟩) 1 1) (W.alloc (.cells (noteC key m ad b out).toArray 92)):=by
 obtain ⟨i0,hi,hz0,hz1,hz2⟩:=info_parts infoNote
 refine run_buildSlice W 64 92 1 _ _ i0 _ Tryz.underlying64 hi hz0 (by rw [hz1]; decide) (by rw [hz1]; decide) ?_
 rw [hz1]
 exact noteFill (kc:=key.map cellOf) (by simp [h]) _ _ _ _ _
theorem one_note {w:World} {B:Nat} {v:Value} {nc:List Value} (hl:nc.length=37) (h:w.ownsRow B 92 37 v 1 nc):∃ gr cap,v = .slice (some ⟨gr,0,none⟩) 1 cap/\B<=gr/\gr < w.heap.size/\∀ j x,nc[j]?=some x->w.cell? ⟨gr,j,none⟩=some x:=by
 rcases h.2 with ⟨_,h1⟩ | ⟨q,cap,cur,e,h1,h2,h3,h4,h5,h6⟩
 ·omega
 ·refine ⟨q,cap,e,h1,(Array.getElem?_eq_some_iff.1 h2).1,fun j x hx=>?_⟩
  have hj:j < 37:=by rw [<- hl]; exact (List.getElem?_eq_some_iff.1 hx).1
  rw [<- h6,List.getElem?_take_of_lt (by omega),Array.getElem?_toList] at hx
  rw [cell_of_row _ _ _ _ 92 _ h2]
  exact hx
theorem rdrawn_any (K:Nat) (hK1:16<=K) (hK2:K<=4000) {w:World} {g:Nat} {s:Int} {ta:Nat} {v:Value} (hb:Blk w g 66 [.int .i64 1,.int .i64 s,.int .i64 (ta:Int),v]) (h1:-9223372036854775808<=s) (h2:s<=9223372036854775807) (ha:ta<=1000000) :
  Calls Tryz.prog 59 #[.pointer (some ⟨g,0,none⟩),.int .i64 (K:Int)] w fun e w'=>∃ A c,e = .returned (.slice A K c)/\Rd w' A K c (Tap.tape s ta K)/\Blk w' g 66 [.int .i64 1,.int .i64 s,.int .i64 ((ta + K:Nat):Int),v]/\w.grownBy w' (some g):=by
 obtain ⟨out,hout⟩:=zx (Tap.tape s ta K)
 have CT:Hid (∀ W:World,Calls Tryz.prog 85 #[.int .i64 s,.int .i64 (ta:Int),.int .i64 (K:Int)] W fun e w'=>∃ A c,e = .returned (.slice A K c)/\Rd w' A K c out/\Below W.heap.size W w'):=fun W=>by
  rw [hout]
  exact rtape_any s ta K W (by omega) (by omega) (by omega) (by omega)
 rw [<- hout]
 have HBB:=qh hb
 obtain ⟨tb,htb⟩:=zx (ta + K)
 have e32:(ta:Int) + (K:Int)=(tb:Int):=by omega
 rw [<- htb]
 clear hb hout htb
 go_enter Tryz.func59,Tryz.ntmps59
 go_upto_region 1 with (fail)
 refine wp_region_any (by kernel_rfl) ?_
 change wpAny _ _ _ _ _ _ _ (World.drew _)
 have B0:=qh HBB.out.drew
 have W0:Hid (Below w.heap.size w w.drew):=(Below.refl _ _).drew
 have hgl:=HBB.out.lt
 generalize w.drew=w0 at *
 refine ztk 0 (.pointer (some ⟨g,0,none⟩)) ?_
 try simp only [zpt]
 refine ztk 1 (.pointer (some ⟨g,0,none⟩)) ?_
 try simp only [zpt]
 refine ztk 2 (.pointer (some ⟨g,1,none⟩)) ?_
 try simp only [zpt]
 refine ztk 4 (.pointer (some ⟨g,0,none⟩)) ?_
 try simp only [zpt]
 refine ztk 5 (.pointer (some ⟨g,0,none⟩)) ?_
 try simp only [zpt]
 refine ztk 6 (.pointer (some ⟨g,2,none⟩)) ?_
 try simp only [zpt]
 refine ztk 8 (.int .i64 (K:Int)) ?_
 try simp only [zpt]
 refine zph (fun i=>[]) [3,7] (fun zT d a w'=>∃ x9 x13:Value,a={ tmps:=((zT.set 9 x9).set 13 x13).toArray,defers:=[] }/\Hid (Below w0.heap.size w0 w')/\(d 3=true->x9 = .int .i64 s)/\(d 7=true->x13 = .int .i64 (ta:Int))) 2 2 ?step8 ?init8 ?fin8
 case init8=>refine ⟨_,_,rfl,Below.refl _ _,?_,?_⟩ <;> (intro h; exact absurd h (by decide))
 case step8 =>
  intro i hi d a v8 hI hdi hdeps
  obtain ⟨x9,x13,ha,BW,h3,h7⟩:=hI
  simp only [zpt] at ha; subst ha
  have hsw:=BW.out.size
  simp only [List.mem_cons,List.not_mem_nil,or_false] at hi
  rcases hi with rfl | rfl
  ·have c0:v8.cell? ⟨g,1,none⟩=some (.int .i64 s):=(B0.out.below BW.out B0.out.lt).cell 1
   refine zst fun K hK=>?_
   go_simp
   refine hK _ _ ?_; clear hK K; try simp only [zpt]
   exact ⟨_,_,rfl,BW,fun _=>rfl,zk h7⟩
  ·have c0:v8.cell? ⟨g,2,none⟩=some (.int .i64 (ta:Int)):=(B0.out.below BW.out B0.out.lt).cell 2
   refine zst fun K hK=>?_
   go_simp
   refine hK _ _ ?_; clear hK K; try simp only [zpt]
   exact ⟨_,_,rfl,BW,zk h3,fun _=>rfl⟩
 case fin8 =>
  intro a v8 hI
  obtain ⟨x9,x13,ha,BW,h3,h7⟩:=hI
  simp only [zpt] at ha; subst ha
  obtain rfl:=h3 (by decide)
  obtain rfl:=h7 (by decide)
  replace W0:=qt W0 BW.out
  replace B0:=qh (B0.out.below BW.out B0.out.lt)
  clear h3 h7 BW
  try dsimp only
  refine zrd 9 fun K hK=>?_
  go_simp
  refine (CT.out _).mono ?_
  rintro e w5 ⟨A,c,rfl,hR,hX⟩
  refine hK _ _ ?_; clear hK K; try simp only [zpt]
  replace W0:=qt W0 hX
  replace B0:=qh (B0.out.below hX B0.out.lt)
  have RA:=qh hR
  clear hR hX
  refine ztk 10 (.slice A K c) ?_
  try simp only [zpt]
  refine wpAny_done (by kernel_rfl) ?_ _
  have c0:w5.cell? ⟨g,2,none⟩=some (.int .i64 (ta:Int)):=B0.out.cell 2
  have f0:w5.frozen? ⟨g,2,none⟩=false:=B0.out.frozen 2
  have hne:∀ x:Addr,A=some x->x.block ≠ g:=fun x hx he=>by
   obtain ⟨gb,off,e,hlt,hc⟩:=RA.out.at_ (by omega)
   rw [hx] at e
   injection e with e
   subst e
   have h31:=hc 15 (by omega)
   simp only at he
   subst he
   rw [B0.out.cell,List.getElem?_eq_none (by simp)] at h31
   cases h31
  have YG:Hid (Blk (w5.setCell ⟨g,2,none⟩ (.int .i64 (tb:Int))) g 66 [.int .i64 1,.int .i64 s,.int .i64 (tb:Int),v]):=B0.out.set_ 2 _
  have YR:Hid (Rd (w5.setCell ⟨g,2,none⟩ (.int .i64 (tb:Int))) A K c out):=RA.out.keep (by simp) (fun bb off e h0 hlt=>Below.heap_setCell w5 ⟨g,2,none⟩ _ bb (hne _ e))
  have YW:Hid (w.grownBy (w5.setCell ⟨g,2,none⟩ (.int .i64 (tb:Int))) (some g)):=only_setCell (only_of_below W0.out (some g)) (.inl rfl) _
  clear hne RA B0 W0
  go_wp2_with fail
  go_ret
  exact ⟨A,c,rfl,YR.out,YG.out,YW.out⟩
def RetSI (w:World) (g:Nat) (s:Int) (ta K:Nat) (out:List UInt8) (nc:List Value) (e:Ending) (w':World):Prop :=
 ∃ A3 c3 gr cp,e = .returned (.slice A3 K c3)/\Rd w' A3 K c3 out/\Blk w' g 66 [.int .i64 1,.int .i64 s,.int .i64 ((ta + K:Nat):Int),.slice (some ⟨gr,0,none⟩) 1 cp]/\w.heap.size<=gr/\gr < w'.heap.size/\(∀ j x,nc[j]?=some x->w'.cell? ⟨gr,j,none⟩=some x)/\Fr (fun x=>x=g) w w'
theorem bsealI_any (key:List UInt8) (M:Nat) {w:World} {g:Nat} {s:Int} {ta:Nat} {A A':Option Addr} {n c n' c':Nat} {ad b:List UInt8} (hb:Blk w g 66 [.int .i64 1,.int .i64 s,.int .i64 (ta:Int),.slice none 0 0]) (s1:-9223372036854775808<=s) (s2:s<=9223372036854775807) (hta:ta<=900000) (hM:M<=9223372036854775807) (h32:key.length=32) (hra:Rd w A n c ad) (hrb:Rd w A' n' c' b) (hn2:n'<=3000) (hoa:∀ x:Addr,A=some x->0 < n->x.block ≠ g) (hob:∀ x:Addr,A'=some x->0 < n'->x.block ≠ g) :
  Calls Tryz.prog 36 #[.pointer (some ⟨g,0,none⟩),.agg (key.map cellOf).toArray,.int .i64 (M:Int),.slice A n c,.slice A' n' c'] w (RetSI w g s ta (n' + 16) (Tap.tape s ta (n' + 16)) (noteC key (M:Int) ad b (Tap.tape s ta (n' + 16)))):=by
 obtain ⟨kc,hkc⟩:=zx (key.map cellOf)
 have K32:kc.length=32:=by rw [hkc,List.length_map,h32]
 have IK:Hid ((Tryz.prog.info? 46).map (·.size)=some kc.length):=by unfold Hid; rw [K32]; kernel_rfl
 obtain ⟨kl,hK⟩:=zx (n' + 16)
 have eK:(n':Int) + 16=(kl:Int):=by omega
 rw [<- hK]
 obtain ⟨out,hout⟩:=zx (Tap.tape s ta kl)
 have CD:Hid (∀ W,Blk W g 66 [.int .i64 1,.int .i64 s,.int .i64 (ta:Int),.slice none 0 0]->Calls Tryz.prog 59 #[.pointer (some ⟨g,0,none⟩),.int .i64 (kl:Int)] W fun e w'=>∃ A c,e = .returned (.slice A kl c)/\Rd w' A kl c out/\Blk w' g 66 [.int .i64 1,.int .i64 s,.int .i64 ((ta + kl:Nat):Int),.slice none 0 0]/\W.grownBy w' (some g)):=fun W hW=>by
  rw [hout]
  exact rdrawn_any kl (by omega) (by omega) hW s1 s2 (by omega)
 rw [<- hout]
 obtain ⟨nc,hnc⟩:=zx (noteC key (M:Int) ad b out)
 have NC1:Hid (Tryz.prog.built 92 [(0,.int .i64 0),(1,.agg kc.toArray),(2,.int .i64 (M:Int)),(3,.string ⟨ad.toArray⟩),(4,.string ⟨b.toArray⟩),(5,.string ⟨out.toArray⟩)]=some nc.toArray):=by
  unfold Hid
  rw [hnc,hkc]
  exact noteCBuilt (by rw [<- hkc]; exact K32) _ _ _ _
 have NL:Hid (nc.length=37):=by unfold Hid; rw [hnc]; exact noteC_length h32 _ _ _ _
 have ON:Hid (∀ u ∈ nc,u.oneCell'=true):=by unfold Hid; rw [hnc]; exact noteC_one _ _ _ _ _
 have ROW:Hid (∀ W:World,(Instr.buildSlice 64 1 #[(0,.agg nc.toArray)]).run Tryz.prog W = .ok (.slice (some ⟨W.heap.size,0,none⟩) 1 1) (W.alloc (.cells nc.toArray 92))):=fun W=>by rw [hnc]; exact noteCRow h32 _ _ _ _ W
 rw [<- hnc,<- hkc]
 have hgl:=hb.lt
 have HRA:=qh hra
 have HRB:=qh hrb
 have HOA:=qh hoa
 have HOB:=qh hob
 have HBB:=qh hb
 have h0:¬ ((M:Int) < 0):=by omega
 have h3:¬ ((3000:Int) < (n':Int)):=by omega
 have hK16:16<=kl:=by omega
 clear hb hra hrb hoa hob hkc K32 hout hnc hK
 go_enter Tryz.func36,Tryz.ntmps36
 go_upto_region 1 with (fail)
 have X0:=qh (alloc_below w (.cells kc.toArray 46))
 have B0:=qh (Blk.new w 46 kc)
 generalize w.alloc (.cells kc.toArray 46)=w1 at *
 have BG:=qh (HBB.out.below X0.out hgl)
 have c0:w1.cell? ⟨g,0,none⟩=some (.int .i64 1):=BG.out.cell 0
 replace HRA:=qh (HRA.out.below X0.out)
 replace HRB:=qh (HRB.out.below X0.out)
 go_wp2_with fail
 refine (CD.out w1 BG.out).mono ?_
 rintro e w5 ⟨A5,c5,rfl,hR5,hB5,hO5⟩
 have D6:Hid (Blk w5 w.heap.size 46 kc):=(hO5.block _ B0.out.lt (fun e=>by injection e with e; omega)).trans B0.out
 have RA5:Hid (Rd w5 A n c ad):=HRA.out.grown hO5 (fun h0 x hx=>HOA.out x hx h0)
 have RB5:Hid (Rd w5 A' n' c' b):=HRB.out.grown hO5 (fun h0 x hx=>HOB.out x hx h0)
 have F5:Hid (Fr (fun x=>x=g) w w5):=(Fr.of_below X0.out).trans (Fr.of_only hO5 rfl)
 have RO5:=qh hR5
 have BG5:=qh hB5
 have HN5:Hid (∀ x:Addr,A5=some x->x.block ≠ g):=fun x hx he=>by
  obtain ⟨gb,off,e,hlt,hc⟩:=RO5.out.at_ (by omega)
  rw [hx] at e
  injection e with e
  subst e
  have h31:=hc 15 (by omega)
  simp only at he
  subst he
  rw [BG5.out.cell,List.getElem?_eq_none (by simp)] at h31
  cases h31
 clear c0 hR5 hB5 hO5 CD HRA HRB BG B0 X0 HOA HOB HBB
 go_upto_region 6 with (fail)
 refine wp_region_any (by kernel_rfl) ?_
 change wpAny _ _ _ _ _ _ _ (World.drew _)
 replace D6:=qh D6.out.drew
 replace RA5:=qh RA5.out.drew
 replace RB5:=qh RB5.out.drew
 replace RO5:=qh RO5.out.drew
 replace BG5:=qh BG5.out.drew
 replace F5:Hid (Fr (fun x=>x=g) w w5.drew):=⟨F5.out.os,F5.out.tape,F5.out.output,F5.out.size,F5.out.block⟩
 generalize w5.drew=w7 at *
 refine ztk 0 (.pointer (some ⟨g,0,none⟩)) ?_
 try simp only [zpt]
 refine ztk 1 (.pointer (some ⟨g,0,none⟩)) ?_
 try simp only [zpt]
 refine ztk 2 (.pointer (some ⟨g,0,none⟩)) ?_
 try simp only [zpt]
 refine ztk 3 (.pointer (some ⟨g,3,none⟩)) ?_
 try simp only [zpt]
 refine ztk 6 (.int .i64 (M:Int)) ?_
 try simp only [zpt]
 refine ztk 7 (.slice A n c) ?_
 try simp only [zpt]
 refine ztk 9 ((.slice A' n' c')) ?_
 try simp only [zpt]
 refine ztk 11 (.slice A5 kl c5) ?_
 try simp only [zpt]
 refine zph (fun i=>if i=13 then [5,8,10,12] else if i=14 then [13] else []) [4,5,8,10,12,13,14] (fun zT d a w'=>∃ x46 x47 x50 x52 x54 x55 x56:Value,a={ tmps:=(((((((zT.set 46 x46).set 47 x47).set 50 x50).set 52 x52).set 54 x54).set 55 x55).set 56 x56).toArray,defers:=[] }/\Hid (Below w7.heap.size w7 w')/\(d 4=true->x46 = .slice none 0 0)/\(d 5=true->x47 = .agg kc.toArray)/\(d 8=true->x50 = .string ⟨ad.toArray⟩)/\(d 10=true->x52 = .string ⟨b.toArray⟩)/\(d 12=true->x54 = .string ⟨out.toArray⟩)/\(d 13=true->x55 = .agg nc.toArray)/\(d 14=true->Hid (∃ gq,x56 = .slice (some ⟨gq,0,none⟩) 1 1/\w7.heap.size<=gq/\Blk w' gq 92 nc))) 4 7 ?step9 ?init9 ?fin9
 case init9=>refine ⟨_,_,_,_,_,_,_,rfl,Below.refl _ _,?_,?_,?_,?_,?_,?_,?_⟩ <;> (intro h; exact absurd h (by decide))
 case step9 =>
  intro i hi d a v9 hI hdi hdeps
  obtain ⟨x46,x47,x50,x52,x54,x55,x56,ha,BW,h4,h5,h8,h10,h12,h13,h14⟩:=hI
  simp only [zpt] at ha; subst ha
  have hsw:=BW.out.size
  simp only [List.mem_cons,List.not_mem_nil,or_false] at hi
  rcases hi with rfl | rfl | rfl | rfl | rfl | rfl | rfl
  ·have c0:v9.cell? ⟨g,3,none⟩=some (.slice none 0 0):=(BG5.out.below BW.out BG5.out.lt).cell 3
   refine zst fun K hK=>?_
   go_simp
   refine hK _ _ ?_; clear hK K; try simp only [zpt]
   exact ⟨_,_,_,_,_,_,_,rfl,BW,fun _=>rfl,zk h5,zk h8,zk h10,zk h12,zk h13,fun a=>by obtain ⟨gq,e,h1,h2⟩:=(h14 (by simpa using a)).out; exact ⟨gq,e,h1,h2⟩⟩
  ·refine zst fun K hK=>?_
   refine step_loadW rfl 46 (.tmp 6) rfl w.heap.size 0 rfl kc _ Tryz.underlying46 rfl IK.out (D6.out.below BW.out D6.out.lt).cells (hK _ _ ?_)
   clear hK K
   try simp only [zpt]
   exact ⟨_,_,_,_,_,_,_,rfl,BW,zk h4,fun _=>rfl,zk h8,zk h10,zk h12,zk h13,fun a=>by obtain ⟨gq,e,h1,h2⟩:=(h14 (by simpa using a)).out; exact ⟨gq,e,h1,h2⟩⟩
  ·have hcv:=conv_bytes (RA5.out.below BW.out)
   refine zst fun K hK=>?_
   go_simp
   refine hK _ _ ?_; clear hK K; try simp only [zpt]
   exact ⟨_,_,_,_,_,_,_,rfl,BW,zk h4,zk h5,fun _=>rfl,zk h10,zk h12,zk h13,fun a=>by obtain ⟨gq,e,h1,h2⟩:=(h14 (by simpa using a)).out; exact ⟨gq,e,h1,h2⟩⟩
  ·have hcv:=conv_bytes (RB5.out.below BW.out)
   refine zst fun K hK=>?_
   go_simp
   refine hK _ _ ?_; clear hK K; try simp only [zpt]
   exact ⟨_,_,_,_,_,_,_,rfl,BW,zk h4,zk h5,zk h8,fun _=>rfl,zk h12,zk h13,fun a=>by obtain ⟨gq,e,h1,h2⟩:=(h14 (by simpa using a)).out; exact ⟨gq,e,h1,h2⟩⟩
  ·have hcv:=conv_bytes (RO5.out.below BW.out)
   refine zst fun K hK=>?_
   go_simp
   refine hK _ _ ?_; clear hK K; try simp only [zpt]
   exact ⟨_,_,_,_,_,_,_,rfl,BW,zk h4,zk h5,zk h8,zk h10,fun _=>rfl,zk h13,fun a=>by obtain ⟨gq,e,h1,h2⟩:=(h14 (by simpa using a)).out; exact ⟨gq,e,h1,h2⟩⟩
  ·obtain rfl:=h5 (hdeps 5 (by simp))
   obtain rfl:=h8 (hdeps 8 (by simp))
   obtain rfl:=h10 (hdeps 10 (by simp))
   obtain rfl:=h12 (hdeps 12 (by simp))
   refine zst fun K hK=>?_
   refine step_build rfl 92 #[(0,.const (.int .i64 0)),(1,.tmp 47),(2,.tmp 48),(3,.tmp 50),(4,.tmp 52),(5,.tmp 54)] rfl nc (by simp only [List.map_toArray,List.map_cons,List.map_nil]; exact NC1.out) (hK _ _ ?_)
   clear hK K
   try simp only [zpt]
   exact ⟨_,_,_,_,_,_,_,rfl,BW,zk h4,zk h5,zk h8,zk h10,zk h12,fun _=>rfl,fun a=>by obtain ⟨gq,e,h1,h2⟩:=(h14 (by simpa using a)).out; exact ⟨gq,e,h1,h2⟩⟩
  ·obtain rfl:=h13 (hdeps 13 (by simp))
   have hX:=alloc_below v9 (.cells nc.toArray 92)
   refine zst fun K hK=>?_
   refine step_bslice rfl 64 1 #[(0,.tmp 55)] rfl (by simp only [List.map_toArray,List.map_cons,List.map_nil]; exact ROW.out _) (hK _ _ ?_)
   clear hK K
   try simp only [zpt]
   exact ⟨_,_,_,_,_,_,_,rfl,BW.out.trans (hX.mono hsw),zk h4,zk h5,zk h8,zk h10,zk h12,zk h13,fun _=>⟨_,rfl,hsw,Blk.at_new _ _ _ _ _ rfl rfl⟩⟩
 case fin9 =>
  intro a v9 hI
  obtain ⟨x46,x47,x50,x52,x54,x55,x56,ha,BW,h4,h5,h8,h10,h12,h13,h14⟩:=hI
  simp only [zpt] at ha; subst ha
  obtain rfl:=h4 (by decide)
  obtain rfl:=h5 (by decide)
  obtain rfl:=h8 (by decide)
  obtain rfl:=h10 (by decide)
  obtain rfl:=h12 (by decide)
  obtain rfl:=h13 (by decide)
  obtain ⟨gq,rfl,hgq1,hgq2⟩:=(h14 (by decide)).out
  have hsv:=BW.out.size
  have hwz:w.heap.size<=w7.heap.size:=F5.out.size
  have BG7:=qh (BG5.out.below BW.out BG5.out.lt)
  have RO7:=qh (RO5.out.below BW.out)
  have F7:Hid (Fr (fun x=>x=g) w v9):=F5.out.cut BW.out hwz
  obtain ⟨v8,w8,hap,hown8,hgr8,hlies⟩:=noteApp (World.ownsRow_nil v9 w.heap.size 92 37) 64 hgq2 NL.out ON.out (by omega) (by omega)
  clear BW D6 RA5 RB5 RO5 BG5 F5 hlies h14
  try dsimp only
  refine zrd 15 fun K hK=>?_
  refine step_append (t:=64) rfl (.tmp 46) (.tmp 56) rfl rfl rfl hap (hK _ _ ?_)
  clear hK K
  try simp only [zpt]
  have hs8:=hgr8.size
  have BG8:Hid (Blk w8 g 66 [.int .i64 1,.int .i64 s,.int .i64 ((ta + kl:Nat):Int),.slice none 0 0]):=(hgr8.block _ BG7.out.lt (fun e=>by cases e)).trans BG7.out
  have RO8:Hid (Rd w8 A5 kl c5 out):=RO7.out.keep hgr8.size fun bb off e h0 hlt=>hgr8.block bb hlt (fun e=>by cases e)
  have F8:Hid (Fr (fun x=>x=g) w w8):=F7.out.trans ⟨hgr8.os,hgr8.tape,hgr8.output,hgr8.size,fun i hi hn=>hgr8.block i hi (fun e=>by cases e)⟩
  have hap2:=blk_apart BG8.out hown8 (by decide)
  obtain ⟨gr,cp,rfl,hgr1,hgr2,hcell⟩:=one_note (by rw [List.nil_append]; exact NL.out) hown8
  rw [List.nil_append] at hcell
  have hgg:gr ≠ g:=fun e=>hap2 (by rw [e]; rfl)
  have HCL:=qh hcell
  have cg8:w8.cell? ⟨g,3,none⟩=some (.slice none 0 0):=BG8.out.cell 3
  have fg8:w8.frozen? ⟨g,3,none⟩=false:=BG8.out.frozen 3
  clear hap hown8 hgr8 BG7 F7 hap2 hcell RO7
  refine ztk 16 (.pointer (some ⟨g,0,none⟩)) ?_
  try simp only [zpt]
  refine ztk 17 (.pointer (some ⟨g,3,none⟩)) ?_
  try simp only [zpt]
  refine zrd 18 fun K hK=>?_
  go_simp
  refine hK _ _ ?_; clear hK K; try simp only [zpt]
  refine wpAny_done (by kernel_rfl) ?_ _
  have KG:Hid (Blk (w8.setCell ⟨g,3,none⟩ (.slice (some ⟨gr,0,none⟩) 1 cp)) g 66 [.int .i64 1,.int .i64 s,.int .i64 ((ta + kl:Nat):Int),.slice (some ⟨gr,0,none⟩) 1 cp]):=BG8.out.set_ 3 _
  have KC:Hid (∀ j x,nc[j]?=some x->(w8.setCell ⟨g,3,none⟩ (.slice (some ⟨gr,0,none⟩) 1 cp)).cell? ⟨gr,j,none⟩=some x):=fun j x hx=>(World.cell?_of_block (a:=⟨gr,j,none⟩) (Below.heap_setCell w8 ⟨g,3,none⟩ _ gr hgg)).trans (HCL.out j x hx)
  have KF:Hid (Fr (fun x=>x=g) w (w8.setCell ⟨g,3,none⟩ (.slice (some ⟨gr,0,none⟩) 1 cp))):=F8.out.trans ⟨rfl,rfl,rfl,by simp,fun i hi hn=>Below.heap_setCell w8 ⟨g,3,none⟩ _ i hn⟩
  have KR:Hid (Rd (w8.setCell ⟨g,3,none⟩ (.slice (some ⟨gr,0,none⟩) 1 cp)) A5 kl c5 out):=RO8.out.keep (by simp) (fun bb off e h0 hlt=>Below.heap_setCell w8 ⟨g,3,none⟩ _ bb (HN5.out _ e))
  have hgr3:gr < (w8.setCell ⟨g,3,none⟩ (.slice (some ⟨gr,0,none⟩) 1 cp)).heap.size:=by simpa using hgr2
  clear BG8 HCL F8 RO8 cg8 fg8
  generalize w8.setCell ⟨g,3,none⟩ (.slice (some ⟨gr,0,none⟩) 1 cp)=w9 at *
  go_wp2_with fail
  go_ret
  exact ⟨A5,c5,gr,cp,rfl,KR.out,KG.out,hgr1,hgr3,KC.out,KF.out⟩
theorem bopenI_any (key:List UInt8) (M:Nat) {w:World} {g gr cp:Nat} {s ta:Int} {A A':Option Addr} {n c n' c':Nat} {ad ad0 b0 out:List UInt8} (hb:Blk w g 66 [.int .i64 1,.int .i64 s,.int .i64 ta,.slice (some ⟨gr,0,none⟩) 1 cp]) (hgr:gr < w.heap.size) (hcell:∀ j x,(noteC key (M:Int) ad0 b0 out)[j]?=some x->w.cell? ⟨gr,j,none⟩=some x) (hM:M<=9223372036854775807) (h32:key.length=32) (hb0:b0.length<=1000000) (hra:Rd w A n c ad) (hrb:Rd w A' n' c' out) :
  Calls Tryz.prog 43 #[.pointer (some ⟨g,0,none⟩),.agg (key.map cellOf).toArray,.int .i64 (M:Int),.slice A n c,.slice A' n' c'] w (RetO w (if ad0=ad then b0 else []) (decide (ad0=ad))):=by
 obtain ⟨kc,hkc⟩:=zx (key.map cellOf)
 have K32:kc.length=32:=by rw [hkc,List.length_map,h32]
 have IK:Hid ((Tryz.prog.info? 46).map (·.size)=some kc.length):=by unfold Hid; rw [K32]; kernel_rfl
 have EE:Hid (∀ W,(Op.equalIn 10000 46 (.agg kc.toArray) (.agg kc.toArray)).run Tryz.prog W = .ok true W):=fun W=>by rw [hkc,equal30 key key h32 h32,sameB_self]
 obtain ⟨nc,hnc⟩:=zx (noteC key (M:Int) ad0 b0 out)
 have NL:Hid (nc.length=37):=by unfold Hid; rw [hnc]; exact noteC_length h32 _ _ _ _
 have IN:Hid ((Tryz.prog.info? 92).map (·.size)=some nc.length):=by unfold Hid; rw [NL.out]; exact infoNt
 have LZ:Hid (zeroNote.cells.length=nc.length):=by unfold Hid; rw [NL.out]; exact zeroNote_cells
 have ON:Hid (∀ u ∈ nc,u.oneCell'=true):=by unfold Hid; rw [hnc]; exact noteC_one _ _ _ _ _
 have KD:Hid (nc[0]?=some (.int .i64 0)):=by unfold Hid; rw [hnc]; rfl
 have KY:Hid (∀ j u,kc[j]?=some u->nc[1 + j]?=some u):=by unfold Hid; rw [hnc,hkc]; exact noteC_key h32 _ _ _ _
 obtain ⟨t33,t34,t35,t36⟩:=noteC_tail h32 (M:Int) ad0 b0 out
 rw [<- hnc] at t33 t34 t35 t36 hcell
 have T3:=qh t33
 have T4:=qh t34
 have T5:=qh t35
 have T6:=qh t36
 obtain ⟨res,hres⟩:=zx (if ad0=ad then b0 else [])
 obtain ⟨ok,hok⟩:=zx (decide (ad0=ad))
 have RY:Hid (ad0=ad->res=b0/\ok=true):=fun h=>⟨by rw [hres,if_pos h],by rw [hok,decide_eq_true h]⟩
 have RN:Hid (¬ ad0=ad->res=[]/\ok=false):=fun h=>⟨by rw [hres,if_neg h],by rw [hok,decide_eq_false h]⟩
 rw [<- hres,<- hok]
 clear hres hok
 rw [<- hkc]
 have hgl:=hb.lt
 have HRA:=qh hra
 have HRB:=qh hrb
 have HBB:=qh hb
 have HCL:=qh hcell
 have h0:¬ ((M:Int) < 0):=by omega
 clear hb hra hrb hcell hkc K32 hnc t33 t34 t35 t36
 go_enter Tryz.func43,Tryz.ntmps43
 go_upto_region 1 with (fail)
 have X0:=qh (alloc_below w (.cells kc.toArray 46))
 have B0:=qh (Blk.new w 46 kc)
 generalize w.alloc (.cells kc.toArray 46)=w1 at *
 have BG:=qh (HBB.out.below X0.out hgl)
 have c0:w1.cell? ⟨g,0,none⟩=some (.int .i64 1):=BG.out.cell 0
 have c3:w1.cell? ⟨g,3,none⟩=some (.slice (some ⟨gr,0,none⟩) 1 cp):=BG.out.cell 3
 replace HRA:=qh (HRA.out.below X0.out)
 replace HRB:=qh (HRB.out.below X0.out)
 have C1:Hid (∀ j x,nc[j]?=some x->w1.cell? ⟨gr,j,none⟩=some x):=fun j x hx=>(X0.out.cell (p:=⟨gr,j,none⟩) hgr).trans (HCL.out j x hx)
 clear HCL HBB
 go_wp2_with fail
 go_loopw [12] (fun iv wr=>∃ k:Nat,k<=1/\iv = .int .i64 ((k:Int) - 1)/\Hid (k=0->¬ ad0=ad)/\Hid (k=1->wr=w1)/\Hid (Below w.heap.size w wr)) (fun iv _=>(intOf iv + 1).toNat)
 case atStart=>exact ⟨1,by omega,rfl,fun h=>by omega,fun _=>rfl,X0.out⟩
 case round =>
  obtain ⟨k,hk,rfl,HNE,HW,HX⟩:=hrel
  rcases (show k=0 ∨ k=1 by omega) with rfl | rfl
  ·obtain ⟨rfl,rfl⟩:=RN.out (HNE.out rfl)
   rw [show ((0:Nat):Int) - 1=-1 from rfl]
   go_wp2_with fail
   go_ret2
   exact ⟨none,0,0,rfl,Rd.nil _ _ _ (by unfold maxLen; omega),HX.out⟩
  have hw:=HW.out rfl
  subst hw
  rw [show ((1:Nat):Int) - 1=0 from rfl]
  clear HW HX HNE
  have hix:=fun W=>index_note gr 0 1 cp 0 (by omega) W
  have HC:Hid (∀ j u,nc[j]?=some u->wr.cell? ⟨gr,0 + j,none⟩=some u):=fun j u hu=>by rw [Nat.zero_add]; exact C1.out j u hu
  have hix2:∀ W,(Instr.indexAt 64 (.slice (some ⟨gr,0,none⟩) 1 cp) (.int .i64 0)).run Tryz.prog W = .ok (.pointer (some ⟨gr,0,none⟩)) W:=hix
  clear hix
  go_upto_region 9 with (first
   | (with_reducible refine load_law rfl 92 (.tmp 44) rfl gr 0 rfl nc _ Tryz.underlying92 rfl IN.out HC.out ?_)
   | ((with_reducible refine storeGen_law rfl 92 (.tmp 13) (.tmp 45) rfl wr.heap.size rfl nc rfl 92 zeroNote.cells IN.out LZ.out ON.out wr.heap.size wr ?_ ?_ (Nat.le_refl _) ?_)
      ·exact Blk.at_new _ _ 92 _ _ (by rfl) rfl
      ·exact (Below.refl _ _).alloc (Nat.le_refl _) _
      intro w2 B11 X2))
  obtain ⟨q11,hq11⟩:=zx (wr.heap.size)
  rw [<- hq11] at B11
  rw [<- hq11]
  clear hq11
  have WX:Hid (Below w.heap.size w w2):=zt X0.out X2.out
  have C6:=qh (B0.out.below X2.out B0.out.lt)
  have RA2:=qh (HRA.out.below X2.out)
  have RB2:=qh (HRB.out.below X2.out)
  have hcv1:=conv_bytes RA2.out
  have hcv2:=conv_bytes RB2.out
  have ck:w2.cell? ⟨q11,0,none⟩=some (.int .i64 0):=by rw [B11.out.cell]; exact KD.out
  have c33:w2.cell? ⟨q11,33,none⟩=some (.int .i64 (M:Int)):=by rw [B11.out.cell]; exact T3.out
  have c34:w2.cell? ⟨q11,34,none⟩=some (.string ⟨ad0.toArray⟩):=by rw [B11.out.cell]; exact T4.out
  have c35:w2.cell? ⟨q11,35,none⟩=some (.string ⟨b0.toArray⟩):=by rw [B11.out.cell]; exact T5.out
  have c36:w2.cell? ⟨q11,36,none⟩=some (.string ⟨out.toArray⟩):=by rw [B11.out.cell]; exact T6.out
  have KYC:Hid (∀ j u,kc[j]?=some u->w2.cell? ⟨q11,1 + j,none⟩=some u):=fun j u hu=>by rw [B11.out.cell]; exact KY.out j u hu
  have hee:=EE.out
  clear HC X2 B11 C1 HRA HRB B0 X0 c0 c3 hix2
  by_cases e1:ad0=ad
  ·have hs1:(ad0 == ad)=true:=by simpa using e1
   have hs2:(out == out)=true:=by simp
   obtain ⟨cb,w3,hcv3,hR3,hX3⟩:=conv_str b0 hb0 w2
   have W3:=qt WX hX3
   have R3:=qh hR3
   clear hX3 hR3
   obtain ⟨rfl,rfl⟩:=RY.out e1
   clear e1
   go_wp2_with (first
    | (with_reducible refine load_wanted rfl 46 (.tmp 50) rfl q11 1 rfl kc _ Tryz.underlying46 rfl IK.out KYC.out ?_)
    | (with_reducible refine load_wanted rfl 46 (.tmp 6) rfl w.heap.size 0 rfl kc _ Tryz.underlying46 rfl IK.out C6.out.cells ?_))
   go_ret2
   exact ⟨_,_,_,rfl,R3.out,W3.out⟩
  ·have hs1:(ad0 == ad)=false:=by simpa using e1
   go_wp2_with (first
    | (with_reducible refine load_wanted rfl 46 (.tmp 50) rfl q11 1 rfl kc _ Tryz.underlying46 rfl IK.out KYC.out ?_)
    | (with_reducible refine load_wanted rfl 46 (.tmp 6) rfl w.heap.size 0 rfl kc _ Tryz.underlying46 rfl IK.out C6.out.cells ?_))
   go_roundw
   case rel=>exact ⟨0,by omega,by go_num,fun _=>e1,fun h=>by omega,WX⟩
   case measure=>simp [intOf]
open Go.RowKit
theorem rmr_any (r:Rc.R) (w:World):Calls Tryz.prog 12 #[recV r] w fun e w'=>e = .returned (.bool (Rc.may r))/\Below w.heap.size w w':=by
 obtain ⟨v,g,l⟩:=r
 have hsz:(⟨l.toArray⟩:ByteArray).size=l.length:=by show l.toArray.size=_; simp
 have hem:((⟨l.toArray⟩:ByteArray)=⟨#[]⟩)=(l=[]):=by simp
 obtain ⟨res,hres⟩:=zx (Rc.may ⟨v,g,l⟩)
 rw [<- hres]
 have HR:=qh hres
 have X0:=qh (alloc_below w (.cells (recL ⟨v,g,l⟩).toArray 23))
 have B0:=qh (Blk.new w 23 (recL ⟨v,g,l⟩))
 clear hres
 unfold recV
 go_enter Tryz.func12,Tryz.ntmps12
 go_upto_region 1 with (fail)
 generalize w.alloc (.cells (recL ⟨v,g,l⟩).toArray 23)=w1 at *
 have c0:w1.cell? ⟨w.heap.size,0,none⟩=some (.int .i64 v):=B0.out.cell 0
 have c1:w1.cell? ⟨w.heap.size,1,none⟩=some (.bool g):=B0.out.cell 1
 have c2:w1.cell? ⟨w.heap.size,2,none⟩=some (.string ⟨l.toArray⟩):=B0.out.cell 2
 by_cases h1:v < 1
 ·obtain rfl:res=false:=by rw [HR.out]; simp [Rc.may]; omega
  have d1:decide (1<=v)=false:=by simp; omega
  go_wp2_with fail
  go_ret
  exact ⟨rfl,X0.out⟩
 ·have d1:decide (1<=v)=true:=by simp; omega
  by_cases h2:1099511627776 < v
  ·obtain rfl:res=false:=by rw [HR.out]; simp [Rc.may]; omega
   have d2:decide (v<=1099511627776)=false:=by simp; omega
   go_wp2_with fail
   go_ret
   exact ⟨rfl,X0.out⟩
  ·have d2:decide (v<=1099511627776)=true:=by simp; omega
   by_cases h3:1000 < l.length
   ·obtain rfl:res=false:=by rw [HR.out]; simp [Rc.may]; omega
    have d3:decide ((l.length:Int)<=1000)=false:=by simp; omega
    go_wp2_with fail
    go_ret
    exact ⟨rfl,X0.out⟩
   ·have d3:decide ((l.length:Int)<=1000)=true:=by simp; omega
    cases g with
    | false =>
     obtain rfl:res=true:=by rw [HR.out]; simp [Rc.may]; omega
     go_wp2_with fail
     go_ret
     exact ⟨rfl,X0.out⟩
    | true =>
     by_cases h5:l=[]
     ·obtain rfl:res=true:=by rw [HR.out]; simp [Rc.may,h5]; omega
      subst h5
      go_wp2_with fail
      go_ret
      exact ⟨rfl,X0.out⟩
     ·obtain rfl:res=false:=by rw [HR.out]; simp [Rc.may,h5]
      have h6:l.isEmpty=false:=by simpa using h5
      go_wp2_with fail
      go_ret
      exact ⟨rfl,X0.out⟩
theorem cut_eq {l:List UInt8} {w:World} (n:Nat) (hm:l.length<=9223372036854775807) (hn:n<=2000) :
  Calls Tryz.prog 7 #[.string ⟨l.toArray⟩,.int .i64 n] w fun e w'=>e = .returned (.string ⟨(l.take n).toArray⟩)/\w=w':=by
 have hsz:(⟨l.toArray⟩:ByteArray).size=l.length:=by show l.toArray.size=_; simp
 have hex:(⟨l.toArray⟩:ByteArray).extract 0 n=⟨(l.take n).toArray⟩:=by
  apply ByteArray.ext
  simp [ByteArray.data_extract]
 by_cases h:n < l.length
 ·have h1:(n:Int) < (l.length:Int):=by omega
  go_enter Tryz.func7,Tryz.ntmps7
  go_wp2
  go_ret
  exact ⟨rfl,rfl⟩
 ·have h1:¬ (n:Int) < (l.length:Int):=by omega
  rw [List.take_of_length_le (by omega)]
  go_enter Tryz.func7,Tryz.ntmps7
  go_wp2
  go_ret
  exact ⟨rfl,rfl⟩
open Go.RowKit
theorem eight_take (v:Int) (j:Nat) (h:j < 8):(Rc.eight v).take (j + 1)=(Rc.eight v).take j ++ [UInt8.ofNat (v.toNat / 256 ^ (7 - j) % 256)]:=by
 rw [List.take_succ_eq_append_getElem (by rw [Rc.eight_length]; exact h)]
 simp [Rc.eight]
theorem eight_byte (n p:Nat):((n:Int) / 2 ^ (8 * p)) % 256=((UInt8.ofNat (n / 256 ^ p % 256)).toNat:Int):=by
 rw [UInt8.toNat_ofNat',show (256:Nat) ^ p=2 ^ (8 * p) by rw [Nat.pow_mul]]
 have:(2:Int) ^ (8 * p)=((2 ^ (8 * p):Nat):Int):=by simp
 rw [this]
 omega
theorem spush_law {ops:Array Oper} {rest:List Oper} {o:Oper} {a:Act} {Q:Exit->Act->World->Prop} {wr w0:World} {B:Nat} {v:Value} {l k:List UInt8} (hgd:o.guard=none) (s x:Operand)
  (ho:o.op = .call { callee:=.builtin .append,args:=#[s,x],argTypes:=#[24,9] }) (hs:a.eval s=v) (hx:a.eval x = .string ⟨k.toArray⟩) (hown:Ow wr B v l)
  (hlen:l.length + k.length<=140737488355328) (hB:B<=wr.heap.size) (hbel:Below B w0 wr)
  (h:∀ v' w',Hid (Ow w' B v' (l ++ k))->Hid (Below B w0 w')->wpList Tryz.prog ops Q rest (a.put o.dst v') w'):wpList Tryz.prog ops Q (o :: rest) a wr:=by
 obtain ⟨i0,hi,hz0,hz1,hz2⟩:=info_parts info5
 have hsz:(⟨k.toArray⟩:ByteArray).size=k.length:=by show k.toArray.size=_; simp
 refine Lib.wpList_append_own_string _ hgd s x 24 9 ho B 5 i0 Tryz.underlying24 Tryz.underlying9 hi hz0 hz1 hz2 v l.length (l.map cellOf) hs hown ⟨k.toArray⟩ hx (by unfold maxLen; omega) (by rw [hsz]; exact hlen) hB ?_
 intro v' w' h2 h3 _
 have e:Lib.strCells ⟨k.toArray⟩=k.map cellOf:=by show k.toArray.toList.map cellOf=_; simp
 rw [e,hsz] at h2
 refine h v' w' (by unfold Hid Ow; simpa using h2) ?_
 exact hbel.grown h3 hB fun k hk=>(World.ownsRow.lt hown k hk).1
theorem Ow.lower {w:World} {b b':Nat} {v:Value} {l:List UInt8} (h:Ow w b v l) (hb:b'<=b):Ow w b' v l :=
 ⟨h.1,h.2.imp id fun h=>by obtain ⟨g,cap,cur,e,h1,h2⟩:=h; exact ⟨g,cap,cur,e,Nat.le_trans hb h1,h2⟩⟩
theorem rpad_own {w:World} {A:Option Addr} {n c:Nat} {b:List UInt8} (hr:Rd w A n c b) (hlen:b.length<=2046) :
  Calls Tryz.prog 31 #[.slice A n c] w fun e w'=>∃ v,e = .returned (.tuple #[v,.int .i64 0])/\Ow w' w.heap.size v (Rc.pad b)/\Below w.heap.size w w':=by
 have HR:=qh hr
 have hl:=hr.len
 have hm:n<=9223372036854775807:=by have h1:=hr.cap; have h2:=hr.max; unfold maxLen at h2; omega
 have CS:=qh (rsize_any (n:Int) w (by omega) (by omega))
 clear hr
 obtain ⟨ul,hul⟩:=zx (Rc.pad b)
 rw [<- hul]
 obtain ⟨z,hz⟩:=zx (Rc.size (n:Int))
 rw [<- hz] at CS
 have h:n<=2046:=by omega
 have hz2:n + 2<=z/\z<=2048:=by rw [hz]; exact Rc.size_room h
 have hz0:¬ ((z:Int)=0):=by omega
 obtain ⟨x,hx⟩:=zx (UInt8.ofNat (n / 256))
 obtain ⟨y,hy⟩:=zx (UInt8.ofNat n)
 have ex:(n:Int) / 256=(x.toNat:Int):=by rw [hx,UInt8.toNat_ofNat']; omega
 have ex2:(n:Int).tdiv 256=(x.toNat:Int):=by rw [Int.tdiv_eq_ediv_of_nonneg (by omega)]; exact ex
 have ey:(n:Int) % 256=(y.toNat:Int):=by rw [hy,UInt8.toNat_ofNat']; omega
 have ey2:(n:Int).tmod 256=(y.toNat:Int):=by rw [Int.tmod_eq_emod_of_nonneg (by omega)]; exact ey
 have hx8:=x.toNat_lt
 have hy8:=y.toNat_lt
 have HP:Hid (ul=[x,y] ++ b ++ List.replicate (z - (2 + n)) 0):=by unfold Hid; rw [hul]; unfold Rc.pad Rc.two; rw [hl,<- hz,hx,hy]
 have HL:=qh hl
 clear hz hl hx hy hul
 go_enter Tryz.func31,Tryz.ntmps31
 go_wp2_with fail
 refine CS.out.mono ?_
 rintro e w1 ⟨rfl,hX⟩
 have X1:=qh hX
 have R1:=qh ((HR.out.below hX).below (alloc_below w1 (.cells #[.int .u8 (x.toNat:Int),.int .u8 (y.toNat:Int)] 5)))
 have O1:=qh (own_two w1 x y)
 clear hX HR
 go_upto_region 5 with (first | (at_builtin; refine onto_law rfl (.tmp 19) (.tmp 20) rfl rfl rfl R1.out O1.out (by simp; omega) (by simp) (alloc_below w1 _) ?_; intro v2 w2 O2 X2))
 obtain ⟨A2,c2,rfl,hr2,_⟩:=O2.out.value
 have e2:([x,y] ++ b).length=n + 2:=by simp [HL.out]
 have O2':=qh O2.out
 rw [e2] at O2'
 rw [e2]
 have hzn:(z:Int) - ((n:Int) + 2)=((z - (2 + n):Nat):Int):=by omega
 have LN:Hid (([x,y] ++ b).length + (z - (2 + n))<=1000000):=by unfold Hid; rw [e2]; omega
 have hs2:=X2.out.size
 clear hr2 O2 O1 R1 e2
 go_wp2_with (first | (at_builtin; refine zeros_law rfl (.tmp 22) (.tmp 26) rfl rfl rfl O2'.out LN.out hs2 X2.out ?_; intro v3 w3 O3 X3))
 rw [<- HP.out] at O3
 go_ret2
 exact ⟨v3,rfl,Ow.lower O3.out X1.out.size,zt X1.out X3.out⟩
theorem rrput_no (r:Rc.R) (w:World) (hm:Rc.may r=false):Calls Tryz.prog 10 #[recV r] w (RetE w [] 1):=by
 have CM:=qh (rmr_any r)
 rw [hm] at CM
 obtain ⟨L,hL⟩:=zx (recL r)
 have IR:Hid ((Tryz.prog.info? 23).map (·.size)=some L.length):=by unfold Hid; rw [hL]; kernel_rfl
 have CMM:Hid (∀ W:World,Calls Tryz.prog 12 #[.agg L.toArray] W fun e w'=>e = .returned (.bool false)/\Below W.heap.size W w'):=by unfold Hid; rw [hL]; exact CM.out
 unfold recV
 rw [<- hL]
 clear hL hm CM
 go_enter Tryz.func10,Tryz.ntmps10
 go_upto_region 1 with (fail)
 have X0:=qh (alloc_below w (.cells L.toArray 23))
 have B0:=qh (Blk.new w 23 L)
 generalize w.alloc (.cells L.toArray 23)=w1 at *
 go_wp2_with (with_reducible refine load_law rfl 23 (.tmp 1) rfl w.heap.size 0 rfl L _ Tryz.underlying23 rfl IR.out B0.out.cells ?_)
 refine (CMM.out w1).mono ?_
 rintro e w2 ⟨rfl,hX⟩
 have W2:=qt X0 hX
 clear hX
 go_wp2_with fail
 go_ret2
 exact ⟨none,0,0,rfl,Rd.nil _ _ _ (by unfold maxLen; omega),W2.out,fun x hx=>by cases hx⟩
theorem rrput_may (r:Rc.R) (w:World) (hm:Rc.may r=true):Calls Tryz.prog 10 #[recV r] w fun e w'=>∃ v,e = .returned (.tuple #[v,.int .i64 0])/\Ow w' w.heap.size v (Rc.put r)/\Below w.heap.size w w':=by
 have CM:=qh (rmr_any r)
 rw [hm] at CM
 obtain ⟨v,g,k⟩:=r
 have hv:1<=v/\v<=1099511627776/\k.length<=1000:=by
  simp [Rc.may] at hm
  exact ⟨hm.1.1.1,hm.1.1.2,hm.1.2⟩
 obtain ⟨N,rfl⟩:=Int.eq_ofNat_of_zero_le (show 0<=v by omega)
 obtain ⟨ev,hev⟩:=zx (Rc.eight (N:Int))
 have HEV:=qh hev
 have HPUT:Hid (Rc.put ⟨N,g,k⟩=Rc.pad (ev ++ [Rc.mark g] ++ k)):=by unfold Hid; rw [hev,Rc.put,Rc.within]; simp
 have HEL:Hid (ev.length=8):=by unfold Hid; rw [hev,Rc.eight_length]
 obtain ⟨L,hL⟩:=zx (recL ⟨N,g,k⟩)
 have HLC:Hid (L=[.int .i64 (N:Int),.bool g,.string ⟨k.toArray⟩]):=by unfold Hid; rw [hL]; rfl
 have IR:Hid ((Tryz.prog.info? 23).map (·.size)=some L.length):=by unfold Hid; rw [hL]; kernel_rfl
 have CMM:Hid (∀ W:World,Calls Tryz.prog 12 #[.agg L.toArray] W fun e w'=>e = .returned (.bool true)/\Below W.heap.size W w'):=by unfold Hid; rw [hL]; exact CM.out
 unfold recV
 rw [<- hL,HPUT.out]
 clear hL CM hev hm
 go_enter Tryz.func10,Tryz.ntmps10
 go_upto_region 1 with (fail)
 have X0:=qh (alloc_below w (.cells L.toArray 23))
 have B0:=qh (Blk.new w 23 L)
 generalize w.alloc (.cells L.toArray 23)=w1 at *
 go_wp2_with (with_reducible refine load_law rfl 23 (.tmp 1) rfl w.heap.size 0 rfl L _ Tryz.underlying23 rfl IR.out B0.out.cells ?_)
 refine (CMM.out w1).mono ?_
 rintro e w2 ⟨rfl,hX⟩
 have W2:=qt X0 hX
 have B2:=qh (B0.out.below hX B0.out.lt)
 have hs2:w.heap.size + 1<=w2.heap.size:=B2.out.lt
 clear hX X0 B0 CMM
 go_wp2_with fail
 go_loopw [4,5] (fun u i wr=>∃ q:Nat,q<=8/\i = .int .i64 ((q:Int) - 1)/\Hid (Ow wr (w.heap.size + 1) u (ev.take (8 - q)))/\Hid (Below (w.heap.size + 1) w2 wr)) (fun _ i _=>(intOf i + 1).toNat)
 case atStart=>exact ⟨8,by omega,rfl,Ow.empty _ _,Below.refl _ _⟩
 case round =>
  obtain ⟨q,hq,rfl,HO,HB⟩:=hrel
  have BR:=qh (B2.out.below HB.out (Nat.lt_succ_self _))
  have hsr:w.heap.size + 1<=wr.heap.size:=Nat.le_trans hs2 HB.out.size
  rcases Nat.eq_zero_or_pos q with h0 | h0
  ·subst h0
   have e0:((0:Nat):Int) - 1=-1:=rfl
   rw [e0]
   have O0:=HO.out
   rw [show ev.take (8 - 0)=ev from List.take_of_length_le (by rw [HEL.out]; omega)] at O0
   have O0:=qh O0
   have c1:wr.cell? ⟨w.heap.size,1,none⟩=some (.bool g):=by rw [BR.out.cell 1,HLC.out]; rfl
   clear HO
   cases g with
   | false =>
    go_upto_region 11 with (first | (at_builtin; refine push_law rfl (.tmp 28) (.tmp 29) rfl rfl rfl (0:UInt8) O0.out rfl (by rw [HEL.out]; omega) hsr HB.out ?_; intro v3 w3 O3 X3))
    have B3:=qh (B2.out.below X3.out (Nat.lt_succ_self _))
    have c2:w3.cell? ⟨w.heap.size,2,none⟩=some (.string ⟨k.toArray⟩):=by rw [B3.out.cell 2,HLC.out]; rfl
    have hs3:w.heap.size + 1<=w3.heap.size:=Nat.le_trans hs2 X3.out.size
    clear c1 BR HB O0 hsr
    go_wp2_with (first | (at_builtin; refine spush_law rfl (.tmp 31) (.tmp 33) rfl rfl rfl O3.out (by simp [HEL.out]; omega) hs3 X3.out ?_; intro v4 w4 O4 X4))
    obtain ⟨A4,c4,rfl,hR4,_⟩:=O4.out.value
    have W4:=qh (W2.out.trans (X4.out.mono (Nat.le_succ _)))
    refine (rpad_own hR4 (by simp [HEL.out]; omega)).mono ?_
    rintro e w5 ⟨v5,rfl,hO,hX⟩
    have O5:=qh (Ow.lower hO W4.out.size)
    have W5:=qt W4 hX
    clear hO hX hR4
    go_wp2_with fail
    go_ret2
    exact ⟨_,rfl,O5.out,W5.out⟩
   | true =>
    go_upto_region 11 with (first | (at_builtin; refine push_law rfl (.tmp 25) (.tmp 26) rfl rfl rfl (1:UInt8) O0.out rfl (by rw [HEL.out]; omega) hsr HB.out ?_; intro v3 w3 O3 X3))
    have B3:=qh (B2.out.below X3.out (Nat.lt_succ_self _))
    have c2:w3.cell? ⟨w.heap.size,2,none⟩=some (.string ⟨k.toArray⟩):=by rw [B3.out.cell 2,HLC.out]; rfl
    have hs3:w.heap.size + 1<=w3.heap.size:=Nat.le_trans hs2 X3.out.size
    clear c1 BR HB O0 hsr
    go_wp2_with (first | (at_builtin; refine spush_law rfl (.tmp 31) (.tmp 33) rfl rfl rfl O3.out (by simp [HEL.out]; omega) hs3 X3.out ?_; intro v4 w4 O4 X4))
    obtain ⟨A4,c4,rfl,hR4,_⟩:=O4.out.value
    have W4:=qh (W2.out.trans (X4.out.mono (Nat.le_succ _)))
    refine (rpad_own hR4 (by simp [HEL.out]; omega)).mono ?_
    rintro e w5 ⟨v5,rfl,hO,hX⟩
    have O5:=qh (Ow.lower hO W4.out.size)
    have W5:=qt W4 hX
    clear hO hX hR4
    go_wp2_with fail
    go_ret2
    exact ⟨_,rfl,O5.out,W5.out⟩
  ·obtain ⟨p,rfl⟩:∃ p,q=p + 1:=⟨q - 1,by omega⟩
   have e0:((p + 1:Nat):Int) - 1=(p:Int):=by omega
   rw [e0]
   have c0:wr.cell? ⟨w.heap.size,0,none⟩=some (.int .i64 (N:Int)):=by rw [BR.out.cell 0,HLC.out]; rfl
   obtain ⟨y,hy⟩:=zx (UInt8.ofNat (N / 256 ^ p % 256))
   have hb:(N:Int) / 2 ^ (8 * p) % 256=(y.toNat:Int):=by rw [hy]; exact eight_byte N p
   have HT:Hid (ev.take (8 - (p + 1)) ++ [y]=ev.take (8 - p)):=by
    unfold Hid
    rw [HEV.out,hy,show 8 - p=8 - (p + 1) + 1 by omega,eight_take _ _ (by omega),show 7 - (8 - (p + 1))=p by omega]
    rfl
   have HTL:Hid ((ev.take (8 - (p + 1))).length<=8):=by unfold Hid; rw [List.length_take,HEL.out]; omega
   clear hy e0
   go_wp2_with (first | (at_builtin; refine push_law rfl (.tmp 13) (.tmp 21) rfl rfl rfl y HO.out rfl (by have:=HTL.out; omega) hsr HB.out ?_; intro v3 w3 O3 X3))
   rw [HT.out] at O3
   go_roundw
   case rel=>exact ⟨p,by omega,rfl,O3,X3⟩
   case measure=>simp [intOf]
theorem rrput_any (r:Rc.R) (w:World):Calls Tryz.prog 10 #[recV r] w (RetE w (if Rc.may r then Rc.put r else []) (if Rc.may r then 0 else 1)):=by
 by_cases h:Rc.may r=true
 ·rw [if_pos h,if_pos h]
  refine (rrput_may r w h).mono ?_
  rintro e w' ⟨v,rfl,hO,hX⟩
  obtain ⟨A,c,rfl,hR,hg⟩:=hO.value
  exact ⟨A,_,c,rfl,hR,hX,fun x hx h0=>by obtain ⟨g',rfl,hg'⟩:=hg h0; injection hx with hx; subst hx; exact hg'⟩
 ·rw [if_neg h,if_neg h]
  exact rrput_no r w (by simpa using h)
open Go.RowKit
theorem both_real {P:BxP} (hB:BoxOk P) (s:Int) (w:World) (h1:-9223372036854775808<=s) (h2:s<=9223372036854775807):Calls Tryz.prog 15 #[.int .i64 0,.int .i64 s] w fun e w'=>∃ gx gy M,e = .returned (.tuple #[.pointer (some ⟨gx,0,none⟩),.pointer (some ⟨gy,0,none⟩)])/\P w' gx .real M/\Blk w' gy 66 [.int .i64 0,.int .i64 s,.int .i64 0,.slice none 0 0]/\(∀ b,M b->w.heap.size<=b/\b < gy)/\w.heap.size<=gy/\Below w.heap.size w w':=by
 have HB:=qh hB
 clear hB
 go_enter Tryz.func15,Tryz.ntmps15
 go_wp2_with fail
 refine (tnew_any s _ h1 h2).mono ?_
 rintro e w2 ⟨t1,rfl,ht1,hT,hX⟩
 have W1:=qh hX
 have T1:=qh hT
 have hsa:=hX.size
 clear hT hX
 go_wp2_with fail
 refine (HB.out.newR w2 _).mono ?_
 rintro e w3 ⟨gx,M,rfl,hM,hP,hX⟩
 have hs3:=hX.size
 replace W1:=qt W1 hX
 have MX:Hid (∀ b,M b->w.heap.size<=b):=fun b hb=>by have:=hM b hb; omega
 have PX:=qh hP
 have ML:Hid (∀ b,M b->b < w3.heap.size):=fun b hb=>HB.out.lt PX.out hb
 have hb:Below w3.heap.size w3 (w3.alloc (.cells #[.int .i64 0,.int .i64 s,.int .i64 0,.slice none 0 0] 66)):=alloc_below w3 _
 have P4:=qh (HB.out.below PX.out hb)
 have B4:Hid (Blk (w3.alloc (.cells #[.int .i64 0,.int .i64 s,.int .i64 0,.slice none 0 0] 66)) w3.heap.size 66 [.int .i64 0,.int .i64 s,.int .i64 0,.slice none 0 0]):=Blk.at_new _ _ _ _ _ rfl rfl
 have W4:=qt W1 hb
 clear hM hP hX T1 hb
 go_wp2_with fail
 go_ret2
 exact ⟨gx,w3.heap.size,M,rfl,P4.out,B4.out,fun b hb=>⟨MX.out b hb,ML.out b hb⟩,W1.out.size,W4.out⟩
theorem both_ideal {P:BxP} (hB:BoxOk P) (s:Int) (w:World) (h1:-9223372036854775808<=s) (h2:s<=9223372036854775807):Calls Tryz.prog 15 #[.int .i64 1,.int .i64 s] w fun e w'=>∃ gx gy M,e = .returned (.tuple #[.pointer (some ⟨gx,0,none⟩),.pointer (some ⟨gy,0,none⟩)])/\P w' gx (.ideal s 0 [] [] []) M/\Blk w' gy 66 [.int .i64 1,.int .i64 s,.int .i64 0,.slice none 0 0]/\(∀ b,M b->w.heap.size<=b/\b < gy)/\w.heap.size<=gy/\Below w.heap.size w w':=by
 have HB:=qh hB
 clear hB
 go_enter Tryz.func15,Tryz.ntmps15
 go_wp2_with fail
 refine (tnew_any s _ h1 h2).mono ?_
 rintro e w2 ⟨t1,rfl,ht1,hT,hX⟩
 have W1:=qh hX
 have T1:=qh hT
 have hsa:=hX.size
 clear hT hX
 go_wp2_with fail
 refine (HB.out.newI T1.out).mono ?_
 rintro e w3 ⟨gx,M,rfl,hM,hP,hX⟩
 have hs3:=hX.size
 replace W1:=qt W1 hX
 have MX:Hid (∀ b,M b->w.heap.size<=b):=fun b hb=>by rcases hM b hb with h | h <;> omega
 have PX:=qh hP
 have ML:Hid (∀ b,M b->b < w3.heap.size):=fun b hb=>HB.out.lt PX.out hb
 have hb:Below w3.heap.size w3 (w3.alloc (.cells #[.int .i64 1,.int .i64 s,.int .i64 0,.slice none 0 0] 66)):=alloc_below w3 _
 have P4:=qh (HB.out.below PX.out hb)
 have B4:Hid (Blk (w3.alloc (.cells #[.int .i64 1,.int .i64 s,.int .i64 0,.slice none 0 0] 66)) w3.heap.size 66 [.int .i64 1,.int .i64 s,.int .i64 0,.slice none 0 0]):=Blk.at_new _ _ _ _ _ rfl rfl
 have W4:=qt W1 hb
 clear hM hP hX T1 hb
 go_wp2_with fail
 go_ret2
 exact ⟨gx,w3.heap.size,M,rfl,P4.out,B4.out,fun b hb=>⟨MX.out b hb,ML.out b hb⟩,W1.out.size,W4.out⟩
def Rc.sumOf (ep no:Int) (bx:List UInt8):List UInt8:=Sha.sum (Num.enc (Num.zig ep) ++ Num.enc (Num.zig no) ++ bx)
theorem Ow.below {w w':World} {b:Nat} {v:Value} {l:List UInt8} (h:Ow w b v l) (hk:Below w.heap.size w w'):Ow w' b v l:=h.keep hk
theorem step_spush {ops:Array Oper} {o:Oper} {a:Act} {K:Act->World->Prop} {Q:Exit->Act->World->Prop} {E:Prop} {wr w0:World} {B:Nat} {v:Value} {l k:List UInt8} (hgd:Region.wanted o (yielded ops a.tmps)=true) (s x:Operand)
  (ho:o.op = .call { callee:=.builtin .append,args:=#[s,x],argTypes:=#[24,9] }) (hs:a.eval s=v) (hx:a.eval x = .string ⟨k.toArray⟩) (hown:Ow wr B v l)
  (hlen:l.length + k.length<=140737488355328) (hB:B<=wr.heap.size) (hbel:Below B w0 wr)
  (h:∀ v' w',Hid (Ow w' B v' (l ++ k))->Hid (Below B w0 w')->K (a.put o.dst v') w'):if Region.wanted o (yielded ops a.tmps)=true then o.wp Tryz.prog a wr K Q else E:=by
 obtain ⟨i0,hi,hz0,hz1,hz2⟩:=info_parts info5
 have hsz:(⟨k.toArray⟩:ByteArray).size=k.length:=by show k.toArray.size=_; simp
 obtain ⟨v',w',hrun,h2,h3,_⟩:=Lib.run_append_own_string (P:=Tryz.prog) wr B 24 9 o.type 5 i0 Tryz.underlying24 Tryz.underlying9 hi hz0 hz1 hz2 v l.length (l.map cellOf) hown ⟨k.toArray⟩ (by unfold maxLen; omega) (by rw [hsz]; exact hlen) hB
 have e:Lib.strCells ⟨k.toArray⟩=k.map cellOf:=by show k.toArray.toList.map cellOf=_; simp
 rw [e,hsz] at h2
 rw [if_pos hgd]
 unfold Oper.wp execOp
 simp only [ho,resolve,invoke,builtin,Sem.run_bind,Sem.run_pure,Result.andThen_ok,List.map_toArray,List.map_cons,List.map_nil,hs,hx,hrun]
 exact h v' w' (by unfold Hid Ow; simpa using h2) (hbel.grown h3 hB fun k hk=>(World.ownsRow.lt hown k hk).1)
theorem recsum_any {w:World} (ep no:Int) (bx:List UInt8) (hg:Gl w) (e1:-9223372036854775808<=ep) (e2:ep<=9223372036854775807) (n1:-9223372036854775808<=no) (n2:no<=9223372036854775807) (hbx:bx.length<=4000):Calls Tryz.prog 18 #[envV ep no bx] w (RetH w (Rc.sumOf ep no bx)):=by
 obtain ⟨le,hle⟩:=zx (Num.enc (Num.zig ep):List UInt8)
 obtain ⟨ln,hln⟩:=zx (Num.enc (Num.zig no):List UInt8)
 obtain ⟨me,hme⟩:∃ m,le.length=m:=⟨_,rfl⟩
 obtain ⟨mn,hmn⟩:∃ m,ln.length=m:=⟨_,rfl⟩
 have hme0:0 < me/\me<=10:=by have:=Num.enc_len10 (Num.zig_lt ep e1 e2); have:=Num.enc_pos (Num.zig ep); rw [<- hme,hle]; omega
 have hmn0:0 < mn/\mn<=10:=by have:=Num.enc_len10 (Num.zig_lt no n1 n2); have:=Num.enc_pos (Num.zig no); rw [<- hmn,hln]; omega
 have LME:=qh hme
 have LMN:=qh hmn
 obtain ⟨D,hD⟩:=zx ((Rc.sumOf ep no bx).map cellOf)
 have hDl:D.length=32:=by rw [hD,List.length_map,Rc.sumOf,Sha.sum_length]
 have ID:Hid ((Tryz.prog.info? 46).map (·.size)=some D.length):=by unfold Hid; rw [hDl]; kernel_rfl
 have LD:Hid ((List.replicate 32 (Value.int .u8 0)).length=D.length):=by unfold Hid; rw [hDl]; rfl
 have OD:Hid (∀ v ∈ D,v.oneCell'=true):=by unfold Hid; rw [hD]; exact cells_u8 _
 have CPE:Hid (∀ W:World,Calls Tryz.prog 40 #[.slice none 0 0,.int .i64 ep] W fun e w'=>∃ v',e = .returned v'/\Ow w' W.heap.size v' le/\Below W.heap.size W w'):=fun W=>by rw [hle]; exact put_any ep e1 e2 (Rd.nil _ _ _ (by unfold maxLen; omega)) (by omega)
 have CPN:Hid (∀ W:World,Calls Tryz.prog 40 #[.slice none 0 0,.int .i64 no] W fun e w'=>∃ v',e = .returned v'/\Ow w' W.heap.size v' ln/\Below W.heap.size W w'):=fun W=>by rw [hln]; exact put_any no n1 n2 (Rd.nil _ _ _ (by unfold maxLen; omega)) (by omega)
 have CS:Hid (∀ (W:World) (AX:Option Addr) (c:Nat),Gl W->RdP W AX 3 [le,ln,bx]->Calls Tryz.prog 39 #[.slice AX 3 c] W fun e w'=>e = .returned (.agg D.toArray)/\Below W.heap.size W w'):=fun W AX c h1 h2=>by
  refine (shaSum_any (c:=c) h1 h2 (by omega) (by simp; omega)).mono ?_
  rintro e w' ⟨D',rfl,hS,hX⟩
  have e1:D'=D:=by rw [hS,hD,Rc.sumOf,<- hle,<- hln]; simp
  rw [e1]
  exact ⟨rfl,hX⟩
 have HG:=qh hg
 have hsz:=hg.size
 clear hg
 unfold RetH envV envL
 rw [<- hD]
 clear hle hln hme hmn hD hDl
 go_enter Tryz.func18,Tryz.ntmps18
 go_upto_region 1 with (fail)
 obtain ⟨w1,hw1⟩:=zx ((w.alloc (Obj.cells #[.int .i64 ep,.int .i64 no,.string ⟨bx.toArray⟩] 42)).alloc (Obj.cells (List.replicate 32 (Value.int .u8 0)).toArray 46))
 have E1:Hid (Blk w1 w.heap.size 42 [.int .i64 ep,.int .i64 no,.string ⟨bx.toArray⟩]):=by unfold Hid; rw [hw1]; exact (Blk.new w _ _).alloc _
 have Z1:Hid (Blk w1 (w.heap.size + 1) 46 (List.replicate 32 (Value.int .u8 0))):=by unfold Hid; rw [hw1]; exact Blk.at_new _ _ _ _ _ rfl (by simp)
 have W1:Hid (Below w.heap.size w w1):=by unfold Hid; rw [hw1]; exact ((Below.refl _ _).alloc (Nat.le_refl _) _).alloc (by simp) _
 change Code.wp _ _ _ _ ((w.alloc (Obj.cells #[.int .i64 ep,.int .i64 no,.string ⟨bx.toArray⟩] 42)).alloc (Obj.cells (List.replicate 32 (Value.int .u8 0)).toArray 46))
 rw [<- hw1]
 clear hw1
 refine wp_region_any (by kernel_rfl) ?_
 change wpAny _ _ _ _ _ _ _ (World.drew _)
 replace E1:=qh E1.out.drew
 replace Z1:=qh Z1.out.drew
 replace W1:=qh W1.out.drew
 generalize w1.drew=w3 at *
 refine ztk 0 (.pointer (some ⟨w.heap.size,0,none⟩)) ?_
 try simp only [zpt]
 refine ztk 3 (.pointer (some ⟨w.heap.size,1,none⟩)) ?_
 try simp only [zpt]
 refine ztk 6 (.pointer (some ⟨w.heap.size,2,none⟩)) ?_
 try simp only [zpt]
 refine zph (fun i=>if i=2 then [1] else if i=5 then [4,2] else if i=8 then [7] else []) [1,2,4,5,7,8] (fun zT d a w'=>∃ x4 x5 x7 x8 x10 x11:Value,a={ tmps:=((((((zT.set 4 x4).set 5 x5).set 7 x7).set 8 x8).set 10 x10).set 11 x11).toArray,defers:=[] }/\Hid (Below w3.heap.size w3 w')/\(d 1=true->x4 = .int .i64 ep)/\(d 2=true->Hid (Nw w' w3.heap.size x5 le))/\(d 4=true->x7 = .int .i64 no)/\(d 5=true->Hid (Nw w' w3.heap.size x8 ln))/\(d 7=true->x10 = .string ⟨bx.toArray⟩)/\(d 8=true->Hid (Nw w' w3.heap.size x11 bx))) 3 6 ?step4 ?init4 ?fin4
 case init4=>refine ⟨_,_,_,_,_,_,rfl,Below.refl _ _,?_,?_,?_,?_,?_,?_⟩ <;> (intro h; exact absurd h (by decide))
 case step4 =>
  intro i hi d a v4 hI hdi hdeps
  obtain ⟨x4,x5,x7,x8,x10,x11,ha,BW,h1,h2,h4,h5,h7,h8⟩:=hI
  simp only [zpt] at ha; subst ha
  have hsw:=BW.out.size
  simp only [List.mem_cons,List.not_mem_nil,or_false] at hi
  rcases hi with rfl | rfl | rfl | rfl | rfl | rfl
  ·have c0:v4.cell? ⟨w.heap.size,0,none⟩=some (.int .i64 ep):=(E1.out.below BW.out E1.out.lt).cell 0
   refine zst fun K hK=>?_
   go_simp
   refine hK _ _ ?_; clear hK K; try simp only [zpt]
   exact ⟨_,_,_,_,_,_,rfl,BW,fun _=>rfl,zk h2,zk h4,zk h5,zk h7,zk h8⟩
  ·obtain rfl:=h1 (hdeps 1 (by simp))
   refine zst fun K hK=>?_
   go_simp
   refine (CPE.out v4).mono ?_
   rintro e u4 ⟨vq,rfl,hO,hX⟩
   refine hK _ _ ?_; clear hK K; try simp only [zpt]
   exact ⟨_,_,_,_,_,_,rfl,BW.out.trans (hX.mono hsw),zk h1,fun _=>Nw.ofOw hO hsw,zk h4,fun a=>(h5 (by simpa using a)).out.below hX,zk h7,fun a=>(h8 (by simpa using a)).out.below hX⟩
  ·have c0:v4.cell? ⟨w.heap.size,1,none⟩=some (.int .i64 no):=(E1.out.below BW.out E1.out.lt).cell 1
   refine zst fun K hK=>?_
   go_simp
   refine hK _ _ ?_; clear hK K; try simp only [zpt]
   exact ⟨_,_,_,_,_,_,rfl,BW,zk h1,zk h2,fun _=>rfl,zk h5,zk h7,zk h8⟩
  ·obtain rfl:=h4 (hdeps 4 (by simp))
   refine zst fun K hK=>?_
   go_simp
   refine (CPN.out v4).mono ?_
   rintro e u4 ⟨vq,rfl,hO,hX⟩
   refine hK _ _ ?_; clear hK K; try simp only [zpt]
   exact ⟨_,_,_,_,_,_,rfl,BW.out.trans (hX.mono hsw),zk h1,fun a=>(h2 (by simpa using a)).out.below hX,zk h4,fun _=>Nw.ofOw hO hsw,zk h7,fun a=>(h8 (by simpa using a)).out.below hX⟩
  ·have c0:v4.cell? ⟨w.heap.size,2,none⟩=some (.string ⟨bx.toArray⟩):=(E1.out.below BW.out E1.out.lt).cell 2
   refine zst fun K hK=>?_
   go_simp
   refine hK _ _ ?_; clear hK K; try simp only [zpt]
   exact ⟨_,_,_,_,_,_,rfl,BW,zk h1,zk h2,zk h4,zk h5,fun _=>rfl,zk h8⟩
  ·obtain rfl:=h7 (hdeps 7 (by simp))
   obtain ⟨cS,u4,hcv,hR,hX⟩:=conv_str bx (by omega) v4
   refine zst fun K hK=>?_
   go_simp
   refine hK _ _ ?_; clear hK K; try simp only [zpt]
   exact ⟨_,_,_,_,_,_,rfl,BW.out.trans (hX.mono hsw),zk h1,fun a=>(h2 (by simpa using a)).out.below hX,zk h4,fun a=>(h5 (by simpa using a)).out.below hX,zk h7,fun _=>Nw.of hR (fun y hy _=>by injection hy with hy; subst hy; exact Nat.le_refl _) hsw⟩
 case fin4 =>
  intro a v4 hI
  obtain ⟨x4,x5,x7,x8,x10,x11,ha,BW,h1,h2,h4,h5,h7,h8⟩:=hI
  simp only [zpt] at ha; subst ha
  obtain rfl:=h1 (by decide)
  obtain rfl:=h4 (by decide)
  obtain rfl:=h7 (by decide)
  obtain ⟨A1,c1,rfl,hR1,_⟩:=(h2 (by decide)).out.rd LME.out
  obtain ⟨A2,c2,rfl,hR2,_⟩:=(h5 (by decide)).out.rd LMN.out
  obtain ⟨A4,c4,rfl,hR4,_⟩:=(h8 (by decide)).out.rd rfl
  have RP:=qh (lit_parts3' v4 hR1 hR2 hR4 rfl)
  have XP:=qh (alloc_below v4 (.cells #[.slice A1 me c1,.slice A2 mn c2,.slice A4 bx.length c4] 24))
  have W4:=qt W1 BW.out
  have Z4:=qh (Z1.out.below BW.out Z1.out.lt)
  clear h2 h5 h8 hR1 hR2 hR4 BW E1 Z1 W1 CPE CPN
  try dsimp only
  refine zrd 9 fun K hK=>?_
  go_simp
  refine hK _ _ ?_; clear hK K; try simp only [zpt]
  generalize v4.alloc (.cells #[.slice A1 me c1,.slice A2 mn c2,.slice A4 bx.length c4] 24)=w5 at *
  replace W4:=qt W4 XP.out
  replace Z4:=qh (Z4.out.below XP.out Z4.out.lt)
  clear XP
  refine zrd 10 fun K hK=>?_
  go_simp
  refine (CS.out w5 _ 3 (HG.out.below W4.out hsz) RP.out).mono ?_
  rintro e w6 ⟨rfl,hX⟩
  replace W4:=qt W4 hX
  replace Z4:=qh (Z4.out.below hX Z4.out.lt)
  clear hX RP CS
  refine hK _ _ ?_; clear hK K; try simp only [zpt]
  refine zrd 11 fun K hK=>?_
  refine step_storeAll rfl 46 (.tmp 2) (.tmp 13) rfl (w.heap.size + 1) rfl D rfl 46 (List.replicate 32 (Value.int .u8 0)) Z4.out ID.out LD.out OD.out (hK _ _ ?_)
  clear hK K
  try simp only [zpt]
  have B10:Hid (Blk (w6.setRow (w.heap.size + 1) D.toArray) (w.heap.size + 1) 46 D):=Z4.out.row
  have W10:=qh (below_setRow W4.out (show w.heap.size<=w.heap.size + 1 by omega) D.toArray)
  refine wpAny_done (by kernel_rfl) ?_ _
  generalize w6.setRow (w.heap.size + 1) D.toArray=w9 at *
  go_wp2_with fail
  exact bodyPost_ret (results_cell_row rfl _ _ (w.heap.size + 1) 46 D.toArray (0,0) _ rfl B10.out Tryz.underlying46 rfl (by rw [ID.out]; simp)) rfl ⟨rfl,W10.out⟩
theorem rrecsum_any {w:World} (ep no:Int) (bx:List UInt8) (e1:-9223372036854775808<=ep) (e2:ep<=9223372036854775807) (n1:-9223372036854775808<=no) (n2:no<=9223372036854775807) (hbx:bx.length<=4000):Calls Tryz.prog 19 #[envV ep no bx] w (RetH w (Rc.sumOf ep no bx)):=by
 obtain ⟨le,hle⟩:=zx (Num.enc (Num.zig ep):List UInt8)
 obtain ⟨ln,hln⟩:=zx (Num.enc (Num.zig no):List UInt8)
 obtain ⟨me,hme⟩:∃ m,le.length=m:=⟨_,rfl⟩
 obtain ⟨mn,hmn⟩:∃ m,ln.length=m:=⟨_,rfl⟩
 have hme0:0 < me/\me<=10:=by have:=Num.enc_len10 (Num.zig_lt ep e1 e2); have:=Num.enc_pos (Num.zig ep); rw [<- hme,hle]; omega
 have hmn0:0 < mn/\mn<=10:=by have:=Num.enc_len10 (Num.zig_lt no n1 n2); have:=Num.enc_pos (Num.zig no); rw [<- hmn,hln]; omega
 have LME:=qh hme
 have LMN:=qh hmn
 obtain ⟨D,hD⟩:=zx ((Rc.sumOf ep no bx).map cellOf)
 have hDl:D.length=32:=by rw [hD,List.length_map,Rc.sumOf,Sha.sum_length]
 have ID:Hid ((Tryz.prog.info? 46).map (·.size)=some D.length):=by unfold Hid; rw [hDl]; kernel_rfl
 have LD:Hid ((List.replicate 32 (Value.int .u8 0)).length=D.length):=by unfold Hid; rw [hDl]; rfl
 have OD:Hid (∀ v ∈ D,v.oneCell'=true):=by unfold Hid; rw [hD]; exact cells_u8 _
 have CPE:Hid (∀ W:World,Calls Tryz.prog 38 #[.int .i64 ep] W fun e w'=>∃ v',e = .returned v'/\Ow w' W.heap.size v' le/\Below W.heap.size W w'):=fun W=>by rw [hle]; exact rput_any ep W e1 e2
 have CPN:Hid (∀ W:World,Calls Tryz.prog 38 #[.int .i64 no] W fun e w'=>∃ v',e = .returned v'/\Ow w' W.heap.size v' ln/\Below W.heap.size W w'):=fun W=>by rw [hln]; exact rput_any no W n1 n2
 have CS:Hid (∀ (W:World) (AX:Option Addr) (n c:Nat),Rd W AX n c (le ++ ln ++ bx)->n<=1000000000->Calls Tryz.prog 41 #[.slice AX n c] W fun e w'=>e = .returned (.agg D.toArray)/\Below W.heap.size W w'):=fun W AX n c h1 h2=>by
  refine (rsum_any h1 h2).mono ?_
  rintro e w' ⟨D',rfl,hS,hX⟩
  have e1:D'=D:=by rw [hS,hD,Rc.sumOf,<- hle,<- hln]
  rw [e1]
  exact ⟨rfl,hX⟩
 unfold RetH envV envL
 rw [<- hD]
 clear hle hln hme hmn hD hDl
 go_enter Tryz.func19,Tryz.ntmps19
 go_upto_region 1 with (fail)
 obtain ⟨w1,hw1⟩:=zx ((w.alloc (Obj.cells #[.int .i64 ep,.int .i64 no,.string ⟨bx.toArray⟩] 42)).alloc (Obj.cells (List.replicate 32 (Value.int .u8 0)).toArray 46))
 have E1:Hid (Blk w1 w.heap.size 42 [.int .i64 ep,.int .i64 no,.string ⟨bx.toArray⟩]):=by unfold Hid; rw [hw1]; exact (Blk.new w _ _).alloc _
 have Z1:Hid (Blk w1 (w.heap.size + 1) 46 (List.replicate 32 (Value.int .u8 0))):=by unfold Hid; rw [hw1]; exact Blk.at_new _ _ _ _ _ rfl (by simp)
 have W1:Hid (Below w.heap.size w w1):=by unfold Hid; rw [hw1]; exact ((Below.refl _ _).alloc (Nat.le_refl _) _).alloc (by simp) _
 change Code.wp _ _ _ _ ((w.alloc (Obj.cells #[.int .i64 ep,.int .i64 no,.string ⟨bx.toArray⟩] 42)).alloc (Obj.cells (List.replicate 32 (Value.int .u8 0)).toArray 46))
 rw [<- hw1]
 clear hw1
 refine wp_region_any (by kernel_rfl) ?_
 change wpAny _ _ _ _ _ _ _ (World.drew _)
 replace E1:=qh E1.out.drew
 replace Z1:=qh Z1.out.drew
 replace W1:=qh W1.out.drew
 generalize w1.drew=w3 at *
 refine ztk 0 (.pointer (some ⟨w.heap.size,0,none⟩)) ?_
 try simp only [zpt]
 refine ztk 3 (.pointer (some ⟨w.heap.size,1,none⟩)) ?_
 try simp only [zpt]
 refine ztk 7 (.pointer (some ⟨w.heap.size,2,none⟩)) ?_
 try simp only [zpt]
 refine zph (fun i=>if i=2 then [1] else if i=5 then [4,2] else if i=6 then [2,5] else []) [1,2,4,5,6,8] (fun zT d a w'=>∃ x4 x5 x7 x8 x9 x11:Value,a={ tmps:=((((((zT.set 4 x4).set 5 x5).set 7 x7).set 8 x8).set 9 x9).set 11 x11).toArray,defers:=[] }/\Hid (Below w3.heap.size w3 w')/\(d 1=true->x4 = .int .i64 ep)/\(d 2=true->Hid (d 6=false->Ow w' w3.heap.size x5 le))/\(d 4=true->x7 = .int .i64 no)/\(d 5=true->Hid (d 6=false->Nw w' w3.heap.size x8 ln))/\(d 6=true->Hid (Ow w' w3.heap.size x9 (le ++ ln)))/\(d 8=true->x11 = .string ⟨bx.toArray⟩)) 3 6 ?step17 ?init17 ?fin17
 case init17=>refine ⟨_,_,_,_,_,_,rfl,Below.refl _ _,?_,?_,?_,?_,?_,?_⟩ <;> (intro h; exact absurd h (by decide))
 case step17 =>
  intro i hi d a v17 hI hdi hdeps
  obtain ⟨x4,x5,x7,x8,x9,x11,ha,BW,h1,h2,h4,h5,h6,h8⟩:=hI
  simp only [zpt] at ha; subst ha
  have hsw:=BW.out.size
  simp only [List.mem_cons,List.not_mem_nil,or_false] at hi
  rcases hi with rfl | rfl | rfl | rfl | rfl | rfl
  ·have c0:v17.cell? ⟨w.heap.size,0,none⟩=some (.int .i64 ep):=(E1.out.below BW.out E1.out.lt).cell 0
   refine zst fun K hK=>?_
   go_simp
   refine hK _ _ ?_; clear hK K; try simp only [zpt]
   exact ⟨_,_,_,_,_,_,rfl,BW,fun _=>rfl,fun a h=>(h2 (by simpa using a)).out (by simpa using h),zk h4,fun a h=>(h5 (by simpa using a)).out (by simpa using h),zk h6,zk h8⟩
  ·obtain rfl:=h1 (hdeps 1 (by simp))
   refine zst fun K hK=>?_
   go_simp
   refine (CPE.out v17).mono ?_
   rintro e u17 ⟨vq,rfl,hO,hX⟩
   refine hK _ _ ?_; clear hK K; try simp only [zpt]
   exact ⟨_,_,_,_,_,_,rfl,BW.out.trans (hX.mono hsw),zk h1,fun _ _=>Ow.lower hO hsw,zk h4,fun a h=>((h5 (by simpa using a)).out (by simpa using h)).below hX,fun a=>(h6 (by simpa using a)).out.below hX,zk h8⟩
  ·have c0:v17.cell? ⟨w.heap.size,1,none⟩=some (.int .i64 no):=(E1.out.below BW.out E1.out.lt).cell 1
   refine zst fun K hK=>?_
   go_simp
   refine hK _ _ ?_; clear hK K; try simp only [zpt]
   exact ⟨_,_,_,_,_,_,rfl,BW,zk h1,fun a h=>(h2 (by simpa using a)).out (by simpa using h),fun _=>rfl,fun a h=>(h5 (by simpa using a)).out (by simpa using h),zk h6,zk h8⟩
  ·obtain rfl:=h4 (hdeps 4 (by simp))
   refine zst fun K hK=>?_
   go_simp
   refine (CPN.out v17).mono ?_
   rintro e u17 ⟨vq,rfl,hO,hX⟩
   refine hK _ _ ?_; clear hK K; try simp only [zpt]
   exact ⟨_,_,_,_,_,_,rfl,BW.out.trans (hX.mono hsw),zk h1,fun a h=>((h2 (by simpa using a)).out (by simpa using h)).below hX,zk h4,fun _ _=>Nw.ofOw hO hsw,fun a=>(h6 (by simpa using a)).out.below hX,zk h8⟩
  ·have O1:=(h2 (hdeps 2 (by simp))).out hdi
   obtain ⟨A2,c2,rfl,hR2,_⟩:=((h5 (hdeps 5 (by simp))).out hdi).rd LMN.out
   obtain ⟨ad2,rfl⟩:∃ ad,A2=some ad:=by obtain ⟨g,o,e,_⟩:=hR2.at_ hmn0.1; exact ⟨_,e⟩
   refine zst fun K hK=>?_
   refine step_onto rfl (.tmp 5) (.tmp 8) rfl rfl rfl hR2 O1 (by rw [LME.out]; omega) hmn0.1 hsw (Below.refl w3.heap.size v17) ?_
   intro vq u17 O6 X6
   refine hK _ _ ?_; clear hK K; try simp only [zpt]
   exact ⟨_,_,_,_,_,_,rfl,BW.out.trans X6.out,zk h1,fun a h=>absurd h (by simp),zk h4,fun a h=>absurd h (by simp),fun _=>O6,zk h8⟩
  ·have c0:v17.cell? ⟨w.heap.size,2,none⟩=some (.string ⟨bx.toArray⟩):=(E1.out.below BW.out E1.out.lt).cell 2
   refine zst fun K hK=>?_
   go_simp
   refine hK _ _ ?_; clear hK K; try simp only [zpt]
   exact ⟨_,_,_,_,_,_,rfl,BW,zk h1,fun a h=>(h2 (by simpa using a)).out (by simpa using h),zk h4,fun a h=>(h5 (by simpa using a)).out (by simpa using h),zk h6,fun _=>rfl⟩
 case fin17 =>
  intro a v17 hI
  obtain ⟨x4,x5,x7,x8,x9,x11,ha,BW,h1,h2,h4,h5,h6,h8⟩:=hI
  simp only [zpt] at ha; subst ha
  obtain rfl:=h1 (by decide)
  obtain rfl:=h4 (by decide)
  obtain rfl:=h8 (by decide)
  have O6:=h6 (by decide)
  have hB6:w3.heap.size<=v17.heap.size:=BW.out.size
  have W4:=qt W1 BW.out
  have Z4:=qh (Z1.out.below BW.out Z1.out.lt)
  have hz3:=Z1.out.lt
  have hw3:=W1.out.size
  clear h2 h5 h6 BW E1 Z1 W1 CPE CPN
  try dsimp only
  refine zrd 9 fun K hK=>?_
  refine step_spush rfl (.tmp 9) (.tmp 11) rfl rfl rfl O6.out (by simp [LME.out,LMN.out]; omega) hB6 (Below.refl w3.heap.size v17) ?_
  intro v7 w7 O7 X7
  refine hK _ _ ?_; clear hK K; try simp only [zpt]
  replace W4:=qh (W4.out.trans (X7.out.mono hw3))
  replace Z4:=qh (Z4.out.below X7.out hz3)
  obtain ⟨A7,c7,rfl,hR7,_⟩:=O7.out.value
  obtain ⟨tx,htx⟩:=zx (le ++ ln ++ bx)
  have htl:tx.length<=1000000000:=by rw [htx]; simp [LME.out,LMN.out]; omega
  have CS7:=qh (CS.out w7 A7 tx.length c7)
  rw [<- htx] at CS7 hR7 ⊢
  obtain ⟨kx,hkx⟩:=zx (tx.length)
  rw [<- hkx] at CS7 hR7 htl ⊢
  have R7:=qh hR7
  clear hR7 O6 O7 X7 htx hkx CS
  refine zrd 10 fun K hK=>?_
  go_simp
  refine (CS7.out R7.out htl).mono ?_
  rintro e w8 ⟨rfl,hX⟩
  replace W4:=qt W4 hX
  replace Z4:=qh (Z4.out.below hX Z4.out.lt)
  clear hX R7 CS7
  refine hK _ _ ?_; clear hK K; try simp only [zpt]
  refine zrd 11 fun K hK=>?_
  refine step_storeAll rfl 46 (.tmp 2) (.tmp 13) rfl (w.heap.size + 1) rfl D rfl 46 (List.replicate 32 (Value.int .u8 0)) Z4.out ID.out LD.out OD.out (hK _ _ ?_)
  clear hK K
  try simp only [zpt]
  have B10:Hid (Blk (w8.setRow (w.heap.size + 1) D.toArray) (w.heap.size + 1) 46 D):=Z4.out.row
  have W10:=qh (below_setRow W4.out (show w.heap.size<=w.heap.size + 1 by omega) D.toArray)
  refine wpAny_done (by kernel_rfl) ?_ _
  generalize w8.setRow (w.heap.size + 1) D.toArray=w9 at *
  go_wp2_with fail
  exact bodyPost_ret (results_cell_row rfl _ _ (w.heap.size + 1) 46 D.toArray (0,0) _ rfl B10.out Tryz.underlying46 rfl (by rw [ID.out]; simp)) rfl ⟨rfl,W10.out⟩
open Go.RowKit
theorem big_ge:∀ (l:List UInt8) (n:Nat),n * 256 ^ l.length<=Rc.big l n
 | [],n=>by simp [Rc.big]
 | c :: l,n=>by
  have h:=big_ge l (n * 256 + c.toNat)
  have h2:n * 256 * 256 ^ l.length<=(n * 256 + c.toNat) * 256 ^ l.length:=Nat.mul_le_mul_right _ (by omega)
  rw [List.length_cons,Nat.pow_succ,Nat.mul_comm (256 ^ l.length) 256,<- Nat.mul_assoc]
  exact Nat.le_trans h2 h
theorem took_neg {m:List UInt8} (h9:9<=m.length) (hx:127 < (m.getD 0 0).toNat):Rc.may (Rc.took m)=false:=by
 match m,h9,hx with
 | c :: l,h9,hx =>
  have e:Rc.big ((c :: l).take 8) 0=Rc.big (l.take 7) c.toNat:=by show Rc.big (l.take 7) (0 * 256 + c.toNat)=_; rw [Nat.zero_mul,Nat.zero_add]
  have hl:(l.take 7).length=7:=by simp at h9; simp; omega
  have lo:=big_ge (l.take 7) c.toNat
  have hi:=big_lt (l.take 7) c.toNat
  rw [hl] at lo hi
  have hc:=c.toNat_lt
  have hx2:128<=c.toNat:=hx
  have hv:(Rc.took (c :: l)).ver < 1:=by
   show Rc.sgn (Rc.big ((c :: l).take 8) 0) < 1
   rw [e]
   unfold Rc.sgn
   split <;> omega
  unfold Rc.may
  rw [decide_eq_false (show ¬ 1<=(Rc.took (c :: l)).ver by omega)]
  rfl
theorem rrget_any {w:World} {A:Option Addr} {n c:Nat} {b:List UInt8} (hr:Rd w A n c b) :
  Calls Tryz.prog 32 #[.slice A n c] w fun e w'=>e = .returned (.tuple #[recV (Rc.got b),.int .i64 (if Rc.gets b then 0 else 1)])/\Below w.heap.size w w':=by
 have CU:=qh (fun w' (hR:Rd w' A n c b)=>runpad_any hR)
 have HR:=qh hr
 obtain ⟨z,hz⟩:=zx (recV (Rc.got b))
 obtain ⟨er,her⟩:=zx (if Rc.gets b then 0 else 1:Int)
 rw [<- hz,<- her]
 have HZ:=qh hz
 have HER:=qh her
 clear hr hz her
 obtain ⟨Z0,hZ0⟩:=zx (recL ⟨0,false,[]⟩)
 have HZ0:=qh hZ0
 have IZ:Hid ((Tryz.prog.info? 23).map (·.size)=some Z0.length):=by unfold Hid; rw [hZ0]; kernel_rfl
 have OZ:Hid (∀ v ∈ Z0,v.oneCell'=true):=by unfold Hid; rw [hZ0]; simp [recL,Value.oneCell']
 have BZ:Hid (Tryz.prog.built 23 []=some Z0.toArray):=by unfold Hid; rw [hZ0]; kernel_rfl
 clear hZ0
 go_enter Tryz.func32,Tryz.ntmps32
 go_upto_region 1 with (fail)
 obtain ⟨w1,hw1⟩:=zx (w.alloc (.cells #[.int .i64 0,.bool false,.string ⟨#[]⟩] 23))
 have B1:Blk w1 w.heap.size 23 Z0:=by rw [hw1,HZ0.out]; exact Blk.at_new _ _ 23 _ _ rfl rfl
 have W1:Below w.heap.size w w1:=by rw [hw1]; exact alloc_below _ _
 rw [<- hw1]
 clear hw1
 have hs1:w.heap.size < w1.heap.size:=B1.lt
 have CU1:=qh (CU.out w1 (HR.out.below W1))
 have ZE:Hid (Rc.gets b=false->z = .agg Z0.toArray/\er=1):=fun h=>by
  constructor
  ·rw [HZ.out,Rc.got,h,HZ0.out]; rfl
  ·rw [HER.out,h]; rfl
 by_cases hf:Rc.fits b=true
 ·rw [hf,if_pos rfl] at CU1
  obtain ⟨m,hm⟩:=zx (Rc.unpad b)
  rw [<- hm] at CU1
  have HF:=qh hf
  have HM:=qh hm
  clear hf hm CU
  go_wp2_with fail
  refine CU1.out.mono ?_
  rintro e w2 ⟨A1,n1,c1,rfl,hR,hX,_⟩
  have W2:=qh (W1.trans (hX.mono W1.size))
  have B2:=qh (B1.below hX hs1)
  have R2:=qh hR
  have HML:=qh hR.len
  have hn1:n1<=9223372036854775807:=by have h1:=hR.cap; have h2:=hR.max; unfold maxLen at h2; omega
  clear hX hR B1 W1 CU1
  by_cases h9:n1 < 9
  ·obtain ⟨rfl,rfl⟩:=ZE.out (by unfold Rc.gets; rw [<- HM.out,HML.out,decide_eq_false (show ¬ 9<=n1 by omega)]; simp)
   have h9i:(n1:Int) < 9:=by omega
   go_wp2_with (first
    | (with_reducible refine build_law rfl 23 #[] rfl Z0 (by simp only [List.map_toArray,List.map_nil]; exact BZ.out) ?_)
    | ((with_reducible refine storeGen_law rfl 23 (.tmp 2) (.tmp 32) rfl w.heap.size rfl Z0 rfl 23 Z0 IZ.out rfl OZ.out w.heap.size w B2.out W2.out (Nat.le_refl _) ?_); intro w8 B8 W8))
   exact bodyPost_ret (results_row_tmp rfl _ _ w.heap.size 23 Z0.toArray (0,0) _ _ rfl rfl B8.out Tryz.underlying23 rfl (by rw [IZ.out]; simp)) rfl ⟨rfl,W8.out⟩
  ·obtain ⟨g,off,rfl,hblt,hcell⟩:=R2.out.at_ (by omega)
   obtain ⟨y,hy⟩:=zx (m.getD 8 0)
   obtain ⟨x,hx⟩:=zx (m.getD 0 0)
   have c8:w2.cell? ⟨g,off + 8,none⟩=some (.int .u8 (y.toNat:Int)):=by rw [hy]; exact hcell 8 (by omega)
   have d0:w2.cell? ⟨g,off,none⟩=some (.int .u8 (x.toNat:Int)):=by rw [hx]; exact hcell 0 (by omega)
   have hy8:=y.toNat_lt
   have hx8:=x.toNat_lt
   have h9i:¬ (n1:Int) < 9:=by omega
   have HY:=qh hy
   have HXX:=qh hx
   have HC:=qh hcell
   clear hcell hy hx
   by_cases hy1:y<=1
   ·have hyi:¬ (1:Int) < (y.toNat:Int):=by have:y.toNat<=1:=hy1; omega
    have HGE:Hid (Rc.gets b=Rc.may (Rc.took m)):=by unfold Hid Rc.gets; rw [HF.out,<- HM.out,<- HY.out,HML.out,decide_eq_true (show 9<=n1 by omega),decide_eq_true hy1]; rfl
    by_cases hx1:x.toNat<=127
    ·have hxi:¬ (127:Int) < (x.toNat:Int):=by omega
     obtain ⟨gb,hgb⟩:=zx (decide (y=1):Bool)
     have hq1:((y.toNat:Int) == 1)=gb:=by
      rw [hgb]
      rcases (show y.toNat=0 ∨ y.toNat=1 by have:y.toNat<=1:=hy1; omega) with h | h
      ·rw [h,show y=0 from UInt8.toNat_inj.1 h]; rfl
      ·rw [h,show y=1 from UInt8.toNat_inj.1 h]; rfl
     have hq2:decide ((y.toNat:Int)=1)=gb:=hq1
     have hsl9:∀ W:World,(Instr.slice 24 (.slice (some ⟨g,off,none⟩) n1 c1) (some (.int .i64 9)) none none).run Tryz.prog W = .ok (.slice (cutA (some ⟨g,off,none⟩) c1 9) (n1 - 9) (c1 - 9)) W:=slice_l (some ⟨g,off,none⟩) n1 c1 9 (by omega)
     have R9:=qh (R2.out.cut (k:=9) (e:=n1) (by omega) (Nat.le_refl _))
     obtain ⟨B9,hB9⟩:=zx (cutA (some ⟨g,off,none⟩) c1 9)
     simp only [<- hB9] at hsl9 R9
     rw [List.take_of_length_le (by have:=HML.out; simp; omega)] at R9
     obtain ⟨l9,hl9⟩:=zx (m.drop 9)
     rw [<- hl9] at R9
     obtain ⟨L0,hL0⟩:=zx ([.int .i64 0,.bool gb,.string ⟨l9.toArray⟩]:List Value)
     have HL0:=qh hL0
     have BL:Hid (Tryz.prog.built 23 [(1,.bool gb),(2,.string ⟨l9.toArray⟩)]=some L0.toArray):=by unfold Hid; rw [hL0]; kernel_rfl
     have IL:Hid ((Tryz.prog.info? 23).map (·.size)=some L0.length):=by unfold Hid; rw [hL0]; kernel_rfl
     have LL:Hid (Z0.length=L0.length):=by unfold Hid; rw [hL0,HZ0.out]; rfl
     have OL:Hid (∀ v ∈ L0,v.oneCell'=true):=by unfold Hid; rw [hL0]; simp [Value.oneCell']
     have HTK:Hid (recL (Rc.took m)=[.int .i64 (Rc.sgn (Rc.big (m.take 8) 0)),.bool gb,.string ⟨l9.toArray⟩]):=by unfold Hid; rw [hgb,HY.out,hl9]; rfl
     clear hgb hl9 hL0 hB9
     go_upto_region 4 with (fail)
     have hs2:=B2.out.lt
     replace W2:=qh W2.out.drew
     replace B2:=qh B2.out.drew
     replace R9:=qh R9.out.drew
     replace HC:Hid (∀ j,j < n1->w2.drew.cell? ⟨g,off + j,none⟩=some (.int .u8 ((m.getD j 0).toNat:Int))):=HC.out
     replace c8:w2.drew.cell? ⟨g,off + 8,none⟩=some (.int .u8 (y.toNat:Int)):=c8
     replace hblt:g < w2.drew.heap.size:=hblt
     clear d0 R2
     refine wp_region_any (by kernel_rfl) ?_
     change wpAny _ _ _ _ _ _ _ (World.drew _)
     generalize w2.drew=w3 at *
     refine ztk 0 (.slice (some ⟨g,off,none⟩) n1 c1) ?_
     try simp only [zpt]
     refine ztk 1 (.pointer (some ⟨g,off + 8,none⟩)) ?_
     try simp only [zpt]
     refine ztk 4 (.slice (some ⟨g,off,none⟩) n1 c1) ?_
     try simp only [zpt]
     refine ztk 5 (.slice B9 (n1 - 9) (c1 - 9)) ?_
     try simp only [zpt]
     refine zph (fun i=>if i=3 then [2] else if i=7 then [3,6] else []) [2,3,6,7,8] (fun zT d a w'=>∃ x35 x36 x39 x40 x6:Value,a={ tmps:=(((((zT.set 6 x6).set 35 x35).set 36 x36).set 39 x39).set 40 x40).toArray,defers:=[] }/\Hid (Below w3.heap.size w3 w')/\(d 2=true->x35 = .int .u8 (y.toNat:Int))/\(d 3=true->x36 = .bool gb)/\(d 6=true->x39 = .string ⟨l9.toArray⟩)/\(d 7=true->x40 = .agg L0.toArray)/\(d 8=true->Hid (NewB w' w3.heap.size x6 23 Z0))) 1 5 ?step5 ?init5 ?fin5
     case init5=>refine ⟨_,_,_,_,_,rfl,Below.refl _ _,?_,?_,?_,?_,?_⟩ <;> (intro h; exact absurd h (by decide))
     case step5 =>
      intro i hi d a v5 hI hdi hdeps
      obtain ⟨x35,x36,x39,x40,x6,ha,BW,h2,h3,h6,h7,h8⟩:=hI
      simp only [zpt] at ha; subst ha
      have hsw:=BW.out.size
      simp only [List.mem_cons,List.not_mem_nil,or_false] at hi
      rcases hi with rfl | rfl | rfl | rfl | rfl
      ·have c0:v5.cell? ⟨g,off + 8,none⟩=some (.int .u8 (y.toNat:Int)):=(bel_cell BW.out ⟨g,off + 8,none⟩ hblt).trans c8
       refine zst fun K hK=>?_
       go_simp
       refine hK _ _ ?_; clear hK K; try simp only [zpt]
       exact ⟨_,_,_,_,_,rfl,BW,fun _=>rfl,zk h3,zk h6,zk h7,zk h8⟩
      ·obtain rfl:=h2 (hdeps 2 (by simp))
       refine zst fun K hK=>?_
       go_simp
       refine hK _ _ ?_; clear hK K; try simp only [zpt]
       exact ⟨_,_,_,_,_,rfl,BW,zk h2,fun _=>rfl,zk h6,zk h7,zk h8⟩
      ·have hcv:=conv_bytes (R9.out.below BW.out)
       refine zst fun K hK=>?_
       go_simp
       refine hK _ _ ?_; clear hK K; try simp only [zpt]
       exact ⟨_,_,_,_,_,rfl,BW,zk h2,zk h3,fun _=>rfl,zk h7,zk h8⟩
      ·obtain rfl:=h3 (hdeps 3 (by simp))
       obtain rfl:=h6 (hdeps 6 (by simp))
       refine zst fun K hK=>?_
       refine step_build rfl 23 #[(1,.tmp 36),(2,.tmp 39)] rfl L0 (by simp only [List.map_toArray,List.map_cons,List.map_nil]; exact BL.out) (hK _ _ ?_)
       clear hK K
       try simp only [zpt]
       exact ⟨_,_,_,_,_,rfl,BW,zk h2,zk h3,zk h6,fun _=>rfl,zk h8⟩
      ·have hX:=alloc_below v5 (.cells #[.int .i64 0,.bool false,.string ⟨#[]⟩] 23)
       refine zst fun K hK=>?_
       go_simp
       refine hK _ _ ?_; clear hK K; try simp only [zpt]
       exact ⟨_,_,_,_,_,rfl,BW.out.trans (hX.mono hsw),zk h2,zk h3,zk h6,zk h7,fun _=>⟨_,rfl,hsw,Blk.at_new _ _ 23 Z0 _ (by rw [HZ0.out]; rfl) rfl⟩⟩
     case fin5 =>
      intro a v5 hI
      obtain ⟨x35,x36,x39,x40,x6,ha,BW,h2,h3,h6,h7,h8⟩:=hI
      simp only [zpt] at ha; subst ha
      obtain rfl:=h2 (by decide)
      obtain rfl:=h3 (by decide)
      obtain rfl:=h6 (by decide)
      obtain rfl:=h7 (by decide)
      obtain ⟨g6,rfl,hg6,hB6⟩:=(h8 (by decide)).out
      have B6:=qh hB6
      have hs3:=W2.out.size
      have hs3':=B2.out.lt
      have hs4:=BW.out.size
      have B3:=qh (B2.out.below BW.out B2.out.lt)
      have W3:=qt W2 BW.out
      have HC4:Hid (∀ j,j < n1->v5.cell? ⟨g,off + j,none⟩=some (.int .u8 ((m.getD j 0).toNat:Int))):=fun j hj=>(bel_cell BW.out ⟨g,off + j,none⟩ hblt).trans (HC.out j hj)
      clear h8 hB6 BW R9 B2 W2 HC c8
      try dsimp only
      refine zrd 9 fun K hK=>?_
      refine step_storeAll rfl 23 (.tmp 6) (.tmp 40) rfl g6 rfl L0 rfl 23 Z0 B6.out IL.out LL.out OL.out (hK _ _ ?_)
      clear hK K
      try simp only [zpt]
      have K4:=qh (B6.out.row (cs':=L0))
      have B4:=qh (B3.out.rowFar (show w.heap.size ≠ g6 by omega) L0.toArray)
      have W4:=qh (below_setRow W3.out (show w.heap.size<=g6 by omega) L0.toArray)
      have HC5:Hid (∀ j,j < n1->(v5.setRow g6 L0.toArray).cell? ⟨g,off + j,none⟩=some (.int .u8 ((m.getD j 0).toNat:Int))):=fun j hj=>(World.cell?_of_block (a:=⟨g,off + j,none⟩) (setRow_other _ _ _ _ (show g ≠ g6 by omega))).trans (HC4.out j hj)
      have hgw:g < g6:=by omega
      have hww:w.heap.size < g6:=by omega
      refine wpAny_done (by kernel_rfl) ?_ _
      generalize v5.setRow g6 L0.toArray=w4 at *
      have hg4:=K4.out.lt
      clear B6 B3 W3 HC4 hblt hs2 hs3 hs3' hs4 hg6
      have HB0:Hid (L0=[.int .i64 (Rc.sgn (Rc.big (m.take 0) 0)),.bool gb,.string ⟨l9.toArray⟩]):=by unfold Hid; rw [HL0.out]; rfl
      go_wp2_with fail
      go_loopw [7] (fun i wr=>∃ (k:Nat),k<=8/\i = .int .i64 k/\Hid (Blk wr g6 23 [.int .i64 (Rc.sgn (Rc.big (m.take k) 0)),.bool gb,.string ⟨l9.toArray⟩])/\Hid (Below g6 w4 wr)) (fun i _=>8 - (intOf i).toNat)
      case atStart=>exact ⟨0,by omega,rfl,by unfold Hid; rw [<- HB0.out]; exact K4.out,Below.refl _ _⟩
      case round =>
       obtain ⟨k,hk,rfl,HK,HB⟩:=hrel
       by_cases hlt:k < 8
       ·have hlb:(k:Int) < 8:=by omega
        have hkn:(k:Int) < (n1:Int):=by omega
        obtain ⟨M,hM⟩:=zx (Rc.big (m.take k) 0)
        have hM56:M < 72057594037927936:=by
         have h1:=big_lt (m.take k) 0
         rw [<- hM,List.length_take,Nat.min_eq_left (by have:=HML.out; omega)] at h1
         have h2:256 ^ k<=256 ^ 7:=Nat.pow_le_pow_right (by omega) (by omega)
         omega
        have hs:Rc.sgn M=(M:Int):=by unfold Rc.sgn; rw [if_pos (by omega)]
        obtain ⟨q,hq⟩:=zx (m.getD k 0)
        have hq8:=q.toNat_lt
        have HN:Hid (M * 256 + q.toNat=Rc.big (m.take (k + 1)) 0):=by
         unfold Hid
         have hkl:k < m.length:=by have:=HML.out; omega
         rw [show m.take (k + 1)=m.take k ++ [m.getD k 0] by rw [List.take_succ_eq_append_getElem hkl]; simp [List.getD_eq_getElem?_getD,List.getElem?_eq_getElem hkl],big_snoc,hM,hq]
        have hor:bits .or .i64 (wrap64 ((M:Int) * 256)) (q.toNat:Int)=Rc.sgn (M * 256 + q.toNat):=or_sgn64 M q hM56
        have C0:Hid (wr.cell? ⟨g6,0,none⟩=some (.int .i64 (M:Int))):=by have:=HK.out.cell 0; rw [<- hM,hs] at this; exact this
        have CQ:Hid (wr.cell? ⟨g,off + k,none⟩=some (.int .u8 (q.toNat:Int))):=by rw [hq]; exact (bel_cell HB.out ⟨g,off + k,none⟩ hgw).trans (HC5.out k (by omega))
        have K5:Hid (Blk wr g6 23 [.int .i64 (Rc.sgn M),.bool gb,.string ⟨l9.toArray⟩]):=by unfold Hid; rw [hM]; exact HK.out
        obtain ⟨vn,hvn⟩:=zx (Rc.sgn (M * 256 + q.toNat))
        rw [<- hvn] at hor
        have hwq:IntKind.i64.wrap (q.toNat:Int)=(q.toNat:Int):=by rw [IntKind.wrap_i64]; omega
        have hor2:bits .or .i64 (IntKind.i64.wrap ((M:Int) * 256)) (q.toNat:Int)=vn:=by rw [hvn]; exact or_sgn M q hM56
        have hor3:bits .or .i64 (IntKind.i64.wrap ((M:Int) * 256)) (IntKind.i64.wrap (q.toNat:Int))=vn:=by rw [hwq]; exact hor2
        have HVN:Hid (vn=Rc.sgn (Rc.big (m.take (k + 1)) 0)):=by unfold Hid; rw [hvn,HN.out]
        clear hM hM56 hs hq HN HK hvn
        go_upto_region 8 with (fail)
        replace C0:Hid (wr.drew.cell? ⟨g6,0,none⟩=some (.int .i64 (M:Int))):=C0
        replace CQ:Hid (wr.drew.cell? ⟨g,off + k,none⟩=some (.int .u8 (q.toNat:Int))):=CQ
        replace K5:=qh K5.out.drew
        replace HB:=qh HB.out.drew
        refine wp_region_any (by kernel_rfl) ?_
        change wpAny _ _ _ _ _ _ _ (World.drew _)
        generalize wr.drew=w5 at *
        refine ztk 0 (.pointer (some ⟨g6,0,none⟩)) ?_
        try simp only [zpt]
        refine ztk 3 (.slice (some ⟨g,off,none⟩) n1 c1) ?_
        try simp only [zpt]
        refine ztk 4 (.int .i64 (k:Int)) ?_
        try simp only [zpt]
        refine ztk 5 (.pointer (some ⟨g,off + k,none⟩)) ?_
        try simp only [zpt]
        refine zph (fun i=>if i=2 then [1] else if i=7 then [6] else if i=8 then [2,7] else []) [1,2,6,7,8] (fun zT d a w'=>∃ x46 x47 x51 x52 x53:Value,a={ tmps:=(((((zT.set 46 x46).set 47 x47).set 51 x51).set 52 x52).set 53 x53).toArray,defers:=[] }/\Hid (Below w5.heap.size w5 w')/\(d 1=true->x46 = .int .i64 (M:Int))/\(d 2=true->x47 = .int .i64 (IntKind.i64.wrap ((M:Int) * 256)))/\(d 6=true->x51 = .int .u8 (q.toNat:Int))/\(d 7=true->x52 = .int .i64 (q.toNat:Int))/\(d 8=true->x53 = .int .i64 vn)) 2 5 ?step16 ?init16 ?fin16
        case init16=>refine ⟨_,_,_,_,_,rfl,Below.refl _ _,?_,?_,?_,?_,?_⟩ <;> (intro h; exact absurd h (by decide))
        case step16 =>
         intro i hi d a v16 hI hdi hdeps
         obtain ⟨x46,x47,x51,x52,x53,ha,BW,h1,h2,h6,h7,h8⟩:=hI
         simp only [zpt] at ha; subst ha
         have hsw:=BW.out.size
         simp only [List.mem_cons,List.not_mem_nil,or_false] at hi
         rcases hi with rfl | rfl | rfl | rfl | rfl
         ·have c0:v16.cell? ⟨g6,0,none⟩=some (.int .i64 (M:Int)):=(bel_cell BW.out ⟨g6,0,none⟩ K5.out.lt).trans C0.out
          refine zst fun K hK=>?_
          go_simp
          refine hK _ _ ?_; clear hK K; try simp only [zpt]
          exact ⟨_,_,_,_,_,rfl,BW,fun _=>rfl,zk h2,zk h6,zk h7,zk h8⟩
         ·obtain rfl:=h1 (hdeps 1 (by simp))
          refine zst fun K hK=>?_
          go_simp
          refine hK _ _ ?_; clear hK K; try simp only [zpt]
          exact ⟨_,_,_,_,_,rfl,BW,zk h1,fun _=>rfl,zk h6,zk h7,zk h8⟩
         ·have c0:v16.cell? ⟨g,off + k,none⟩=some (.int .u8 (q.toNat:Int)):=(bel_cell BW.out ⟨g,off + k,none⟩ (Nat.lt_trans hgw K5.out.lt)).trans CQ.out
          refine zst fun K hK=>?_
          go_simp
          refine hK _ _ ?_; clear hK K; try simp only [zpt]
          exact ⟨_,_,_,_,_,rfl,BW,zk h1,zk h2,fun _=>rfl,zk h7,zk h8⟩
         ·obtain rfl:=h6 (hdeps 6 (by simp))
          refine zst fun K hK=>?_
          go_simp
          refine hK _ _ ?_; clear hK K; try simp only [zpt]
          exact ⟨_,_,_,_,_,rfl,BW,zk h1,zk h2,zk h6,fun _=>rfl,zk h8⟩
         ·obtain rfl:=h2 (hdeps 2 (by simp))
          obtain rfl:=h7 (hdeps 7 (by simp))
          refine zst fun K hK=>?_
          go_simp
          refine hK _ _ ?_; clear hK K; try simp only [zpt]
          exact ⟨_,_,_,_,_,rfl,BW,zk h1,zk h2,zk h6,zk h7,fun _=>rfl⟩
        case fin16 =>
         intro a v16 hI
         obtain ⟨x46,x47,x51,x52,x53,ha,BW,h1,h2,h6,h7,h8⟩:=hI
         simp only [zpt] at ha; subst ha
         obtain rfl:=h1 (by decide)
         obtain rfl:=h2 (by decide)
         obtain rfl:=h6 (by decide)
         obtain rfl:=h7 (by decide)
         obtain rfl:=h8 (by decide)
         have K6:=qh (K5.out.below BW.out K5.out.lt)
         have HB6:=qh (HB.out.trans (BW.out.mono (Nat.le_trans (Nat.le_of_lt hg4) HB.out.size)))
         have c0:v16.cell? ⟨g6,0,none⟩=some (.int .i64 (M:Int)):=(bel_cell BW.out ⟨g6,0,none⟩ K5.out.lt).trans C0.out
         have f0:v16.frozen? ⟨g6,0,none⟩=false:=K6.out.frozen 0
         clear BW K5 HB C0 CQ
         try dsimp only
         refine ztk 9 (.pointer (some ⟨g6,0,none⟩)) ?_
         try simp only [zpt]
         refine zrd 10 fun K hK=>?_
         go_simp
         refine hK _ _ ?_; clear hK K; try simp only [zpt]
         refine wpAny_done (by kernel_rfl) ?_ _
         have K7:Hid (Blk (v16.setCell ⟨g6,0,none⟩ (.int .i64 vn)) g6 23 [.int .i64 (Rc.sgn (Rc.big (m.take (k + 1)) 0)),.bool gb,.string ⟨l9.toArray⟩]):=by have:=K6.out.set_ 0 (.int .i64 vn); rw [HVN.out] at this ⊢; exact this
         have HB7:Hid (Below g6 w4 (v16.setCell ⟨g6,0,none⟩ (.int .i64 vn))):=HB6.out.setCell (Nat.le_refl _) _
         go_wp2_with fail
         go_roundw
         case rel=>exact ⟨k + 1,by omega,by go_num,K7,HB7⟩
         case measure=>simp [intOf]; omega
       ·obtain rfl:k=8:=by omega
        obtain ⟨L,hL⟩:=zx (recL (Rc.took m))
        have K6:Hid (Blk wr g6 23 L):=by unfold Hid; rw [hL,HTK.out]; exact HK.out
        have HLR:=qh hL
        have ILL:Hid ((Tryz.prog.info? 23).map (·.size)=some L.length):=by unfold Hid; rw [hL]; kernel_rfl
        have LLL:Hid (Z0.length=L.length):=by unfold Hid; rw [hL,HZ0.out]; rfl
        have OLL:Hid (∀ v ∈ L,v.oneCell'=true):=by unfold Hid; rw [hL]; simp [recL,Value.oneCell']
        have CM:Hid (∀ W:World,Calls Tryz.prog 12 #[.agg L.toArray] W fun e w'=>e = .returned (.bool (Rc.may (Rc.took m)))/\Below W.heap.size W w'):=fun W=>by rw [hL]; exact rmr_any _ W
        have B6:=qh (B4.out.below HB.out hww)
        have W6:=qh (W4.out.trans (HB.out.mono (Nat.le_of_lt hww)))
        clear hL HK HB HC5 B4 W4
        go_wp2_with (first | (with_reducible refine load_law rfl 23 (.tmp 6) rfl g6 0 rfl L _ Tryz.underlying23 rfl ILL.out K6.out.cells ?_))
        refine (CM.out wr).mono ?_
        rintro e w7 ⟨rfl,hX⟩
        have B7:=qh (B6.out.below hX B6.out.lt)
        have K7:=qh (K6.out.below hX K6.out.lt)
        have W7:=qt W6 hX
        clear hX B6 K6 W6 CM
        by_cases hmay:Rc.may (Rc.took m)=true
        ·have hget:Rc.gets b=true:=by rw [HGE.out,hmay]
         obtain rfl:z = .agg L.toArray:=by rw [HZ.out,Rc.got,hget,if_pos rfl,<- HM.out,HLR.out]; rfl
         obtain rfl:er=0:=by rw [HER.out,hget]; rfl
         rw [hmay]
         go_wp2_with (first
          | (with_reducible refine load_law rfl 23 (.tmp 6) rfl g6 0 rfl L _ Tryz.underlying23 rfl ILL.out K7.out.cells ?_)
          | ((with_reducible refine storeGen_law rfl 23 (.tmp 2) (.tmp 59) rfl w.heap.size rfl L rfl 23 Z0 ILL.out LLL.out OLL.out w.heap.size w B7.out W7.out (Nat.le_refl _) ?_); intro w8 B8 W8))
         exact bodyPost_ret (results_row_tmp rfl _ _ w.heap.size 23 L.toArray (0,0) _ _ rfl rfl B8.out Tryz.underlying23 rfl (by rw [ILL.out]; simp)) rfl ⟨rfl,W8.out⟩
        ·have hmay:Rc.may (Rc.took m)=false:=by simpa using hmay
         obtain ⟨rfl,rfl⟩:=ZE.out (by rw [HGE.out,hmay])
         rw [hmay]
         go_wp2_with (first
          | (with_reducible refine build_law rfl 23 #[] rfl Z0 (by simp only [List.map_toArray,List.map_nil]; exact BZ.out) ?_)
          | ((with_reducible refine storeGen_law rfl 23 (.tmp 2) (.tmp 58) rfl w.heap.size rfl Z0 rfl 23 Z0 IZ.out rfl OZ.out w.heap.size w B7.out W7.out (Nat.le_refl _) ?_); intro w8 B8 W8))
         exact bodyPost_ret (results_row_tmp rfl _ _ w.heap.size 23 Z0.toArray (0,0) _ _ rfl rfl B8.out Tryz.underlying23 rfl (by rw [IZ.out]; simp)) rfl ⟨rfl,W8.out⟩
    ·have hxi:(127:Int) < (x.toNat:Int):=by omega
     obtain ⟨rfl,rfl⟩:=ZE.out (by rw [HGE.out]; exact took_neg (by rw [HML.out]; omega) (by rw [<- HXX.out]; omega))
     go_wp2_with (first
      | (with_reducible refine build_law rfl 23 #[] rfl Z0 (by simp only [List.map_toArray,List.map_nil]; exact BZ.out) ?_)
      | ((with_reducible refine storeGen_law rfl 23 (.tmp 2) (.tmp 32) rfl w.heap.size rfl Z0 rfl 23 Z0 IZ.out rfl OZ.out w.heap.size w B2.out W2.out (Nat.le_refl _) ?_); intro w8 B8 W8))
     exact bodyPost_ret (results_row_tmp rfl _ _ w.heap.size 23 Z0.toArray (0,0) _ _ rfl rfl B8.out Tryz.underlying23 rfl (by rw [IZ.out]; simp)) rfl ⟨rfl,W8.out⟩
   ·obtain ⟨rfl,rfl⟩:=ZE.out (by unfold Rc.gets; rw [<- HM.out,<- HY.out,decide_eq_false hy1]; simp)
    have hyi:(1:Int) < (y.toNat:Int):=by have:¬ y.toNat<=1:=hy1; omega
    go_wp2_with (first
     | (with_reducible refine build_law rfl 23 #[] rfl Z0 (by simp only [List.map_toArray,List.map_nil]; exact BZ.out) ?_)
     | ((with_reducible refine storeGen_law rfl 23 (.tmp 2) (.tmp 32) rfl w.heap.size rfl Z0 rfl 23 Z0 IZ.out rfl OZ.out w.heap.size w B2.out W2.out (Nat.le_refl _) ?_); intro w8 B8 W8))
    exact bodyPost_ret (results_row_tmp rfl _ _ w.heap.size 23 Z0.toArray (0,0) _ _ rfl rfl B8.out Tryz.underlying23 rfl (by rw [IZ.out]; simp)) rfl ⟨rfl,W8.out⟩
 ·have hf:Rc.fits b=false:=by simpa using hf
  rw [hf] at CU1
  obtain ⟨rfl,rfl⟩:=ZE.out (by unfold Rc.gets; rw [hf]; rfl)
  clear hf CU
  go_wp2_with fail
  refine CU1.out.mono ?_
  rintro e w2 ⟨A1,n1,c1,rfl,hR,hX,_⟩
  have W2:=qh (W1.trans (hX.mono W1.size))
  have B2:=qh (B1.below hX hs1)
  clear hX hR B1 W1 CU1
  go_wp2_with (first
   | (with_reducible refine build_law rfl 23 #[] rfl Z0 (by simp only [List.map_toArray,List.map_nil]; exact BZ.out) ?_)
   | ((with_reducible refine storeGen_law rfl 23 (.tmp 2) (.tmp 32) rfl w.heap.size rfl Z0 rfl 23 Z0 IZ.out rfl OZ.out w.heap.size w B2.out W2.out (Nat.le_refl _) ?_); intro w8 B8 W8))
  exact bodyPost_ret (results_row_tmp rfl _ _ w.heap.size 23 Z0.toArray (0,0) _ _ rfl rfl B8.out Tryz.underlying23 rfl (by rw [IZ.out]; simp)) rfl ⟨rfl,W8.out⟩
open Go.RowKit
theorem copy_part {w:World} {g off cp:Nat} {t:TypeId} {a b c:List Value} {A:Option Addr} {l:List UInt8} (hb:Blk w g t (a ++ b ++ c)) (hr:Rd w A 32 cp l) (ha:a.length=off) (hbl:b.length=32) :
  ∃ W',(Builtin.copy_ #[24,24] 3 #[.slice (some ⟨g,off,none⟩) 32 32,.slice A 32 cp]).run Tryz.prog w = .ok (.int .i64 32) W'/\Blk W' g t (a ++ l.map cellOf ++ c)/\w.grownBy W' (some g):=by
 obtain ⟨W',h1,h2,h3⟩:=copy_into (off:=off) (dLen:=32) (dCap:=32) hb hr (by simp; omega)
 rw [Nat.min_self,show (a ++ b ++ c).take off=a by rw [List.append_assoc,List.take_left' ha],show l.take 32=l from List.take_of_length_le (by rw [hr.len]; exact Nat.le_refl _),show (a ++ b ++ c).drop (off + 32)=c from List.drop_left' (by simp; omega)] at h2
 exact ⟨W',h1,h2,h3⟩
theorem step_full {ops:Array Oper} {o:Oper} {a:Act} {K:Act->World->Prop} {Q:Exit->Act->World->Prop} {E:Prop} {wr:World} (hgd:Region.wanted o (yielded ops a.tmps)=true) (s x:Operand)
  (ho:o.op = .call { callee:=.builtin .append,args:=#[s,x],argTypes:=#[24,24] }) {b ad:Addr} {n m c:Nat} {l news:List UInt8} (hs:a.eval s = .slice (some b) n n) (hx:a.eval x = .slice (some ad) m c) (h1:Rd wr (some b) n n l) (h2:Rd wr (some ad) m c news) (h0:0 < n) (hm:0 < m) (hlen:n + m<=1000000)
  (h:∀ c' w',Rd w' (some ⟨wr.heap.size,0,none⟩) (n + m) c' (l ++ news)->Below wr.heap.size wr w'->K (a.put o.dst (.slice (some ⟨wr.heap.size,0,none⟩) (n + m) c')) w'):if Region.wanted o (yielded ops a.tmps)=true then o.wp Tryz.prog a wr K Q else E:=by
 rw [if_pos hgd]
 obtain ⟨c',w',hrun,h3,h4⟩:=run_full o.type h1 h2 h0 hm hlen
 unfold Oper.wp execOp
 simp only [ho,resolve,invoke,builtin,Sem.run_bind,Sem.run_pure,Result.andThen_ok,List.map_toArray,List.map_cons,List.map_nil,hs,hx,hrun]
 exact h c' w' h3 h4
theorem rkeys_any {w:World} {A:Option Addr} {n c:Nat} {s:List UInt8} (ep:Int) (hr:Rd w A n c s) (hn:n<=1000000) (h1:-9223372036854775808<=ep) (h2:ep<=9223372036854775807) :
  Calls Tryz.prog 37 #[.slice A n c,.int .i64 ep] w (RetH w (Rc.keysOf s ep)):=by
 have HR:=qh hr
 clear hr
 have hcv:=conv23
 have hcva:=conv23a
 obtain ⟨SA,hSA⟩:=zx ([105,110,100,101,110,116,117,114,101]:List UInt8)
 obtain ⟨le,hle⟩:=zx (Num.enc (Num.zig ep):List UInt8)
 obtain ⟨me,hme⟩:∃ m,le.length=m:=⟨_,rfl⟩
 have hme0:0 < me/\me<=10:=by have:=Num.enc_len10 (Num.zig_lt ep h1 h2); have:=Num.enc_pos (Num.zig ep); rw [<- hme,hle]; omega
 have LME:=qh hme
 obtain ⟨k1,hk1⟩:=zx ((Rc.sealKey s ep).map cellOf)
 obtain ⟨k2,hk2⟩:=zx ((Rc.markKey s).map cellOf)
 obtain ⟨k3,hk3⟩:=zx ((Rc.labelKey s).map cellOf)
 obtain ⟨z1,hz1⟩:=zx (List.replicate 32 (Value.int .u8 0))
 have LZ1:Hid (z1.length=32):=by unfold Hid; rw [hz1]; rfl
 have L1:Hid (k1.length=32):=by unfold Hid; rw [hk1,List.length_map,Rc.sealKey_length]
 have L2:Hid (k2.length=32):=by unfold Hid; rw [hk2,List.length_map,Rc.markKey_length]
 have L3:Hid (k3.length=32):=by unfold Hid; rw [hk3,List.length_map,Rc.labelKey_length]
 obtain ⟨kk,hkk⟩:=zx (k1 ++ k2 ++ k3)
 have hkk2:kk=(Rc.keysOf s ep).map cellOf:=by rw [hkk,hk1,hk2,hk3,<- List.map_append,<- List.map_append]; rfl
 obtain ⟨Z9,hZ9⟩:=zx (z1 ++ z1 ++ z1)
 have HZ9:=qh hZ9
 have ZC:Hid (Tryz.zeroCells69=Z9.toArray):=by unfold Hid; rw [hZ9,hz1]; kernel_rfl
 have hkl:kk.length=96:=by rw [hkk2,List.length_map]; simp [Rc.keysOf,Rc.sealKey_length,Rc.markKey_length,Rc.labelKey_length]
 have IKK:Hid ((Tryz.prog.info? 69).map (·.size)=some kk.length):=by unfold Hid; rw [hkl]; kernel_rfl
 have LKK:Hid (Z9.length=kk.length):=by unfold Hid; rw [hkl,hZ9,hz1]; rfl
 have OKK:Hid (∀ v ∈ kk,v.oneCell'=true):=by unfold Hid; rw [hkk2]; exact cells_u8 _
 have HKK:=qh hkk2
 have HKJ:=qh hkk
 obtain ⟨D,hD⟩:=zx ((Rc.root s).map cellOf)
 have hrl:(Rc.root s).length=32:=Sha.hmac_length _ _
 have hDl:D.length=32:=by rw [hD,List.length_map,hrl]
 have ID:Hid ((Tryz.prog.info? 46).map (·.size)=some D.length):=by unfold Hid; rw [hDl]; kernel_rfl
 have LD:Hid ((List.replicate 32 (Value.int .u8 0)).length=D.length):=by unfold Hid; rw [hDl]; rfl
 have OD:Hid (∀ v ∈ D,v.oneCell'=true):=by unfold Hid; rw [hD]; exact cells_u8 _
 obtain ⟨rt,hrt⟩:=zx (Rc.root s)
 have HD:Hid (D=rt.map cellOf):=by unfold Hid; rw [hD,hrt]
 have LRT:Hid (rt.length=32):=by unfold Hid; rw [hrt]; exact hrl
 have CX:Hid (∀ (W:World) (A A':Option Addr) (c c':Nat),Rd W A 9 c SA->Rd W A' n c' s->Calls Tryz.prog 60 #[.slice A 9 c,.slice A' n c'] W fun e w'=>e = .returned (.agg D.toArray)/\Below W.heap.size W w'):=fun W A A' c c' ha hb=>by
  refine (rextract_any ha (by omega) hb (by omega)).mono ?_
  rintro e w' ⟨E,rfl,hM,hX⟩
  have e1:E=D:=by rw [hM,hD,hSA]; rfl
  rw [e1]
  exact ⟨rfl,hX⟩
 obtain ⟨x1,hx1⟩:=zx (Rc.sealKey s ep)
 obtain ⟨x2,hx2⟩:=zx (Rc.markKey s)
 obtain ⟨x3,hx3⟩:=zx (Rc.labelKey s)
 have K1:Hid (x1.map cellOf=k1):=by unfold Hid; rw [hx1,hk1]
 have K2:Hid (x2.map cellOf=k2):=by unfold Hid; rw [hx2,hk2]
 have K3:Hid (x3.map cellOf=k3):=by unfold Hid; rw [hx3,hk3]
 have CE:∀ (info k:List UInt8),k=Sha.expand (Rc.root s) info 32->∀ (W:World) (A A':Option Addr) (n c:Nat),Rd W A' 32 32 rt->Rd W A n c info->n<=1000->Calls Tryz.prog 61 #[.slice A' 32 32,.slice A n c,.int .i64 32] W fun e w'=>∃ A2 c2,e = .returned (.slice A2 32 c2)/\Rd w' A2 32 c2 k/\Below W.heap.size W w':=fun info k hk W A A' n c hr ha hn=>by
  rw [hk,<- hrt]
  exact rexpand_any hr (by omega) ha (by omega) 32 (by omega) (by omega)
 have CE1:=qh (CE ([115,101,97,108] ++ le) x1 (by rw [hx1,hle]; rfl))
 have CE2:=qh (CE [109,97,114,107] x2 hx2)
 have CE3:=qh (CE [108,97,98,101,108] x3 hx3)
 have CRP:Hid (∀ W:World,Calls Tryz.prog 38 #[.int .i64 ep] W fun e w'=>∃ v',e = .returned v'/\Ow w' W.heap.size v' le/\Below W.heap.size W w'):=fun W=>by
  rw [hle]
  exact rput_any ep W h1 h2
 have HSA:=qh hSA
 clear hSA hle hme hk1 hk2 hk3 hkk hkk2 hZ9 hz1 hkl hD hDl hrl hrt hx1 hx2 hx3 CE
 go_enter Tryz.func37,Tryz.ntmps37
 go_wp2_with fail
 obtain ⟨w1,hw1⟩:=zx ((w.alloc (.cells Tryz.zeroCells69 69)).alloc (.cells #[.int .u8 105,.int .u8 110,.int .u8 100,.int .u8 101,.int .u8 110,.int .u8 116,.int .u8 117,.int .u8 114,.int .u8 101] 5 (9,10)))
 have R1:Rd w1 (some ⟨w.heap.size + 1,0,none⟩) 9 9 SA:=by rw [hw1,HSA.out]; exact lit_bytesF _ _ _ 9 _ _ (by rfl) rfl (by omega) (by simp)
 have W1:Below w.heap.size w w1:=by rw [hw1]; exact ((Below.refl _ _).alloc (Nat.le_refl _) _).alloc (by simp) _
 have Z1:Blk w1 w.heap.size 69 Z9:=by rw [hw1]; exact (Blk.at_new _ _ 69 _ _ ZC.out rfl).alloc _
 rw [<- hw1]
 refine (CX.out w1 _ _ _ _ R1 (HR.out.below W1)).mono ?_
 rintro e w2 ⟨rfl,hX⟩
 have hs2:=hX.size
 have hs1:w.heap.size < w1.heap.size:=Z1.lt
 have W2:=qh (W1.trans (hX.mono W1.size))
 have Z2:=qh (Z1.below hX hs1)
 clear hw1 R1 W1 Z1 hX hcv hcva CX HSA HR
 go_upto_region 2 with (first
  | ((with_reducible refine storeGen_law rfl 46 (.tmp 5) (.tmp 10) rfl w2.heap.size rfl D rfl 46 (List.replicate 32 (.int .u8 0)) ID.out LD.out OD.out w2.heap.size w2 ?_ ?_ (Nat.le_refl _) ?_)
     ·exact Blk.at_new _ _ 46 _ _ (by rfl) rfl
     ·exact (Below.refl _ _).alloc (Nat.le_refl _) _
     intro w3 B3 X3))
 obtain ⟨gr,hgr⟩:=zx (w2.heap.size)
 rw [<- hgr] at B3
 rw [<- hgr]
 have hgr6:w2.heap.size<=gr:=by omega
 clear hgr
 have hs3:=X3.out.size
 have W3:=qt W2 X3.out
 have Z3:=qh (Z2.out.below X3.out Z2.out.lt)
 have KB:=qh B3.out
 have hgr7:=KB.out.lt
 clear X3 B3 W2 Z2
 go_upto_region 3 with (fail)
 obtain ⟨g6,hg6⟩:=zx (w3.heap.size)
 obtain ⟨w4,hw4⟩:=zx (w3.alloc (.cells Tryz.zeroCells69 69))
 have G6:Hid (Blk w4 g6 69 ([] ++ z1 ++ (z1 ++ z1))):=by unfold Hid; rw [hw4]; exact Blk.at_new _ _ 69 _ _ (by rw [ZC.out,HZ9.out]; simp) hg6
 have X4:Below w3.heap.size w3 w4:=by rw [hw4]; exact alloc_below _ _
 rw [<- hg6,<- hw4]
 have W4:=qt W3 X4
 have Z4:=qh (Z3.out.below X4 Z3.out.lt)
 have K4:=qh (KB.out.below X4 KB.out.lt)
 have hne:gr ≠ g6:=by omega
 have hne2:w.heap.size < g6:=by have:=Z3.out.lt; omega
 clear hw4 X4 W3 Z3 KB hg6
 have W5:=qh W4.out.drew
 have Z5:=qh Z4.out.drew
 have K5:=qh K4.out.drew
 have G5:=qh G6.out.drew
 clear W4 Z4 K4 G6
 refine wp_region_any (by kernel_rfl) ?_
 change wpAny _ _ _ _ _ _ _ (World.drew _)
 generalize w4.drew=w5 at *
 refine ztk 0 (.pointer (some ⟨g6,0,none⟩)) ?_
 try simp only [zpt]
 refine ztk 1 (.slice (some ⟨g6,0,none⟩) 32 32) ?_
 try simp only [zpt]
 refine ztk 2 (.slice (some ⟨gr,0,none⟩) 32 32) ?_
 try simp only [zpt]
 refine ztk 5 (.int .i64 ep) ?_
 try simp only [zpt]
 refine zph (fun i=>if i=4 then [3] else []) [3,4,6] (fun zT d a w'=>∃ x14 x15 x17:Value,a={ tmps:=(((zT.set 14 x14).set 15 x15).set 17 x17).toArray,defers:=[] }/\Hid (Below w5.heap.size w5 w')/\(d 3=true->Hid (Lt w' w5.heap.size x14 [115,101,97,108]))/\(d 4=true->Hid (Lt w' w5.heap.size x15 [115,101,97,108]))/\(d 6=true->Hid (Nw w' w5.heap.size x17 le))) 3 3 ?step5 ?init5 ?fin5
 case init5=>refine ⟨_,_,_,rfl,Below.refl _ _,?_,?_,?_⟩ <;> (intro h; exact absurd h (by decide))
 case step5 =>
  intro i hi d a v5 hI hdi hdeps
  obtain ⟨x14,x15,x17,ha,BW,h3,h4,h6⟩:=hI
  simp only [zpt] at ha; subst ha
  have hsw:=BW.out.size
  simp only [List.mem_cons,List.not_mem_nil,or_false] at hi
  rcases hi with rfl | rfl | rfl
  ·have hX:=alloc_below v5 (.cells #[.int .u8 115,.int .u8 101,.int .u8 97,.int .u8 108] 5)
   refine zst fun K hK=>?_
   go_simp
   refine hK _ _ ?_; clear hK K; try simp only [zpt]
   exact ⟨_,_,_,rfl,BW.out.trans (hX.mono hsw),fun _=>Lt.new _ _ _ _ _ (by rfl) rfl hsw,fun a=>(h4 (by simpa using a)).out.below hX,fun a=>(h6 (by simpa using a)).out.below hX⟩
  ·have hL:=h3 (hdeps 3 (by simp))
   obtain ⟨u5,hcv,hF,hBz⟩:=conv_mark hL.out
   refine zst fun K hK=>?_
   go_simp
   refine hK _ _ ?_; clear hK K; try simp only [zpt]
   exact ⟨_,_,_,rfl,hBz _ BW.out,fun a=>(h3 (by simpa using a)).out.fz hF,fun _=>hL.out.fz hF,fun a=>(h6 (by simpa using a)).out.fz hF⟩
  ·refine zst fun K hK=>?_
   go_simp
   refine (CRP.out v5).mono ?_
   rintro e u5 ⟨v17,rfl,hO,hX⟩
   refine hK _ _ ?_; clear hK K; try simp only [zpt]
   exact ⟨_,_,_,rfl,BW.out.trans (hX.mono hsw),fun a=>(h3 (by simpa using a)).out.below hX,fun a=>(h4 (by simpa using a)).out.below hX,fun _=>Nw.ofOw hO hsw⟩
 case fin5 =>
  intro a v5 hI
  obtain ⟨x14,x15,x17,ha,BW,h3,h4,h6⟩:=hI
  simp only [zpt] at ha; subst ha
  obtain ⟨gl3,rfl,_,_,_⟩:=(h3 (by decide)).out.rd (k:=4) rfl (by omega)
  obtain ⟨gm3,rfl,_,_,hRl⟩:=(h4 (by decide)).out.rd (k:=4) rfl (by omega)
  obtain ⟨A17,c17,rfl,hR17,_⟩:=(h6 (by decide)).out.rd LME.out
  replace W5:=qt W5 BW.out
  replace Z5:=qh (Z5.out.below BW.out Z5.out.lt)
  replace K5:=qh (K5.out.below BW.out K5.out.lt)
  replace G5:=qh (G5.out.below BW.out G5.out.lt)
  have RL:=qh hRl
  have R17:=qh hR17
  clear h3 h4 hRl BW h6 hR17 CRP
  try dsimp only
  obtain ⟨b17,o17,rfl,_,_⟩:=R17.out.at_ hme0.1
  refine zrd 7 fun K hK=>?_
  refine step_full rfl (.tmp 15) (.tmp 17) rfl rfl rfl RL.out R17.out (by omega) hme0.1 (by omega) ?_
  intro c18 w18 hR18 hX
  replace W5:=qt W5 hX
  replace Z5:=qh (Z5.out.below hX Z5.out.lt)
  replace K5:=qh (K5.out.below hX K5.out.lt)
  replace G5:=qh (G5.out.below hX G5.out.lt)
  replace RL:=qh hR18
  clear hR18 hX R17
  refine hK _ _ ?_; clear hK K; try simp only [zpt]
  refine zrd 8 fun K hK=>?_
  go_simp
  refine (CE1.out w18 _ _ _ _ (by have:=K5.out; rw [HD.out] at this; exact blk_rd32 this LRT.out) RL.out (by omega)).mono ?_
  rintro e w6a ⟨A23,c23,rfl,hR,hX⟩
  replace W5:=qt W5 hX
  replace Z5:=qh (Z5.out.below hX Z5.out.lt)
  replace K5:=qh (K5.out.below hX K5.out.lt)
  replace G5:=qh (G5.out.below hX G5.out.lt)
  obtain ⟨w6,hcopy,hB,hO⟩:=copy_part (off:=0) G5.out hR rfl LZ1.out
  rw [K1.out] at hB
  have W4:=qh (below_of_only W5.out hO (by omega) W5.out.size)
  have Z4:Hid (Blk w6 w.heap.size 69 Z9):=(hO.block _ Z5.out.lt (by simp; omega)).trans Z5.out
  have K4:Hid (Blk w6 gr 46 D):=(hO.block _ K5.out.lt (by simp; omega)).trans K5.out
  have G6:Hid (Blk w6 g6 69 (k1 ++ z1 ++ z1)):=by unfold Hid; rw [show k1 ++ z1 ++ z1=[] ++ k1 ++ (z1 ++ z1) by simp]; exact hB
  clear hR hX hO hB W5 Z5 K5 G5 RL CE1
  refine hK _ _ ?_; clear hK K; try simp only [zpt]
  refine zrd 9 fun K hK=>?_
  go_simp
  clear hcopy
  refine hK _ _ ?_; clear hK K; try simp only [zpt]
  refine wpAny_done (by kernel_rfl) ?_ _
  go_upto_region 4 with (fail)
  have W5:=qh W4.out.drew
  have Z5:=qh Z4.out.drew
  have K5:=qh K4.out.drew
  have G5:=qh G6.out.drew
  clear W4 Z4 K4 G6
  refine wp_region_any (by kernel_rfl) ?_
  change wpAny _ _ _ _ _ _ _ (World.drew _)
  generalize w6.drew=w7 at *
  refine ztk 0 (.pointer (some ⟨g6,32,none⟩)) ?_
  try simp only [zpt]
  refine ztk 1 (.slice (some ⟨g6,32,none⟩) 32 32) ?_
  try simp only [zpt]
  refine ztk 2 (.slice (some ⟨gr,0,none⟩) 32 32) ?_
  try simp only [zpt]
  refine zph (fun i=>if i=4 then [3] else []) [3,4] (fun zT d a w'=>∃ x24 x25:Value,a={ tmps:=((zT.set 24 x24).set 25 x25).toArray,defers:=[] }/\Hid (Below w7.heap.size w7 w')/\(d 3=true->Hid (Lt w' w7.heap.size x24 [109,97,114,107]))/\(d 4=true->Hid (Lt w' w7.heap.size x25 [109,97,114,107]))) 2 2 ?step15 ?init15 ?fin15
  case init15=>refine ⟨_,_,rfl,Below.refl _ _,?_,?_⟩ <;> (intro h; exact absurd h (by decide))
  case step15 =>
   intro i hi d a v15 hI hdi hdeps
   obtain ⟨x24,x25,ha,BW,h3,h4⟩:=hI
   simp only [zpt] at ha; subst ha
   have hsw:=BW.out.size
   simp only [List.mem_cons,List.not_mem_nil,or_false] at hi
   rcases hi with rfl | rfl
   ·have hX:=alloc_below v15 (.cells #[.int .u8 109,.int .u8 97,.int .u8 114,.int .u8 107] 5)
    refine zst fun K hK=>?_
    go_simp
    refine hK _ _ ?_; clear hK K; try simp only [zpt]
    exact ⟨_,_,rfl,BW.out.trans (hX.mono hsw),fun _=>Lt.new _ _ _ _ _ (by rfl) rfl hsw,fun a=>(h4 (by simpa using a)).out.below hX⟩
   ·have hL:=h3 (hdeps 3 (by simp))
    obtain ⟨u15,hcv,hF,hBz⟩:=conv_mark hL.out
    refine zst fun K hK=>?_
    go_simp
    refine hK _ _ ?_; clear hK K; try simp only [zpt]
    exact ⟨_,_,rfl,hBz _ BW.out,fun a=>(h3 (by simpa using a)).out.fz hF,fun _=>hL.out.fz hF⟩
  case fin15 =>
   intro a v15 hI
   obtain ⟨x24,x25,ha,BW,h3,h4⟩:=hI
   simp only [zpt] at ha; subst ha
   obtain ⟨gl4,rfl,_,_,_⟩:=(h3 (by decide)).out.rd (k:=4) rfl (by omega)
   obtain ⟨gm4,rfl,_,_,hRl⟩:=(h4 (by decide)).out.rd (k:=4) rfl (by omega)
   replace W5:=qt W5 BW.out
   replace Z5:=qh (Z5.out.below BW.out Z5.out.lt)
   replace K5:=qh (K5.out.below BW.out K5.out.lt)
   replace G5:=qh (G5.out.below BW.out G5.out.lt)
   have RL:=qh hRl
   clear h3 h4 hRl BW
   try dsimp only
   refine zrd 5 fun K hK=>?_
   go_simp
   refine (CE2.out v15 _ _ _ _ (by have:=K5.out; rw [HD.out] at this; exact blk_rd32 this LRT.out) RL.out (by omega)).mono ?_
   rintro e w8a ⟨A24,c24,rfl,hR,hX⟩
   replace W5:=qt W5 hX
   replace Z5:=qh (Z5.out.below hX Z5.out.lt)
   replace K5:=qh (K5.out.below hX K5.out.lt)
   replace G5:=qh (G5.out.below hX G5.out.lt)
   obtain ⟨w8,hcopy,hB,hO⟩:=copy_part (off:=32) G5.out hR L1.out LZ1.out
   rw [K2.out] at hB
   have W4:=qh (below_of_only W5.out hO (by omega) W5.out.size)
   have Z4:Hid (Blk w8 w.heap.size 69 Z9):=(hO.block _ Z5.out.lt (by simp; omega)).trans Z5.out
   have K4:Hid (Blk w8 gr 46 D):=(hO.block _ K5.out.lt (by simp; omega)).trans K5.out
   have G6:Hid (Blk w8 g6 69 (k1 ++ k2 ++ z1 ++ [])):=by unfold Hid; rw [show k1 ++ k2 ++ z1 ++ []=k1 ++ k2 ++ z1 by simp]; exact hB
   clear hR hX hO hB W5 Z5 K5 G5 RL CE2
   refine hK _ _ ?_; clear hK K; try simp only [zpt]
   refine zrd 6 fun K hK=>?_
   go_simp
   clear hcopy
   refine hK _ _ ?_; clear hK K; try simp only [zpt]
   refine wpAny_done (by kernel_rfl) ?_ _
   go_upto_region 5 with (fail)
   have W5:=qh W4.out.drew
   have Z5:=qh Z4.out.drew
   have K5:=qh K4.out.drew
   have G5:=qh G6.out.drew
   clear W4 Z4 K4 G6
   refine wp_region_any (by kernel_rfl) ?_
   change wpAny _ _ _ _ _ _ _ (World.drew _)
   generalize w8.drew=w9 at *
   refine ztk 0 (.pointer (some ⟨g6,64,none⟩)) ?_
   try simp only [zpt]
   refine ztk 1 (.slice (some ⟨g6,64,none⟩) 32 32) ?_
   try simp only [zpt]
   refine ztk 2 (.slice (some ⟨gr,0,none⟩) 32 32) ?_
   try simp only [zpt]
   refine zph (fun i=>if i=4 then [3] else []) [3,4] (fun zT d a w'=>∃ x31 x32:Value,a={ tmps:=((zT.set 31 x31).set 32 x32).toArray,defers:=[] }/\Hid (Below w9.heap.size w9 w')/\(d 3=true->Hid (Lt w' w9.heap.size x31 [108,97,98,101,108]))/\(d 4=true->Hid (Lt w' w9.heap.size x32 [108,97,98,101,108]))) 2 2 ?step23 ?init23 ?fin23
   case init23=>refine ⟨_,_,rfl,Below.refl _ _,?_,?_⟩ <;> (intro h; exact absurd h (by decide))
   case step23 =>
    intro i hi d a v23 hI hdi hdeps
    obtain ⟨x31,x32,ha,BW,h3,h4⟩:=hI
    simp only [zpt] at ha; subst ha
    have hsw:=BW.out.size
    simp only [List.mem_cons,List.not_mem_nil,or_false] at hi
    rcases hi with rfl | rfl
    ·have hX:=alloc_below v23 (.cells #[.int .u8 108,.int .u8 97,.int .u8 98,.int .u8 101,.int .u8 108] 5)
     refine zst fun K hK=>?_
     go_simp
     refine hK _ _ ?_; clear hK K; try simp only [zpt]
     exact ⟨_,_,rfl,BW.out.trans (hX.mono hsw),fun _=>Lt.new _ _ _ _ _ (by rfl) rfl hsw,fun a=>(h4 (by simpa using a)).out.below hX⟩
    ·have hL:=h3 (hdeps 3 (by simp))
     obtain ⟨u23,hcv,hF,hBz⟩:=conv_mark hL.out
     refine zst fun K hK=>?_
     go_simp
     refine hK _ _ ?_; clear hK K; try simp only [zpt]
     exact ⟨_,_,rfl,hBz _ BW.out,fun a=>(h3 (by simpa using a)).out.fz hF,fun _=>hL.out.fz hF⟩
   case fin23 =>
    intro a v23 hI
    obtain ⟨x31,x32,ha,BW,h3,h4⟩:=hI
    simp only [zpt] at ha; subst ha
    obtain ⟨gl5,rfl,_,_,_⟩:=(h3 (by decide)).out.rd (k:=5) rfl (by omega)
    obtain ⟨gm5,rfl,_,_,hRl⟩:=(h4 (by decide)).out.rd (k:=5) rfl (by omega)
    replace W5:=qt W5 BW.out
    replace Z5:=qh (Z5.out.below BW.out Z5.out.lt)
    replace K5:=qh (K5.out.below BW.out K5.out.lt)
    replace G5:=qh (G5.out.below BW.out G5.out.lt)
    have RL:=qh hRl
    clear h3 h4 hRl BW
    try dsimp only
    refine zrd 5 fun K hK=>?_
    go_simp
    refine (CE3.out v23 _ _ _ _ (by have:=K5.out; rw [HD.out] at this; exact blk_rd32 this LRT.out) RL.out (by omega)).mono ?_
    rintro e waa ⟨A25,c25,rfl,hR,hX⟩
    replace W5:=qt W5 hX
    replace Z5:=qh (Z5.out.below hX Z5.out.lt)
    replace K5:=qh (K5.out.below hX K5.out.lt)
    replace G5:=qh (G5.out.below hX G5.out.lt)
    obtain ⟨wa,hcopy,hB,hO⟩:=copy_part (off:=64) G5.out hR (by rw [List.length_append,L1.out,L2.out]) LZ1.out
    rw [K3.out] at hB
    have W4:=qh (below_of_only W5.out hO (by omega) W5.out.size)
    have Z4:Hid (Blk wa w.heap.size 69 Z9):=(hO.block _ Z5.out.lt (by simp; omega)).trans Z5.out
    have K4:Hid (Blk wa gr 46 D):=(hO.block _ K5.out.lt (by simp; omega)).trans K5.out
    have G6:Hid (Blk wa g6 69 (k1 ++ k2 ++ k3)):=by unfold Hid; rw [show k1 ++ k2 ++ k3=k1 ++ k2 ++ k3 ++ [] by simp]; exact hB
    clear hR hX hO hB W5 Z5 K5 G5 RL CE3
    refine hK _ _ ?_; clear hK K; try simp only [zpt]
    refine zrd 6 fun K hK=>?_
    go_simp
    clear hcopy
    refine hK _ _ ?_; clear hK K; try simp only [zpt]
    refine wpAny_done (by kernel_rfl) ?_ _
    have G7:Hid (Blk wa g6 69 kk):=by unfold Hid; rw [HKJ.out]; exact G6.out
    go_wp2_with (first
     | (with_reducible refine load_law rfl 69 (.tmp 6) rfl g6 0 rfl kk _ Tryz.underlying69 rfl IKK.out G7.out.cells ?_)
     | ((with_reducible refine storeGen_law rfl 69 (.tmp 4) (.tmp 35) rfl w.heap.size rfl kk rfl 69 Z9 IKK.out LKK.out OKK.out w.heap.size w Z4.out W4.out (Nat.le_refl _) ?_); intro wb Bb Wb))
    exact bodyPost_ret (results_cell_row rfl _ _ w.heap.size 69 kk.toArray (0,0) _ rfl Bb.out Tryz.underlying69 rfl (by rw [IKK.out]; simp)) rfl ⟨by rw [HKK.out],Wb.out⟩
open Go.RowKit
theorem rkeys_field0 (k:List Value) (a b c:List Value) (W:World) (hk:k=a ++ b ++ c) (ha:a.length=32) (hb:b.length=32) (hc:c.length=32):(Instr.field 69 (.agg k.toArray) 0).run Tryz.prog W = .ok (.agg a.toArray) W:=by
 subst hk
 obtain ⟨a0,a1,a2,a3,a4,a5,a6,a7,a8,a9,a10,a11,a12,a13,a14,a15,a16,a17,a18,a19,a20,a21,a22,a23,a24,a25,a26,a27,a28,a29,a30,a31,rfl⟩:=list32 ha
 obtain ⟨b0,b1,b2,b3,b4,b5,b6,b7,b8,b9,b10,b11,b12,b13,b14,b15,b16,b17,b18,b19,b20,b21,b22,b23,b24,b25,b26,b27,b28,b29,b30,b31,rfl⟩:=list32 hb
 obtain ⟨c0,c1,c2,c3,c4,c5,c6,c7,c8,c9,c10,c11,c12,c13,c14,c15,c16,c17,c18,c19,c20,c21,c22,c23,c24,c25,c26,c27,c28,c29,c30,c31,rfl⟩:=list32 hc
 kernel_rfl
theorem step_own {ops:Array Oper} {o:Oper} {a:Act} {K:Act->World->Prop} {Q:Exit->Act->World->Prop} {E:Prop} {wr:World} {B:Nat} {v:Value} {l:List UInt8} (hgd:o.guard=none) (s x:Operand)
  (ho:o.op = .call { callee:=.builtin .append,args:=#[s,x],argTypes:=#[24,24] }) (hs:a.eval s=v) {ad:Addr} {m c:Nat} {news:List UInt8} (hx:a.eval x = .slice (some ad) m c) (hr:Rd wr (some ad) m c news) (hown:Ow wr B v l)
  (hlen:l.length + m<=140737488355328) (hm:0 < m) (hB:B<=wr.heap.size)
  (h:∀ v' w',Ow w' B v' (l ++ news)->wr.grownBy w' v.ownBlock->K (a.put o.dst v') w'):if Region.wanted o (yielded ops a.tmps)=true then o.wp Tryz.prog a wr K Q else E:=by
 obtain ⟨i0,hi,hz0,hz1,hz2⟩:=info_parts info5
 rw [if_pos (by simp [Region.wanted,hgd])]
 refine wp_append_own _ s x 24 ho B 5 i0 (.int .u8 0) 1 1 Tryz.underlying24 hi hz0 hz1 hz2 rfl (by decide) v l.length (l.map cellOf) hs hown ad m c (news.map cellOf) hx (by simpa using hr.len)
  (fun j u hu=>?_) (cells_u8 news) (by unfold maxLen; omega) (by omega) hB ?_
 ·have hj:j < news.length:=by simpa using (List.getElem?_eq_some_iff.1 hu).1
  obtain ⟨b,off,e,_,hc⟩:=hr.at_ hm
  injection e with e
  subst e
  rw [add_plain,hc j (by have:=hr.len; omega),<- hu]
  simp [List.getD_eq_getElem?_getD,List.getElem?_eq_getElem hj]
 ·intro v' w' h2 h3 _
  have hn:=hr.len
  subst hn
  exact h v' w' (by unfold Ow; simpa using h2) h3
theorem Ow.some_ {w:World} {b:Nat} {v:Value} {l:List UInt8} (h:Ow w b v l) (h0:0 < l.length):∃ ad c,v = .slice (some ad) l.length c/\Rd w (some ad) l.length c l/\b<=ad.block:=by
 obtain ⟨A,c,e,hr,hg⟩:=h.value
 obtain ⟨g,rfl,hb⟩:=hg h0
 exact ⟨_,c,e,hr,hb⟩
theorem rseal_no {w:World} {xp:Value} {A:Option Addr} {n c:Nat} {lb:List UInt8} (r:Rc.R) (ep nonce:Int) (hg:Gl w) (hlb:lb.length=32) (hno:Rc.may r=false ∨ ep < 0 ∨ nonce < 0) :
  Calls Tryz.prog 16 #[xp,.slice A n c,.int .i64 ep,.int .i64 nonce,.agg (lb.map cellOf).toArray,recV r] w fun e w'=>e = .returned (.tuple #[envV 0 0 [],.int .i64 1])/\Below w.heap.size w w':=by
 obtain ⟨pl,hpl⟩:=zx (if Rc.may r then Rc.put r else [])
 obtain ⟨er,her⟩:=zx (if Rc.may r then 0 else 1:Int)
 have HNO:Hid (er ≠ 0 ∨ ep < 0 ∨ nonce < 0):=by
  rcases hno with h | h
  ·left
   rw [her,h]
   decide
  ·exact .inr h
 have CP:Hid (∀ W:World,Below w.heap.size w W->Calls Tryz.prog 9 #[recV r] W (RetE W pl er)):=fun W hW=>by
  rw [hpl,her]
  by_cases h:Rc.may r=true
  ·rw [if_pos h,if_pos h]
   exact rput_may r (hg.below hW hg.size) h
  ·rw [if_neg h,if_neg h]
   exact rput_no r W (by simpa using h)
 clear hg
 obtain ⟨lc,hlc⟩:=zx (lb.map cellOf)
 obtain ⟨L,hL⟩:=zx (recL r)
 have IR:Hid ((Tryz.prog.info? 23).map (·.size)=some L.length):=by unfold Hid; rw [hL]; kernel_rfl
 unfold recV at *
 rw [<- hL] at CP ⊢
 rw [<- hlc]
 obtain ⟨E0,hE0⟩:=zx (envL 0 0 [])
 have HE0:=qh hE0
 have IE:Hid ((Tryz.prog.info? 42).map (·.size)=some E0.length):=by unfold Hid; rw [hE0]; kernel_rfl
 have OE:Hid (∀ v ∈ E0,v.oneCell'=true):=by unfold Hid; rw [hE0]; simp [envL,Value.oneCell']
 have BE:Hid (Tryz.prog.built 42 []=some E0.toArray):=by unfold Hid; rw [hE0]; kernel_rfl
 unfold envV
 rw [<- hE0]
 clear hlc hL hE0 hpl her hno hlb
 go_enter Tryz.func16,Tryz.ntmps16
 go_upto_region 1 with (fail)
 obtain ⟨w1,hw1⟩:=zx (((w.alloc (.cells lc.toArray 46)).alloc (.cells L.toArray 23)).alloc (.cells #[.int .i64 0,.int .i64 0,.string ⟨#[]⟩] 42))
 have B2:Hid (Blk w1 (w.heap.size + 1) 23 L):=by unfold Hid; rw [hw1]; exact (Blk.at_new _ _ 23 _ _ rfl (by simp)).alloc _
 have B3:Hid (Blk w1 (w.heap.size + 1 + 1) 42 E0):=by unfold Hid; rw [hw1,HE0.out]; exact Blk.at_new _ _ 42 _ _ rfl (by simp)
 have W1:Hid (Below w.heap.size w w1):=by unfold Hid; rw [hw1]; exact (((Below.refl _ _).alloc (Nat.le_refl _) _).alloc (by simp) _).alloc (by simp; omega) _
 rw [<- hw1]
 clear hw1
 go_wp2_with (with_reducible refine load_law rfl 23 (.tmp 11) rfl (w.heap.size + 1) 0 rfl L _ Tryz.underlying23 rfl IR.out B2.out.cells ?_)
 refine (CP.out w1 W1.out).mono ?_
 rintro e w2 ⟨A2,n2,c2,rfl,_,hX,_⟩
 have W2:=qt W1 hX
 have Z2:=qh (B3.out.below hX B3.out.lt)
 clear hX B2 B3 W1 CP
 by_cases h1:er=0
 ·subst h1
  by_cases h2:ep < 0
  ·go_wp2_with (first
    | (with_reducible refine build_law rfl 42 #[] rfl E0 (by simp only [List.map_toArray,List.map_nil]; exact BE.out) ?_)
    | ((with_reducible refine storeGen_law rfl 42 (.tmp 12) (.tmp 32) rfl (w.heap.size + 1 + 1) rfl E0 rfl 42 E0 IE.out rfl OE.out w.heap.size w Z2.out W2.out (by omega) ?_); intro w3 B3 W3))
   exact bodyPost_ret (results_row_tmp rfl _ _ (w.heap.size + 1 + 1) 42 E0.toArray (0,0) _ _ rfl rfl B3.out Tryz.underlying42 rfl (by rw [IE.out]; simp)) rfl ⟨rfl,W3.out⟩
  ·have h3:nonce < 0:=by rcases HNO.out with h | h | h <;> first | exact absurd rfl h | omega
   go_wp2_with (first
    | (with_reducible refine build_law rfl 42 #[] rfl E0 (by simp only [List.map_toArray,List.map_nil]; exact BE.out) ?_)
    | ((with_reducible refine storeGen_law rfl 42 (.tmp 12) (.tmp 32) rfl (w.heap.size + 1 + 1) rfl E0 rfl 42 E0 IE.out rfl OE.out w.heap.size w Z2.out W2.out (by omega) ?_); intro w3 B3 W3))
   exact bodyPost_ret (results_row_tmp rfl _ _ (w.heap.size + 1 + 1) 42 E0.toArray (0,0) _ _ rfl rfl B3.out Tryz.underlying42 rfl (by rw [IE.out]; simp)) rfl ⟨rfl,W3.out⟩
 ·go_wp2_with (first
   | (with_reducible refine build_law rfl 42 #[] rfl E0 (by simp only [List.map_toArray,List.map_nil]; exact BE.out) ?_)
   | ((with_reducible refine storeGen_law rfl 42 (.tmp 12) (.tmp 32) rfl (w.heap.size + 1 + 1) rfl E0 rfl 42 E0 IE.out rfl OE.out w.heap.size w Z2.out W2.out (by omega) ?_); intro w3 B3 W3))
  exact bodyPost_ret (results_row_tmp rfl _ _ (w.heap.size + 1 + 1) 42 E0.toArray (0,0) _ _ rfl rfl B3.out Tryz.underlying42 rfl (by rw [IE.out]; simp)) rfl ⟨rfl,W3.out⟩
theorem rrseal_no {w:World} {xp:Value} {A:Option Addr} {n c:Nat} {lb:List UInt8} (r:Rc.R) (ep nonce:Int) (hlb:lb.length=32) (hno:Rc.may r=false ∨ ep < 0 ∨ nonce < 0) :
  Calls Tryz.prog 17 #[xp,.slice A n c,.int .i64 ep,.int .i64 nonce,.agg (lb.map cellOf).toArray,recV r] w fun e w'=>e = .returned (.tuple #[envV 0 0 [],.int .i64 1])/\Below w.heap.size w w':=by
 obtain ⟨pl,hpl⟩:=zx (if Rc.may r then Rc.put r else [])
 obtain ⟨er,her⟩:=zx (if Rc.may r then 0 else 1:Int)
 have HNO:Hid (er ≠ 0 ∨ ep < 0 ∨ nonce < 0):=by
  rcases hno with h | h
  ·left
   rw [her,h]
   decide
  ·exact .inr h
 have CP:Hid (∀ W:World,Below w.heap.size w W->Calls Tryz.prog 10 #[recV r] W (RetE W pl er)):=fun W hW=>by
  rw [hpl,her]
  exact rrput_any r W
 obtain ⟨lc,hlc⟩:=zx (lb.map cellOf)
 obtain ⟨L,hL⟩:=zx (recL r)
 have IR:Hid ((Tryz.prog.info? 23).map (·.size)=some L.length):=by unfold Hid; rw [hL]; kernel_rfl
 unfold recV at *
 rw [<- hL] at CP ⊢
 rw [<- hlc]
 obtain ⟨E0,hE0⟩:=zx (envL 0 0 [])
 have HE0:=qh hE0
 have IE:Hid ((Tryz.prog.info? 42).map (·.size)=some E0.length):=by unfold Hid; rw [hE0]; kernel_rfl
 have OE:Hid (∀ v ∈ E0,v.oneCell'=true):=by unfold Hid; rw [hE0]; simp [envL,Value.oneCell']
 have BE:Hid (Tryz.prog.built 42 []=some E0.toArray):=by unfold Hid; rw [hE0]; kernel_rfl
 unfold envV
 rw [<- hE0]
 clear hlc hL hE0 hpl her hno hlb
 go_enter Tryz.func17,Tryz.ntmps17
 go_upto_region 1 with (fail)
 obtain ⟨w1,hw1⟩:=zx (((w.alloc (.cells lc.toArray 46)).alloc (.cells L.toArray 23)).alloc (.cells #[.int .i64 0,.int .i64 0,.string ⟨#[]⟩] 42))
 have B2:Hid (Blk w1 (w.heap.size + 1) 23 L):=by unfold Hid; rw [hw1]; exact (Blk.at_new _ _ 23 _ _ rfl (by simp)).alloc _
 have B3:Hid (Blk w1 (w.heap.size + 1 + 1) 42 E0):=by unfold Hid; rw [hw1,HE0.out]; exact Blk.at_new _ _ 42 _ _ rfl (by simp)
 have W1:Hid (Below w.heap.size w w1):=by unfold Hid; rw [hw1]; exact (((Below.refl _ _).alloc (Nat.le_refl _) _).alloc (by simp) _).alloc (by simp; omega) _
 rw [<- hw1]
 clear hw1
 go_wp2_with (with_reducible refine load_law rfl 23 (.tmp 11) rfl (w.heap.size + 1) 0 rfl L _ Tryz.underlying23 rfl IR.out B2.out.cells ?_)
 refine (CP.out w1 W1.out).mono ?_
 rintro e w2 ⟨A2,n2,c2,rfl,_,hX,_⟩
 have W2:=qt W1 hX
 have Z2:=qh (B3.out.below hX B3.out.lt)
 clear hX B2 B3 W1 CP
 by_cases h1:er=0
 ·subst h1
  by_cases h2:ep < 0
  ·go_wp2_with (first
    | (with_reducible refine build_law rfl 42 #[] rfl E0 (by simp only [List.map_toArray,List.map_nil]; exact BE.out) ?_)
    | ((with_reducible refine storeGen_law rfl 42 (.tmp 12) (.tmp 32) rfl (w.heap.size + 1 + 1) rfl E0 rfl 42 E0 IE.out rfl OE.out w.heap.size w Z2.out W2.out (by omega) ?_); intro w3 B3 W3))
   exact bodyPost_ret (results_row_tmp rfl _ _ (w.heap.size + 1 + 1) 42 E0.toArray (0,0) _ _ rfl rfl B3.out Tryz.underlying42 rfl (by rw [IE.out]; simp)) rfl ⟨rfl,W3.out⟩
  ·have h3:nonce < 0:=by rcases HNO.out with h | h | h <;> first | exact absurd rfl h | omega
   go_wp2_with (first
    | (with_reducible refine build_law rfl 42 #[] rfl E0 (by simp only [List.map_toArray,List.map_nil]; exact BE.out) ?_)
    | ((with_reducible refine storeGen_law rfl 42 (.tmp 12) (.tmp 32) rfl (w.heap.size + 1 + 1) rfl E0 rfl 42 E0 IE.out rfl OE.out w.heap.size w Z2.out W2.out (by omega) ?_); intro w3 B3 W3))
   exact bodyPost_ret (results_row_tmp rfl _ _ (w.heap.size + 1 + 1) 42 E0.toArray (0,0) _ _ rfl rfl B3.out Tryz.underlying42 rfl (by rw [IE.out]; simp)) rfl ⟨rfl,W3.out⟩
 ·go_wp2_with (first
   | (with_reducible refine build_law rfl 42 #[] rfl E0 (by simp only [List.map_toArray,List.map_nil]; exact BE.out) ?_)
   | ((with_reducible refine storeGen_law rfl 42 (.tmp 12) (.tmp 32) rfl (w.heap.size + 1 + 1) rfl E0 rfl 42 E0 IE.out rfl OE.out w.heap.size w Z2.out W2.out (by omega) ?_); intro w3 B3 W3))
  exact bodyPost_ret (results_row_tmp rfl _ _ (w.heap.size + 1 + 1) 42 E0.toArray (0,0) _ _ rfl rfl B3.out Tryz.underlying42 rfl (by rw [IE.out]; simp)) rfl ⟨rfl,W3.out⟩
theorem rrseal_gen {w:World} {xp:Value} {A:Option Addr} {n c:Nat} {s lb out:List UInt8} (r:Rc.R) (ep nonce:Int) (F:World->World->Prop) (hr:Rd w A n c s) (hn:n<=1000000) (hm:Rc.may r=true)
  (e0:0<=ep) (e1:ep<=9223372036854775807) (n0:0<=nonce) (hlb:lb.length=32) (ho:0 < out.length)
  (hF:∀ w1 w2:World,F w1 w2->w1.heap.size<=w2.heap.size/\∀ i,w.heap.size<=i->i < w1.heap.size->w2.heap[i]?=w1.heap[i]?)
  (HS:∀ (w1:World) (A1 A2:Option Addr) (n1 n2 c1 c2:Nat),Below w.heap.size w w1->Rd w1 A1 n1 c1 (Rc.beside lb ep)->(∀ x,A1=some x->0 < n1->w.heap.size<=x.block)->Rd w1 A2 n2 c2 (Rc.put r)->(∀ x,A2=some x->0 < n2->w.heap.size<=x.block) ->
   Calls Tryz.prog 36 #[xp,.agg ((Rc.sealKey s ep).map cellOf).toArray,.int .i64 nonce,.slice A1 n1 c1,.slice A2 n2 c2] w1 fun e w2=>∃ A3 c3,e = .returned (.slice A3 out.length c3)/\Rd w2 A3 out.length c3 out/\F w1 w2) :
  Calls Tryz.prog 17 #[xp,.slice A n c,.int .i64 ep,.int .i64 nonce,.agg (lb.map cellOf).toArray,recV r] w fun e w'=>e = .returned (.tuple #[envV ep nonce out,.int .i64 0])/\∃ w1 w2 gr,w.heap.size<=gr/\gr < w1.heap.size/\Below w.heap.size w w1/\F w1 w2/\w2.grownBy w' (some gr):=by
 have HR:=qh hr
 have HSE:=qh HS
 have HFR:=qh hF
 have CP:=qh (fun (W:World)=>rrput_may r W hm)
 have CK:=qh (fun (W:World) (hR:Rd W A n c s)=>rkeys_any ep hR hn (by omega) e1)
 have CU:=qh (fun (W:World)=>rput_any ep W (by omega) e1)
 clear hr HS hF hm
 obtain ⟨lc,hlc⟩:=zx (lb.map cellOf)
 have HLC:=qh hlc
 obtain ⟨L,hL⟩:=zx (recL r)
 have IR:Hid ((Tryz.prog.info? 23).map (·.size)=some L.length):=by unfold Hid; rw [hL]; kernel_rfl
 obtain ⟨kk,hkk⟩:=zx ((Rc.keysOf s ep).map cellOf)
 obtain ⟨k1,hk1⟩:=zx ((Rc.sealKey s ep).map cellOf)
 have hfd:=fun W=>rkeys_field0 kk k1 ((Rc.markKey s).map cellOf) ((Rc.labelKey s).map cellOf) W (by rw [hkk,hk1,Rc.keysOf,List.map_append,List.map_append]) (by rw [hk1,List.length_map,Rc.sealKey_length]) (by rw [List.length_map,Rc.markKey_length]) (by rw [List.length_map,Rc.labelKey_length])
 unfold recV RetH at *
 rw [<- hL] at CP
 rw [<- hL,<- hlc]
 rw [<- hkk] at CK
 rw [<- hk1] at HSE
 obtain ⟨E0,hE0⟩:=zx (envL 0 0 [])
 have HE0:=qh hE0
 have IE:Hid ((Tryz.prog.info? 42).map (·.size)=some ([.int .i64 ep,.int .i64 nonce,.string ⟨out.toArray⟩]:List Value).length):=by unfold Hid; kernel_rfl
 have LE:Hid (E0.length=([.int .i64 ep,.int .i64 nonce,.string ⟨out.toArray⟩]:List Value).length):=by unfold Hid; rw [hE0]; rfl
 have OE:Hid (∀ v ∈ ([.int .i64 ep,.int .i64 nonce,.string ⟨out.toArray⟩]:List Value),v.oneCell'=true):=by unfold Hid; simp [Value.oneCell']
 obtain ⟨mo,hmo⟩:=zx (out.length)
 rw [<- hmo] at HSE
 have hmo0:0 < mo:=by omega
 obtain ⟨le,hle⟩:=zx (Num.enc (Num.zig ep):List UInt8)
 have hbs:Rc.beside lb ep=lb ++ le:=by rw [hle]; rfl
 have hle0:0 < le.length/\le.length<=10:=by have:=Num.enc_len10 (Num.zig_lt ep (by omega) e1); have:=Num.enc_pos (Num.zig ep); rw [hle]; omega
 rw [hbs] at HSE
 rw [<- hle] at CU
 have HBL:=qh hlb
 clear hlc hL hkk hk1 hE0 hmo hbs hlb ho hle
 go_enter Tryz.func17,Tryz.ntmps17
 go_upto_region 1 with (fail)
 obtain ⟨w1,hw1⟩:=zx (((w.alloc (.cells lc.toArray 46)).alloc (.cells L.toArray 23)).alloc (.cells #[.int .i64 0,.int .i64 0,.string ⟨#[]⟩] 42))
 have B1:Blk w1 w.heap.size 46 lc:=by rw [hw1]; exact ((Blk.new w 46 _).alloc _).alloc _
 have B2:Blk w1 (w.heap.size + 1) 23 L:=by rw [hw1]; exact (Blk.at_new _ _ 23 _ _ rfl (by simp)).alloc _
 have B3:Blk w1 (w.heap.size + 1 + 1) 42 E0:=by rw [hw1,HE0.out]; exact Blk.at_new _ _ 42 _ _ rfl (by simp)
 have W1:Below w.heap.size w w1:=by rw [hw1]; exact (((Below.refl _ _).alloc (Nat.le_refl _) _).alloc (by simp) _).alloc (by simp; omega) _
 have hs1:w.heap.size + 1 + 1 < w1.heap.size:=B3.lt
 rw [<- hw1]
 clear hw1
 go_wp2_with (with_reducible refine load_law rfl 23 (.tmp 11) rfl (w.heap.size + 1) 0 rfl L _ Tryz.underlying23 rfl IR.out B2.cells ?_)
 refine (CP.out w1).mono ?_
 rintro e w2 ⟨v2,rfl,hO2,hX⟩
 obtain ⟨A2,c2,rfl,hR2,hF2⟩:=hO2.value
 obtain ⟨n2,hn2⟩:=zx ((Rc.put r).length)
 rw [<- hn2] at hR2 hF2
 rw [<- hn2]
 have W2:=qh (W1.trans (hX.mono W1.size))
 have K2:=qh (B1.below hX (by omega))
 have Z2:=qh (B3.below hX hs1)
 have R2:=qh hR2
 have F2:Hid (∀ x,A2=some x->0 < n2->w.heap.size<=x.block):=fun x hx h0=>by obtain ⟨g',e',hg'⟩:=hF2 h0; rw [hx] at e'; injection e' with e'; subst e'; show w.heap.size<=g'; omega
 have hs2:w.heap.size + 1 + 1 < w2.heap.size:=Z2.out.lt
 clear hX hR2 hF2 hO2 hn2 B1 B2 B3 W1 CP
 go_wp2_with fail
 replace W2:=qh W2.out.drew
 replace K2:=qh K2.out.drew
 replace Z2:=qh Z2.out.drew
 replace R2:=qh R2.out.drew
 replace hs2:w.heap.size + 1 + 1 < w2.drew.heap.size:=hs2
 refine wp_region_any (by kernel_rfl) ?_
 change wpAny _ _ _ _ _ _ _ (World.drew _)
 generalize w2.drew=w3 at *
 have hsl:=fun W=>sliceAt_all 46 32 Tryz.underlying46 w.heap.size 0 W
 refine ztk 0 (xp) ?_
 try simp only [zpt]
 refine ztk 1 (.slice A n c) ?_
 try simp only [zpt]
 refine ztk 2 (.int .i64 ep) ?_
 try simp only [zpt]
 refine ztk 5 (.int .i64 nonce) ?_
 try simp only [zpt]
 refine ztk 6 (.slice (some ⟨w.heap.size,0,none⟩) 32 32) ?_
 try simp only [zpt]
 refine ztk 8 (.int .i64 ep) ?_
 try simp only [zpt]
 refine ztk 11 (.slice A2 n2 c2) ?_
 try simp only [zpt]
 refine zrd 3 fun K hK=>?_
 go_simp
 refine (CK.out w3 (HR.out.below W2.out)).mono ?_
 rintro e wA ⟨rfl,hX⟩
 replace W2:=qt W2 hX
 replace K2:=qh (K2.out.below hX K2.out.lt)
 replace Z2:=qh (Z2.out.below hX Z2.out.lt)
 replace R2:=qh (R2.out.below hX)
 have hsA:w.heap.size + 1 + 1 < wA.heap.size:=Z2.out.lt
 clear hX hs2 CK
 refine hK _ _ ?_; clear hK K; try simp only [zpt]
 refine ztk 4 (.agg k1.toArray) ?_
 try simp only [zpt]
 have RL:Hid (Rd wA (some ⟨w.heap.size,0,none⟩) 32 32 lb):=by have:=K2.out; rw [HLC.out] at this; exact blk_rd32 this HBL.out
 refine zrd 7 fun K hK=>?_
 refine step_onto rfl (.const (.slice none 0 0)) (.tmp 39) rfl rfl rfl RL.out (Ow.empty wA wA.heap.size) (by simp) (by omega) (Nat.le_refl _) (Below.refl wA.heap.size wA) ?_
 rw [List.nil_append]
 intro v7 wB O7 X7
 refine hK _ _ ?_; clear hK K; try simp only [zpt]
 refine zrd 9 fun K hK=>?_
 go_simp
 refine (CU.out wB).mono ?_
 rintro e wC ⟨v9,rfl,hO9,hX9⟩
 obtain ⟨ad9,c9,rfl,hR9,_⟩:=hO9.some_ hle0.1
 have R9:=qh hR9
 have O9:=qh (O7.out.keep hX9)
 have X9:=qt X7 hX9
 clear hX9 hR9 hO9 CU O7 X7
 refine hK _ _ ?_; clear hK K; try simp only [zpt]
 refine zrd 10 fun K hK=>?_
 refine step_onto rfl (.tmp 40) (.tmp 42) rfl rfl rfl R9.out O9.out (by rw [HBL.out]; omega) hle0.1 X9.out.size X9.out ?_
 intro v10 wE OE' XE
 refine hK _ _ ?_; clear hK K; try simp only [zpt]
 obtain ⟨ad1,c1,rfl,hR1,hF1⟩:=OE'.out.some_ (by simp; omega)
 obtain ⟨n1,hn1⟩:=zx ((lb ++ le).length)
 rw [<- hn1] at hR1
 rw [<- hn1]
 have R1:=qh hR1
 have F1:Hid (∀ x,some ad1=some x->0 < n1->w.heap.size<=x.block):=fun x hx h0=>by injection hx with hx; subst hx; omega
 replace W2:=qt W2 XE.out
 replace R2:=qh (R2.out.below XE.out)
 replace Z2:=qh (Z2.out.below XE.out Z2.out.lt)
 clear hR1 hF1 hn1 K2 RL R9 O9 X9 OE' XE hfd hsl
 refine zrd 12 fun K hK=>?_
 go_simp
 refine (HSE.out wE _ A2 n1 n2 c1 c2 W2.out R1.out F1.out R2.out F2.out).mono ?_
 rintro e w4 ⟨A3,c3,rfl,hR,hFF⟩
 have hzE:=Z2.out.lt
 obtain ⟨hs4,hk4⟩:=HFR.out _ _ hFF
 have R3:=qh hR
 have FF:=qh hFF
 have Z4:Hid (Blk w4 (w.heap.size + 1 + 1) 42 E0):=(hk4 _ (by omega) (by omega)).trans Z2.out
 have W3:=qh W2.out
 clear hR hFF hk4 R1 R2 F1 F2 HSE HFR Z2 W2
 refine hK _ _ ?_; clear hK K; try simp only [zpt]
 refine ztk 13 (.slice A3 mo c3) ?_
 try simp only [zpt]
 refine wpAny_done (by kernel_rfl) ?_ _
 have hcv:=conv_bytes R3.out
 go_wp2_with (first
  | (with_reducible refine storeAll_law rfl 42 (.tmp 12) (.tmp 50) rfl (w.heap.size + 1 + 1) rfl [.int .i64 ep,.int .i64 nonce,.string ⟨out.toArray⟩] rfl 42 E0 Z4.out IE.out LE.out OE.out ?_))
 exact bodyPost_ret (results_row_tmp rfl _ _ (w.heap.size + 1 + 1) 42 ([.int .i64 ep,.int .i64 nonce,.string ⟨out.toArray⟩]:List Value).toArray (0,0) _ _ rfl rfl (Z4.out.row (cs':=[.int .i64 ep,.int .i64 nonce,.string ⟨out.toArray⟩])) Tryz.underlying42 rfl (by kernel_rfl)) rfl ⟨rfl,_,w4,_,by omega,hzE,W3.out,FF.out,only_setRow (only_refl w4 _) (.inl rfl) _⟩
open Go.RowKit
theorem rropen_gen {w:World} {xp:Value} {A:Option Addr} {n c:Nat} {s lb bx:List UInt8} (ep nonce:Int) (res:List UInt8 × Bool) (hr:Rd w A n c s) (hn:n<=1000000)
  (e0:-9223372036854775808<=ep) (e1:ep<=9223372036854775807) (hlb:lb.length=32) (hbx:bx.length<=1000000)
  (HO:∀ (w1:World) (A1 A2:Option Addr) (n1 n2 c1 c2:Nat),Below w.heap.size w w1->Rd w1 A1 n1 c1 (Rc.beside lb ep)->Rd w1 A2 n2 c2 bx ->
   Calls Tryz.prog 43 #[xp,.agg ((Rc.sealKey s ep).map cellOf).toArray,.int .i64 nonce,.slice A1 n1 c1,.slice A2 n2 c2] w1 (RetO w1 res.1 res.2)) :
  Calls Tryz.prog 21 #[xp,.slice A n c,.agg (lb.map cellOf).toArray,envV ep nonce bx] w fun e w'=>e = .returned (.tuple #[recV (Rc.openR res),.int .i64 (Rc.openE res)])/\Below w.heap.size w w':=by
 have HR:=qh hr
 have HSE:=qh HO
 have CK:=qh (fun (W:World) (hR:Rd W A n c s)=>rkeys_any ep hR hn e0 e1)
 have CU:=qh (fun (W:World)=>rput_any ep W e0 e1)
 clear hr HO
 obtain ⟨lc,hlc⟩:=zx (lb.map cellOf)
 have HLC:=qh hlc
 obtain ⟨kk,hkk⟩:=zx ((Rc.keysOf s ep).map cellOf)
 obtain ⟨k1,hk1⟩:=zx ((Rc.sealKey s ep).map cellOf)
 have hfd:=fun W=>rkeys_field0 kk k1 ((Rc.markKey s).map cellOf) ((Rc.labelKey s).map cellOf) W (by rw [hkk,hk1,Rc.keysOf,List.map_append,List.map_append]) (by rw [hk1,List.length_map,Rc.sealKey_length]) (by rw [List.length_map,Rc.markKey_length]) (by rw [List.length_map,Rc.labelKey_length])
 unfold RetH at *
 rw [<- hlc]
 rw [<- hkk] at CK
 rw [<- hk1] at HSE
 obtain ⟨Z0,hZ0⟩:=zx (recL ⟨0,false,[]⟩)
 have HZ0:=qh hZ0
 have IZ:Hid ((Tryz.prog.info? 23).map (·.size)=some Z0.length):=by unfold Hid; rw [hZ0]; kernel_rfl
 have OZ:Hid (∀ v ∈ Z0,v.oneCell'=true):=by unfold Hid; rw [hZ0]; simp [recL,Value.oneCell']
 have BZ:Hid (Tryz.prog.built 23 []=some Z0.toArray):=by unfold Hid; rw [hZ0]; kernel_rfl
 obtain ⟨res1,ok⟩:=res
 obtain ⟨z,hz⟩:=zx (recL (Rc.openR (res1,ok)))
 obtain ⟨er,her⟩:=zx (Rc.openE (res1,ok))
 obtain ⟨L,hL⟩:=zx (recL (Rc.got res1))
 obtain ⟨ge,hge⟩:=zx (if Rc.gets res1 then 0 else 1:Int)
 have IL:Hid ((Tryz.prog.info? 23).map (·.size)=some L.length):=by unfold Hid; rw [hL]; kernel_rfl
 have LL:Hid (Z0.length=L.length):=by unfold Hid; rw [hL,hZ0]; rfl
 have OL:Hid (∀ v ∈ L,v.oneCell'=true):=by unfold Hid; rw [hL]; simp [recL,Value.oneCell']
 have CG:Hid (∀ (W:World) (A:Option Addr) (n c:Nat),Rd W A n c res1->Calls Tryz.prog 32 #[.slice A n c] W fun e w'=>e = .returned (.tuple #[.agg L.toArray,.int .i64 ge])/\Below W.heap.size W w'):=fun W A n c h=>by rw [hL,hge]; exact rrget_any h
 have YES:Hid (ok=true->ge=0->z=L/\er=0):=fun h1 h2=>by
  have h3:Rc.gets res1=true:=by
   by_cases h:Rc.gets res1=true
   ·exact h
   ·rw [hge,if_neg h] at h2; omega
  refine ⟨by rw [hz,hL,Rc.openR,h1]; rfl,by rw [her,Rc.openE,h1,h3]; rfl⟩
 have NON:Hid (ok=false ∨ ge ≠ 0->z=Z0/\er=9):=fun h=>by
  cases ok with
  | false=>exact ⟨by rw [hz,hZ0]; rfl,by rw [her]; rfl⟩
  | true =>
   have h3:Rc.gets res1=false:=by
    rcases h with h | h
    ·cases h
    ·by_cases h':Rc.gets res1=true
     ·rw [hge,if_pos h'] at h; exact absurd rfl h
     ·simpa using h'
   refine ⟨by rw [hz,hZ0,Rc.openR,if_pos rfl,Rc.got,h3]; rfl,by rw [her,Rc.openE,h3]; rfl⟩
 unfold recV
 rw [<- hz,<- her]
 obtain ⟨le,hle⟩:=zx (Num.enc (Num.zig ep):List UInt8)
 have hbs:Rc.beside lb ep=lb ++ le:=by rw [hle]; rfl
 have hle0:0 < le.length/\le.length<=10:=by have:=Num.enc_len10 (Num.zig_lt ep e0 e1); have:=Num.enc_pos (Num.zig ep); rw [hle]; omega
 rw [hbs] at HSE
 rw [<- hle] at CU
 have HBL:=qh hlb
 unfold envV envL
 clear hlc hkk hk1 hZ0 hbs hlb hz her hle hL hge
 go_enter Tryz.func21,Tryz.ntmps21
 go_upto_region 1 with (fail)
 obtain ⟨w1,hw1⟩:=zx (((w.alloc (.cells lc.toArray 46)).alloc (.cells ([.int .i64 ep,.int .i64 nonce,.string ⟨bx.toArray⟩]:List Value).toArray 42)).alloc (.cells #[.int .i64 0,.bool false,.string ⟨#[]⟩] 23))
 have B1:Blk w1 w.heap.size 46 lc:=by rw [hw1]; exact ((Blk.new w 46 _).alloc _).alloc _
 have B2:Blk w1 (w.heap.size + 1) 42 [.int .i64 ep,.int .i64 nonce,.string ⟨bx.toArray⟩]:=by rw [hw1]; exact (Blk.at_new _ _ 42 _ _ rfl (by simp)).alloc _
 have B3:Blk w1 (w.heap.size + 1 + 1) 23 Z0:=by rw [hw1,HZ0.out]; exact Blk.at_new _ _ 23 _ _ rfl (by simp)
 have W1:Below w.heap.size w w1:=by rw [hw1]; exact (((Below.refl _ _).alloc (Nat.le_refl _) _).alloc (by simp) _).alloc (by simp; omega) _
 have hs1:w.heap.size + 1 + 1 < w1.heap.size:=B3.lt
 rw [<- hw1]
 clear hw1
 have RL:Hid (Rd w1.drew (some ⟨w.heap.size,0,none⟩) 32 32 lb):=by have:=B1.drew; rw [HLC.out] at this; exact blk_rd32 this HBL.out
 have E2:=qh B2.drew
 have Z2:=qh B3.drew
 have W2:=qh W1.drew
 replace hs1:w.heap.size + 1 + 1 < w1.drew.heap.size:=hs1
 clear B1 B2 B3 W1
 refine wp_region_any (by kernel_rfl) ?_
 change wpAny _ _ _ _ _ _ _ (World.drew _)
 generalize w1.drew=w3 at *
 have hsl:=fun W=>sliceAt_all 46 32 Tryz.underlying46 w.heap.size 0 W
 have hws:=W2.out.size
 refine ztk 0 (xp) ?_
 try simp only [zpt]
 refine ztk 1 (.slice A n c) ?_
 try simp only [zpt]
 refine ztk 2 (.pointer (some ⟨w.heap.size + 1,0,none⟩)) ?_
 try simp only [zpt]
 refine ztk 6 (.pointer (some ⟨w.heap.size + 1,1,none⟩)) ?_
 try simp only [zpt]
 refine ztk 8 (.slice (some ⟨w.heap.size,0,none⟩) 32 32) ?_
 try simp only [zpt]
 refine ztk 10 (.pointer (some ⟨w.heap.size + 1,0,none⟩)) ?_
 try simp only [zpt]
 refine ztk 14 (.pointer (some ⟨w.heap.size + 1,2,none⟩)) ?_
 try simp only [zpt]
 refine zph (fun i=>if i=4 then [3] else if i=5 then [4] else if i=9 then [4] else if i=12 then [11,9] else if i=13 then [9,12] else if i=16 then [15] else []) [3,4,5,7,9,11,12,13,15,16] (fun zT d a w'=>∃ x18 x19 x20 x22 x24 x26 x27 x28 x30 x31:Value,a={ tmps:=((((((((((zT.set 18 x18).set 19 x19).set 20 x20).set 22 x22).set 24 x24).set 26 x26).set 27 x27).set 28 x28).set 30 x30).set 31 x31).toArray,defers:=[] }/\Hid (Below w3.heap.size w3 w')/\(d 3=true->x18 = .int .i64 ep)/\(d 4=true->x19 = .agg kk.toArray)/\(d 5=true->x20 = .agg k1.toArray)/\(d 7=true->x22 = .int .i64 nonce)/\(d 9=true->Hid (d 13=false->Ow w' w3.heap.size x24 lb))/\(d 11=true->x26 = .int .i64 ep)/\(d 12=true->Hid (d 13=false->Nw w' w3.heap.size x27 le))/\(d 13=true->Hid (Ow w' w3.heap.size x28 (lb ++ le)))/\(d 15=true->x30 = .string ⟨bx.toArray⟩)/\(d 16=true->Hid (∃ q c,x31 = .slice (some ⟨q,0,none⟩) bx.length c/\Rd w' (some ⟨q,0,none⟩) bx.length c bx/\(d 9=true->d 13=false->0 < bx.length->x24.ownBlock ≠ some q)))) 6 10 ?step8 ?init8 ?fin8
 case init8=>refine ⟨_,_,_,_,_,_,_,_,_,_,rfl,Below.refl _ _,?_,?_,?_,?_,?_,?_,?_,?_,?_,?_⟩ <;> (intro h; exact absurd h (by decide))
 case step8 =>
  intro i hi d a v8 hI hdi hdeps
  obtain ⟨x18,x19,x20,x22,x24,x26,x27,x28,x30,x31,ha,BW,h3,h4,h5,h7,h9,h11,h12,h13,h15,h16⟩:=hI
  simp only [zpt] at ha; subst ha
  have hsw:=BW.out.size
  simp only [List.mem_cons,List.not_mem_nil,or_false] at hi
  rcases hi with rfl | rfl | rfl | rfl | rfl | rfl | rfl | rfl | rfl | rfl
  ·have c0:v8.cell? ⟨w.heap.size + 1,0,none⟩=some (.int .i64 ep):=(E2.out.below BW.out E2.out.lt).cell 0
   refine zst fun K hK=>?_
   go_simp
   refine hK _ _ ?_; clear hK K; try simp only [zpt]
   exact ⟨_,_,_,_,_,_,_,_,_,_,rfl,BW,fun _=>rfl,zk h4,zk h5,zk h7,fun a h=>(h9 (by simpa using a)).out (by simpa using h),zk h11,fun a h=>(h12 (by simpa using a)).out (by simpa using h),zk h13,zk h15,fun a=>by obtain ⟨q,c,e,hr,hd⟩:=(h16 (by simpa using a)).out; exact ⟨q,c,e,hr,fun h9' h13'=>hd (by simpa using h9') (by simpa using h13')⟩⟩
  ·obtain rfl:=h3 (hdeps 3 (by simp))
   refine zst fun K hK=>?_
   go_simp
   refine (CK.out v8 (HR.out.below (zt W2.out BW.out))).mono ?_
   rintro e u8 ⟨rfl,hX⟩
   refine hK _ _ ?_; clear hK K; try simp only [zpt]
   exact ⟨_,_,_,_,_,_,_,_,_,_,rfl,BW.out.trans (hX.mono hsw),zk h3,fun _=>rfl,zk h5,zk h7,fun a h=>((h9 (by simpa using a)).out (by simpa using h)).below hX,zk h11,fun a h=>((h12 (by simpa using a)).out (by simpa using h)).below hX,fun a=>(h13 (by simpa using a)).out.below hX,zk h15,fun a=>by obtain ⟨q,c,e,hr,hd⟩:=(h16 (by simpa using a)).out; exact ⟨q,c,e,hr.below hX,fun h9' h13'=>hd (by simpa using h9') (by simpa using h13')⟩⟩
  ·obtain rfl:=h4 (hdeps 4 (by simp))
   refine zst fun K hK=>?_
   go_simp
   refine hK _ _ ?_; clear hK K; try simp only [zpt]
   exact ⟨_,_,_,_,_,_,_,_,_,_,rfl,BW,zk h3,zk h4,fun _=>rfl,zk h7,fun a h=>(h9 (by simpa using a)).out (by simpa using h),zk h11,fun a h=>(h12 (by simpa using a)).out (by simpa using h),zk h13,zk h15,fun a=>by obtain ⟨q,c,e,hr,hd⟩:=(h16 (by simpa using a)).out; exact ⟨q,c,e,hr,fun h9' h13'=>hd (by simpa using h9') (by simpa using h13')⟩⟩
  ·have c0:v8.cell? ⟨w.heap.size + 1,1,none⟩=some (.int .i64 nonce):=(E2.out.below BW.out E2.out.lt).cell 1
   refine zst fun K hK=>?_
   go_simp
   refine hK _ _ ?_; clear hK K; try simp only [zpt]
   exact ⟨_,_,_,_,_,_,_,_,_,_,rfl,BW,zk h3,zk h4,zk h5,fun _=>rfl,fun a h=>(h9 (by simpa using a)).out (by simpa using h),zk h11,fun a h=>(h12 (by simpa using a)).out (by simpa using h),zk h13,zk h15,fun a=>by obtain ⟨q,c,e,hr,hd⟩:=(h16 (by simpa using a)).out; exact ⟨q,c,e,hr,fun h9' h13'=>hd (by simpa using h9') (by simpa using h13')⟩⟩
  ·refine zst fun K hK=>?_
   refine step_onto rfl (.const (.slice none 0 0)) (.tmp 23) rfl rfl rfl (RL.out.below BW.out) (Ow.empty v8 v8.heap.size) (by simp) (by omega) (Nat.le_refl _) (Below.refl v8.heap.size v8) ?_
   rw [List.nil_append]
   intro vq u8 hO' hX'
   have hO:=hO'.out
   have hX:=hX'.out
   refine hK _ _ ?_; clear hK K; try simp only [zpt]
   exact ⟨_,_,_,_,_,_,_,_,_,_,rfl,BW.out.trans (hX.mono hsw),zk h3,zk h4,zk h5,zk h7,fun _ _=>Ow.lower hO hsw,zk h11,fun a h=>((h12 (by simpa using a)).out (by simpa using h)).below hX,fun a=>(h13 (by simpa using a)).out.below hX,zk h15,fun a=>by obtain ⟨q,c,e,hr,hd⟩:=(h16 (by simpa using a)).out; exact ⟨q,c,e,hr.below hX,fun _ _ h0 hq=>by obtain ⟨g',o',e',hlt,_⟩:=hr.at_ h0; injection e' with e'; injection e' with e'; subst e'; exact Nat.lt_irrefl _ (Nat.lt_of_lt_of_le hlt (World.ownsRow.lt hO _ hq).1)⟩⟩
  ·have c0:v8.cell? ⟨w.heap.size + 1,0,none⟩=some (.int .i64 ep):=(E2.out.below BW.out E2.out.lt).cell 0
   refine zst fun K hK=>?_
   go_simp
   refine hK _ _ ?_; clear hK K; try simp only [zpt]
   exact ⟨_,_,_,_,_,_,_,_,_,_,rfl,BW,zk h3,zk h4,zk h5,zk h7,fun a h=>(h9 (by simpa using a)).out (by simpa using h),fun _=>rfl,fun a h=>(h12 (by simpa using a)).out (by simpa using h),zk h13,zk h15,fun a=>by obtain ⟨q,c,e,hr,hd⟩:=(h16 (by simpa using a)).out; exact ⟨q,c,e,hr,fun h9' h13'=>hd (by simpa using h9') (by simpa using h13')⟩⟩
  ·obtain rfl:=h11 (hdeps 11 (by simp))
   refine zst fun K hK=>?_
   go_simp
   refine (CU.out v8).mono ?_
   rintro e u8 ⟨vq,rfl,hO,hX⟩
   refine hK _ _ ?_; clear hK K; try simp only [zpt]
   exact ⟨_,_,_,_,_,_,_,_,_,_,rfl,BW.out.trans (hX.mono hsw),zk h3,zk h4,zk h5,zk h7,fun a h=>((h9 (by simpa using a)).out (by simpa using h)).below hX,zk h11,fun _ _=>Nw.ofOw hO hsw,fun a=>(h13 (by simpa using a)).out.below hX,zk h15,fun a=>by obtain ⟨q,c,e,hr,hd⟩:=(h16 (by simpa using a)).out; exact ⟨q,c,e,hr.below hX,fun h9' h13'=>hd (by simpa using h9') (by simpa using h13')⟩⟩
  ·have O9:=(h9 (hdeps 9 (by simp))).out hdi
   obtain ⟨A2,c2,rfl,hR2,_⟩:=((h12 (hdeps 12 (by simp))).out hdi).rd rfl
   obtain ⟨ad2,rfl⟩:∃ ad,A2=some ad:=by obtain ⟨g,o,e,_⟩:=hR2.at_ hle0.1; exact ⟨_,e⟩
   refine zst fun K hK=>?_
   refine step_own rfl (.tmp 24) (.tmp 27) rfl rfl rfl hR2 O9 (by rw [HBL.out]; omega) hle0.1 hsw ?_
   intro vq u8 hO hG
   have HBW:Below w3.heap.size w3 u8:=BW.out.grown hG hsw fun k hk=>(World.ownsRow.lt O9 k hk).1
   have hd9:d 9=true:=hdeps 9 (by simp)
   refine hK _ _ ?_; clear hK K; try simp only [zpt]
   exact ⟨_,_,_,_,_,_,_,_,_,_,rfl,HBW,zk h3,zk h4,zk h5,zk h7,fun a h=>absurd h (by simp),zk h11,fun a h=>absurd h (by simp),fun _=>hO,zk h15,fun a=>by obtain ⟨q,c,e,hr,hd⟩:=(h16 (by simpa using a)).out; exact ⟨q,c,e,hr.keep hG.size fun bb off e' h0 hlt=>hG.block bb hlt (fun e''=>by injection e' with e'; injection e' with e'; subst e'; exact hd hd9 hdi h0 e''.symm),fun _ h=>absurd h (by simp)⟩⟩
  ·have c0:v8.cell? ⟨w.heap.size + 1,2,none⟩=some (.string ⟨bx.toArray⟩):=(E2.out.below BW.out E2.out.lt).cell 2
   refine zst fun K hK=>?_
   go_simp
   refine hK _ _ ?_; clear hK K; try simp only [zpt]
   exact ⟨_,_,_,_,_,_,_,_,_,_,rfl,BW,zk h3,zk h4,zk h5,zk h7,fun a h=>(h9 (by simpa using a)).out (by simpa using h),zk h11,fun a h=>(h12 (by simpa using a)).out (by simpa using h),zk h13,fun _=>rfl,fun a=>by obtain ⟨q,c,e,hr,hd⟩:=(h16 (by simpa using a)).out; exact ⟨q,c,e,hr,fun h9' h13'=>hd (by simpa using h9') (by simpa using h13')⟩⟩
  ·obtain rfl:=h15 (hdeps 15 (by simp))
   obtain ⟨cS,u8,hcv,hR,hX⟩:=conv_str bx (by omega) v8
   refine zst fun K hK=>?_
   go_simp
   refine hK _ _ ?_; clear hK K; try simp only [zpt]
   exact ⟨_,_,_,_,_,_,_,_,_,_,rfl,BW.out.trans (hX.mono hsw),zk h3,zk h4,zk h5,zk h7,fun a h=>((h9 (by simpa using a)).out (by simpa using h)).below hX,zk h11,fun a h=>((h12 (by simpa using a)).out (by simpa using h)).below hX,fun a=>(h13 (by simpa using a)).out.below hX,zk h15,fun _=>⟨_,_,rfl,hR,fun h9' h13' _ hq=>Nat.lt_irrefl _ (World.ownsRow.lt ((h9 (by simpa using h9')).out (by simpa using h13')) _ hq).2⟩⟩
 case fin8 =>
  intro a v8 hI
  obtain ⟨x18,x19,x20,x22,x24,x26,x27,x28,x30,x31,ha,BW,h3,h4,h5,h7,h9,h11,h12,h13,h15,h16⟩:=hI
  simp only [zpt] at ha; subst ha
  obtain rfl:=h3 (by decide)
  obtain rfl:=h4 (by decide)
  obtain rfl:=h5 (by decide)
  obtain rfl:=h7 (by decide)
  obtain rfl:=h11 (by decide)
  obtain rfl:=h15 (by decide)
  obtain ⟨ad1,c1,rfl,hR1,_⟩:=(h13 (by decide)).out.some_ (by simp; omega)
  obtain ⟨n1,hn1⟩:=zx ((lb ++ le).length)
  rw [<- hn1] at hR1
  rw [<- hn1]
  obtain ⟨q2,c2,rfl,hR2,_⟩:=(h16 (by decide)).out
  obtain ⟨n2,hn2⟩:=zx (bx.length)
  rw [<- hn2] at hR2
  rw [<- hn2]
  have R1:=qh hR1
  have R2:=qh hR2
  have hsv:=BW.out.size
  replace W2:=qt W2 BW.out
  replace Z2:=qh (Z2.out.below BW.out Z2.out.lt)
  clear h9 h12 h13 h16 hR1 hR2 hn1 hn2 BW RL E2 CK CU hfd hsl
  try dsimp only
  refine zrd 17 fun K hK=>?_
  go_simp
  refine (HSE.out v8 _ _ n1 n2 c1 c2 W2.out R1.out R2.out).mono ?_
  rintro e w4 ⟨A3,n3,c3,rfl,hR,hX⟩
  have R3:=qh hR
  have Z4:=qh (Z2.out.below hX (by omega))
  have W4:=qt W2 hX
  clear hR hX R1 R2 HSE Z2 W2
  refine hK _ _ ?_; clear hK K; try simp only [zpt]
  refine ztk 18 (.tuple #[.slice A3 n3 c3,.bool ok]) ?_
  try simp only [zpt]
  refine ztk 19 (.slice A3 n3 c3) ?_
  try simp only [zpt]
  refine ztk 20 (.bool ok) ?_
  try simp only [zpt]
  refine ztk 21 (.slice A3 n3 c3) ?_
  try simp only [zpt]
  refine ztk 22 (.bool ok) ?_
  try simp only [zpt]
  refine wpAny_done (by kernel_rfl) ?_ _
  go_wp2_with fail
  refine (CG.out w4 _ _ _ R3.out).mono ?_
  rintro e w5 ⟨rfl,hX⟩
  have Z5:=qh (Z4.out.below hX Z4.out.lt)
  have W5:=qt W4 hX
  clear hX R3 CG Z4 W4
  go_upto_region 3 with (first
   | ((with_reducible refine storeGen_law rfl 23 (.tmp 12) (.tmp 38) rfl w5.heap.size rfl L rfl 23 Z0 IL.out LL.out OL.out w5.heap.size w5 ?_ ?_ (Nat.le_refl _) ?_)
      ·rw [HZ0.out]; exact Blk.at_new _ _ 23 _ _ (by rfl) rfl
      ·exact (Below.refl _ _).alloc (Nat.le_refl _) _
      intro w7 K7 X7))
  have B7:=qh (Z5.out.below X7.out Z5.out.lt)
  have W7:=qt W5 X7.out
  clear X7 Z5 W5
  cases ok with
  | false =>
   obtain ⟨rfl,rfl⟩:=NON.out (.inl rfl)
   go_wp2_with (first
    | (with_reducible refine build_law rfl 23 #[] rfl z (by simp only [List.map_toArray,List.map_nil]; exact BZ.out) ?_)
    | ((with_reducible refine storeGen_law rfl 23 (.tmp 8) (.tmp 46) rfl (w.heap.size + 1 + 1) rfl z rfl 23 z IZ.out rfl OZ.out w.heap.size w B7.out W7.out (by omega) ?_); intro w8 B8 W8))
   exact bodyPost_ret (results_row_tmp rfl _ _ (w.heap.size + 1 + 1) 23 z.toArray (0,0) _ _ rfl rfl B8.out Tryz.underlying23 rfl (by rw [IZ.out]; simp)) rfl ⟨rfl,W8.out⟩
  | true =>
   by_cases hg0:ge=0
   ·obtain ⟨rfl,rfl⟩:=YES.out rfl hg0
    subst hg0
    go_wp2_with (first
     | (with_reducible refine load_law rfl 23 (.tmp 12) rfl w5.heap.size 0 rfl z _ Tryz.underlying23 rfl IL.out K7.out.cells ?_)
     | ((with_reducible refine storeGen_law rfl 23 (.tmp 8) (.tmp 47) rfl (w.heap.size + 1 + 1) rfl z rfl 23 Z0 IL.out LL.out OL.out w.heap.size w B7.out W7.out (by omega) ?_); intro w8 B8 W8))
    exact bodyPost_ret (results_row_tmp rfl _ _ (w.heap.size + 1 + 1) 23 z.toArray (0,0) _ _ rfl rfl B8.out Tryz.underlying23 rfl (by rw [IL.out]; simp)) rfl ⟨rfl,W8.out⟩
   ·obtain ⟨rfl,rfl⟩:=NON.out (.inr hg0)
    go_wp2_with (first
     | (with_reducible refine build_law rfl 23 #[] rfl z (by simp only [List.map_toArray,List.map_nil]; exact BZ.out) ?_)
     | ((with_reducible refine storeGen_law rfl 23 (.tmp 8) (.tmp 46) rfl (w.heap.size + 1 + 1) rfl z rfl 23 z IZ.out rfl OZ.out w.heap.size w B7.out W7.out (by omega) ?_); intro w8 B8 W8))
    exact bodyPost_ret (results_row_tmp rfl _ _ (w.heap.size + 1 + 1) 23 z.toArray (0,0) _ _ rfl rfl B8.out Tryz.underlying23 rfl (by rw [IZ.out]; simp)) rfl ⟨rfl,W8.out⟩
open Go.RowKit
def modeOf:Bool->Int
 | true=>1
 | false=>0
structure Pack (ideal:Bool) (s lb ob:List UInt8) (ep no:Int) (r:Rc.R) (ep' no':Int) (bx:List UInt8) (er:Int) (zr:Rc.R) (ze:Int) (J0 J1 J2:Nat->World->Nat->Nat->Prop):Prop where
 err:(er=0/\0<=ep/\ep'=ep/\no'=no) ∨ (er=1/\ep'=0/\no'=0/\bx=[])
 blen:bx.length<=4000
 j1:∀ {B:Nat} {W W':World} {gx gy:Nat},J1 B W gx gy->Below W.heap.size W W'->J1 B W' gx gy
 j2:∀ {B:Nat} {W W':World} {gx gy:Nat},J2 B W gx gy->Below W.heap.size W W'->J2 B W' gx gy
 low:∀ {B:Nat} {W:World} {gx gy:Nat},J1 B W gx gy->B<=gy/\gy < W.heap.size
 both:∀ (W:World),Calls Tryz.prog 15 #[.int .i64 (modeOf ideal),.int .i64 no] W fun e w'=>∃ gx gy,e = .returned (.tuple #[.pointer (some ⟨gx,0,none⟩),.pointer (some ⟨gy,0,none⟩)])/\J0 W.heap.size w' gx gy/\Below W.heap.size W w'
 s1:∀ {B:Nat} {W:World} {gx gy:Nat} {A:Option Addr} {n c:Nat},Gl W->3<=B->J0 B W gx gy->Rd W A n c s->n<=1000->Calls Tryz.prog 16 #[.pointer (some ⟨gx,0,none⟩),.slice A n c,.int .i64 ep,.int .i64 no,.agg (lb.map cellOf).toArray,recV r] W fun e w'=>e = .returned (.tuple #[envV ep' no' bx,.int .i64 er])/\J1 B w' gx gy/\Below B W w'
 s2:∀ {B:Nat} {W:World} {gx gy:Nat} {A:Option Addr} {n c:Nat},J1 B W gx gy->Rd W A n c s->n<=1000->Calls Tryz.prog 17 #[.pointer (some ⟨gy,0,none⟩),.slice A n c,.int .i64 ep,.int .i64 no,.agg (lb.map cellOf).toArray,recV r] W fun e w'=>e = .returned (.tuple #[envV ep' no' bx,.int .i64 er])/\J2 B w' gx gy/\Fr (fun b=>b=gy) W w'
 o1:er=0->∀ {B:Nat} {W:World} {gx gy:Nat} {A:Option Addr} {n c:Nat},Gl W->J2 B W gx gy->Rd W A n c s->n<=1000->Calls Tryz.prog 20 #[.pointer (some ⟨gx,0,none⟩),.slice A n c,.agg (lb.map cellOf).toArray,envV ep' no' bx] W fun e w'=>e = .returned (.tuple #[recV r,.int .i64 0])/\Below W.heap.size W w'
 o2:er=0->∀ {B:Nat} {W:World} {gx gy:Nat} {A:Option Addr} {n c:Nat},Gl W->J2 B W gx gy->Rd W A n c s->n<=1000->Calls Tryz.prog 20 #[.pointer (some ⟨gx,0,none⟩),.slice A n c,.agg (ob.map cellOf).toArray,envV ep' no' bx] W fun e w'=>e = .returned (.tuple #[recV zr,.int .i64 ze])/\Below W.heap.size W w'
 o3:er=0->∀ {B:Nat} {W:World} {gx gy:Nat} {A:Option Addr} {n c:Nat},J2 B W gx gy->Rd W A n c s->n<=1000->Calls Tryz.prog 21 #[.pointer (some ⟨gy,0,none⟩),.slice A n c,.agg (ob.map cellOf).toArray,envV ep' no' bx] W fun e w'=>e = .returned (.tuple #[recV zr,.int .i64 ze])/\Below W.heap.size W w'
theorem both_some {P:BxP} (hB:BoxOk P) (ideal:Bool) (s:Int) (w:World) (h1:-9223372036854775808<=s) (h2:s<=9223372036854775807):Calls Tryz.prog 15 #[.int .i64 (modeOf ideal),.int .i64 s] w fun e w'=>∃ gx gy,e = .returned (.tuple #[.pointer (some ⟨gx,0,none⟩),.pointer (some ⟨gy,0,none⟩)])/\(w.heap.size<=gy/\gy < w'.heap.size)/\Below w.heap.size w w':=by
 cases ideal with
 | true =>
  refine (both_ideal hB s w h1 h2).mono ?_
  rintro e w' ⟨gx,gy,M,rfl,hP,hb,hM,hg,hX⟩
  exact ⟨gx,gy,rfl,⟨hg,hb.lt⟩,hX⟩
 | false =>
  refine (both_real hB s w h1 h2).mono ?_
  rintro e w' ⟨gx,gy,M,rfl,hP,hb,hM,hg,hX⟩
  exact ⟨gx,gy,rfl,⟨hg,hb.lt⟩,hX⟩
theorem pack_no {P:BxP} (hB:BoxOk P) (ideal:Bool) {s lb ob:List UInt8} {ep no:Int} {r:Rc.R} (n1:-9223372036854775808<=no) (n2:no<=9223372036854775807) (hlb:lb.length=32) (hno:Rc.may r=false ∨ ep < 0 ∨ no < 0) :
  Pack ideal s lb ob ep no r 0 0 [] 1 r 0 (fun B W _ gy=>B<=gy/\gy < W.heap.size) (fun B W _ gy=>B<=gy/\gy < W.heap.size) (fun _ _ _ _=>True):=by
 refine ⟨.inr ⟨rfl,rfl,rfl,rfl⟩,by simp,fun h hX=>⟨h.1,Nat.lt_of_lt_of_le h.2 hX.size⟩,fun _ _=>trivial,fun h=>h,fun W=>both_some hB ideal no W n1 n2,?_,?_,fun h=>absurd h (by decide),fun h=>absurd h (by decide),fun h=>absurd h (by decide)⟩
 ·intro B W gx gy A n c hg _ hJ _ _
  refine (rseal_no r ep no hg hlb hno).mono ?_
  rintro e w' ⟨rfl,hX⟩
  exact ⟨rfl,⟨hJ.1,Nat.lt_of_lt_of_le hJ.2 hX.size⟩,hX.mono (by have:=hJ.1; have:=hJ.2; omega)⟩
 ·intro B W gx gy A n c hJ _ _
  refine (rrseal_no r ep no hlb hno).mono ?_
  rintro e w' ⟨rfl,hX⟩
  exact ⟨rfl,trivial,Fr.of_below hX⟩
theorem Ow.slice_ {w:World} {b:Nat} {v:Value} {l:List UInt8} (h:Ow w b v l):∃ A c,v = .slice A l.length c/\Rd w A l.length c l:=by
 obtain ⟨A,c,e,hr,_⟩:=h.value
 exact ⟨A,c,e,hr⟩
theorem opened_len (key nonce ad c:List UInt8):(Ae.opened key nonce ad c).length<=c.length:=by
 unfold Ae.opened
 split
 ·rw [Ae.xor_len,List.length_take]; omega
 ·simp
theorem pack_real {P:BxP} (hB:BoxOk P) {s lb ob:List UInt8} {ep no:Int} {r:Rc.R} (hm:Rc.may r=true) (e0:0<=ep) (e1:ep<=9223372036854775807) (n0:0<=no) (n1:no<=9223372036854775807) (hlb:lb.length=32) (hob:ob.length=32) :
  ∃ bx zr ze,Pack false s lb ob ep no r ep no bx 0 zr ze (fun B W gx gy=>B<=gy/\(∃ M,P W gx .real M)/\Blk W gy 66 [.int .i64 0,.int .i64 no,.int .i64 0,.slice none 0 0]) (fun B W gx gy=>B<=gy/\(∃ M,P W gx .real M)/\Blk W gy 66 [.int .i64 0,.int .i64 no,.int .i64 0,.slice none 0 0]) (fun B W gx gy=>B<=gy/\(∃ M,P W gx .real M)/\Blk W gy 66 [.int .i64 0,.int .i64 no,.int .i64 0,.slice none 0 0]):=by
 obtain ⟨N,rfl⟩:=Int.eq_ofNat_of_zero_le n0
 obtain ⟨key,hkey⟩:=zx (Rc.sealKey s ep)
 have hk:key.length=32:=by rw [hkey]; exact Rc.sealKey_length _ _
 obtain ⟨ad,had⟩:=zx (Rc.beside lb ep)
 obtain ⟨ao,hao⟩:=zx (Rc.beside ob ep)
 have hadl:ad.length<=42:=by rw [had]; exact beside_len hlb ep (by omega) e1
 have haol:ao.length<=42:=by rw [hao]; exact beside_len hob ep (by omega) e1
 have hpl:=put_len hm
 obtain ⟨out,hout⟩:=zx (Ae.sealed key (Bx.nonce (N:Int)) ad (Rc.put r))
 have hol:out.length=(Rc.put r).length + 16:=by rw [hout]; exact Ae.sealed_length _ _ _ _
 have hN:N<=9223372036854775807:=by omega
 have stable:∀ {B:Nat} {W W':World} {gx gy:Nat},(B<=gy/\(∃ M,P W gx .real M)/\Blk W gy 66 [.int .i64 0,.int .i64 (N:Int),.int .i64 0,.slice none 0 0])->Below W.heap.size W W'->(B<=gy/\(∃ M,P W' gx .real M)/\Blk W' gy 66 [.int .i64 0,.int .i64 (N:Int),.int .i64 0,.slice none 0 0]):=by
  rintro B W W' gx gy ⟨h1,⟨M,hP⟩,hb⟩ hX
  exact ⟨h1,⟨M,hB.below hP hX⟩,hb.below hX hb.lt⟩
 refine ⟨out,Rc.openR (Ae.opened key (Bx.nonce (N:Int)) ao out,Ae.opens key (Bx.nonce (N:Int)) ao out),Rc.openE (Ae.opened key (Bx.nonce (N:Int)) ao out,Ae.opens key (Bx.nonce (N:Int)) ao out),⟨.inl ⟨rfl,e0,rfl,rfl⟩,by omega,stable,stable,fun h=>⟨h.1,h.2.2.lt⟩,?_,?_,?_,?_,?_,?_⟩⟩
 ·intro W
  refine (both_real hB (N:Int) W (by omega) n1).mono ?_
  rintro e w' ⟨gx,gy,M,rfl,hP,hb,hM,hg,hX⟩
  exact ⟨gx,gy,rfl,⟨hg,⟨M,hP⟩,hb⟩,hX⟩
 ·rintro B W gx gy A n c hg hNG ⟨h1,⟨M,hP⟩,hb⟩ hr hn
  have hlt:=hb.lt
  refine (rseal_gen (out:=out) r ep (N:Int) (fun w1 w2=>Below w1.heap.size w1 w2) hg hr (by omega) hm e0 e1 n0 hlb (by omega) (fun w1 w2 h=>⟨h.size,fun i _ hi=>h.block i hi⟩) ?_).mono ?_
  ·intro w1 A1 A2 m1 m2 c1 c2 hg1 hX hR1 _ hR2 _
   have l1:=hR1.len
   have l2:=hR2.len
   rw [<- had] at hR1 l1
   rw [<- hkey,hout]
   refine (hB.slR key (N:Int) hg1 (hB.below hP hX) hk n0 n1 hR1 hR2 (by omega) (by omega)).mono ?_
   rintro e w2 ⟨A3,c3,rfl,hR,hY,_⟩
   exact ⟨A3,c3,rfl,hR,hY⟩
  ·rintro e w' ⟨rfl,w1,w2,gr,hg1,hg2,hX,hF,hO⟩
   have hW:Below W.heap.size W w':=below_of_only (hX.trans (hF.mono hX.size)) hO hg1 (Nat.le_trans hX.size hF.size)
   exact ⟨rfl,stable ⟨h1,⟨M,hP⟩,hb⟩ hW,hW.mono (by omega)⟩
 ·rintro B W gx gy A n c ⟨h1,⟨M,hP⟩,hb⟩ hr hn
  have hlt:=hb.lt
  refine (rrseal_gen (out:=out) r ep (N:Int) (fun w1 w2=>Below w1.heap.size w1 w2) hr (by omega) hm e0 e1 n0 hlb (by omega) (fun w1 w2 h=>⟨h.size,fun i _ hi=>h.block i hi⟩) ?_).mono ?_
  ·intro w1 A1 A2 m1 m2 c1 c2 hX hR1 _ hR2 _
   have l1:=hR1.len
   have l2:=hR2.len
   rw [<- had] at hR1 l1
   rw [<- hkey,hout]
   refine (bsealR_any key N (hb.below hX hlt) hN hk hR1 hR2 (by omega) (by omega)).mono ?_
   rintro e w2 ⟨v,rfl,hO,hY⟩
   obtain ⟨A3,c3,rfl,hR⟩:=hO.slice_
   exact ⟨A3,c3,rfl,hR,hY⟩
  ·rintro e w' ⟨rfl,w1,w2,gr,hg1,hg2,hX,hF,hO⟩
   have hW:Below W.heap.size W w':=below_of_only (hX.trans (hF.mono hX.size)) hO hg1 (Nat.le_trans hX.size hF.size)
   exact ⟨rfl,stable ⟨h1,⟨M,hP⟩,hb⟩ hW,Fr.of_below hW⟩
 ·rintro _ B W gx gy A n c hg ⟨h1,⟨M,hP⟩,hb⟩ hr hn
  have h:=ropen_gen (lb:=lb) (bx:=out) ep (N:Int) (Ae.opened key (Bx.nonce (N:Int)) ad out,Ae.opens key (Bx.nonce (N:Int)) ad out) hg hr (by omega) (by omega) e1 hlb (by omega) (Nat.le_trans (opened_len _ _ _ _) (by omega)) (xp:=.pointer (some ⟨gx,0,none⟩)) fun w1 A1 A2 m1 m2 c1 c2 hg1 hX hR1 hR2=>by
   have l1:=hR1.len
   have l2:=hR2.len
   rw [<- had] at hR1 l1
   rw [<- hkey]
   exact hB.opR key (N:Int) hg1 (hB.below hP hX) hk n0 n1 hR1 hR2 (by omega) (by omega)
  rw [hout,opened_sealed,Ae.opens_sealed] at h
  have e2:Rc.openR (Rc.put r,true)=r:=by unfold Rc.openR Rc.got; rw [if_pos rfl,(Rc.gets_put hm).1,if_pos rfl]; exact (Rc.gets_put hm).2
  have e3:Rc.openE (Rc.put r,true)=0:=by unfold Rc.openE; rw [(Rc.gets_put hm).1]; rfl
  rw [e2,e3] at h
  rw [hout]
  exact h
 ·rintro _ B W gx gy A n c hg ⟨h1,⟨M,hP⟩,hb⟩ hr hn
  refine ropen_gen (lb:=ob) (bx:=out) ep (N:Int) (Ae.opened key (Bx.nonce (N:Int)) ao out,Ae.opens key (Bx.nonce (N:Int)) ao out) hg hr (by omega) (by omega) e1 hob (by omega) (Nat.le_trans (opened_len _ _ _ _) (by omega)) fun w1 A1 A2 m1 m2 c1 c2 hg1 hX hR1 hR2=>?_
  have l1:=hR1.len
  have l2:=hR2.len
  rw [<- hao] at hR1 l1
  rw [<- hkey]
  exact hB.opR key (N:Int) hg1 (hB.below hP hX) hk n0 n1 hR1 hR2 (by omega) (by omega)
 ·rintro _ B W gx gy A n c ⟨h1,⟨M,hP⟩,hb⟩ hr hn
  refine rropen_gen (lb:=ob) (bx:=out) ep (N:Int) (Ae.opened key (Bx.nonce (N:Int)) ao out,Ae.opens key (Bx.nonce (N:Int)) ao out) hr (by omega) (by omega) e1 hob (by omega) fun w1 A1 A2 m1 m2 c1 c2 hX hR1 hR2=>?_
  have l1:=hR1.len
  have l2:=hR2.len
  rw [<- hao] at hR1 l1
  rw [<- hkey]
  exact bopenR_any key N (hb.below hX hb.lt) hN hk hR1 hR2 (by omega) (by omega)
theorem open_one (key:List UInt8) (num:Int) (ad ad' b out:List UInt8):Bx.openBy key num ad' out [⟨key,num,ad,b,out⟩]=(if ad=ad' then b else [],decide (ad=ad')):=by
 unfold Bx.openBy Bx.lookS Bx.lookS
 by_cases h:ad=ad'
 ·simp [h]
 ·simp [h]
theorem pack_ideal {P:BxP} (hB:BoxOk P) {s lb ob:List UInt8} {ep no:Int} {r:Rc.R} (hm:Rc.may r=true) (e0:0<=ep) (e1:ep<=9223372036854775807) (n0:0<=no) (n1:no<=9223372036854775807) (hlb:lb.length=32) (hob:ob.length=32) :
  ∃ bx zr ze J0 J1 J2,Pack true s lb ob ep no r ep no bx 0 zr ze J0 J1 J2:=by
 obtain ⟨N,rfl⟩:=Int.eq_ofNat_of_zero_le n0
 obtain ⟨key,hkey⟩:=zx (Rc.sealKey s ep)
 have hk:key.length=32:=by rw [hkey]; exact Rc.sealKey_length _ _
 obtain ⟨ad,had⟩:=zx (Rc.beside lb ep)
 obtain ⟨ao,hao⟩:=zx (Rc.beside ob ep)
 have hadl:ad.length<=42:=by rw [had]; exact beside_len hlb ep (by omega) e1
 have haol:ao.length<=42:=by rw [hao]; exact beside_len hob ep (by omega) e1
 have hpl:=put_len hm
 obtain ⟨K,hK⟩:=zx ((Rc.put r).length + 16)
 obtain ⟨out,hout⟩:=zx (Tap.tape (N:Int) 0 K)
 have hol:out.length=K:=by rw [hout]; exact Tap.tape_length _ _ _
 have hN:N<=9223372036854775807:=by omega
 obtain ⟨S1,hS1⟩:=zx ([Bx.SNote.mk key (N:Int) ad (Rc.put r) out])
 obtain ⟨nc,hnc⟩:=zx (noteC key (N:Int) ad (Rc.put r) out)
 obtain ⟨J1,hJ1⟩:=zx (fun B W gx gy=>B<=gy/\(∃ M,P W gx (.ideal (N:Int) (0 + K) S1 [] []) M/\∀ b,M b->B<=b/\b ≠ gy)/\Blk W gy 66 [.int .i64 1,.int .i64 (N:Int),.int .i64 0,.slice none 0 0]:Nat->World->Nat->Nat->Prop)
 obtain ⟨J2,hJ2⟩:=zx (fun B W gx gy=>B<=gy/\(∃ M,P W gx (.ideal (N:Int) (0 + K) S1 [] []) M)/\∃ gr cp,Blk W gy 66 [.int .i64 1,.int .i64 (N:Int),.int .i64 ((0 + K:Nat):Int),.slice (some ⟨gr,0,none⟩) 1 cp]/\gr < W.heap.size/\∀ j x,nc[j]?=some x->W.cell? ⟨gr,j,none⟩=some x:Nat->World->Nat->Nat->Prop)
 have st1:∀ {B:Nat} {W W':World} {gx gy:Nat},J1 B W gx gy->Below W.heap.size W W'->J1 B W' gx gy:=by
  rw [hJ1]
  rintro B W W' gx gy ⟨h1,⟨M,hP,hM⟩,hb⟩ hX
  exact ⟨h1,⟨M,hB.below hP hX,hM⟩,hb.below hX hb.lt⟩
 have st2:∀ {B:Nat} {W W':World} {gx gy:Nat},J2 B W gx gy->Below W.heap.size W W'->J2 B W' gx gy:=by
  rw [hJ2]
  rintro B W W' gx gy ⟨h1,⟨M,hP⟩,gr,cp,hb,hgr,hc⟩ hX
  exact ⟨h1,⟨M,hB.below hP hX⟩,gr,cp,hb.below hX hb.lt,Nat.lt_of_lt_of_le hgr hX.size,fun j x hx=>(hX.cell (p:=⟨gr,j,none⟩) hgr).trans (hc j x hx)⟩
 refine ⟨out,Rc.openR (if ad=ao then Rc.put r else [],decide (ad=ao)),Rc.openE (if ad=ao then Rc.put r else [],decide (ad=ao)),fun B W gx gy=>B<=gy/\(∃ M,P W gx (.ideal (N:Int) 0 [] [] []) M/\∀ b,M b->B<=b/\b < gy)/\Blk W gy 66 [.int .i64 1,.int .i64 (N:Int),.int .i64 0,.slice none 0 0],J1,J2,⟨.inl ⟨rfl,e0,rfl,rfl⟩,by omega,st1,st2,?_,?_,?_,?_,?_,?_,?_⟩⟩
 ·rw [hJ1]
  rintro B W gx gy ⟨h1,_,hb⟩
  exact ⟨h1,hb.lt⟩
 ·intro W
  refine (both_ideal hB (N:Int) W (by omega) n1).mono ?_
  rintro e w' ⟨gx,gy,M,rfl,hP,hb,hM,hg,hX⟩
  exact ⟨gx,gy,rfl,⟨hg,⟨M,hP,hM⟩,hb⟩,hX⟩
 ·rintro B W gx gy A n c hg hNG ⟨h1,⟨M,hP,hM⟩,hb⟩ hr hn
  have hlt:=hb.lt
  have h:=rsealI_any hB (lb:=lb) r ep (N:Int) hg (fun b hbM=>Nat.le_trans hNG (hM b hbM).1) hP (by omega) hr (by omega) hm e0 e1 n0 n1 hlb
  rw [<- hK,<- hout,<- hkey,<- had,<- hS1] at h
  refine h.mono ?_
  rintro e w' ⟨M',rfl,hP',hF,hM'⟩
  refine ⟨rfl,?_,hF.below (Below.refl B W) (fun b hbM=>(hM b hbM).1) (by omega)⟩
  rw [hJ1]
  refine ⟨h1,⟨M',hP',fun b hbM=>?_⟩,hF.blk hb (fun hgM=>by have:=(hM gy hgM).2; omega)⟩
  rcases hM' b hbM with h2 | h2
  ·have:=hM b h2; omega
  ·omega
 ·rintro B W gx gy A n c hJ hr hn
  rw [hJ1] at hJ
  obtain ⟨h1,⟨M,hP,hM⟩,hb⟩:=hJ
  have hlt:=hb.lt
  refine (rrseal_gen (out:=out) r ep (N:Int) (fun w1 w2=>Fr (fun x=>x=gy) w1 w2/\∃ gr cp,Blk w2 gy 66 [.int .i64 1,.int .i64 (N:Int),.int .i64 ((0 + K:Nat):Int),.slice (some ⟨gr,0,none⟩) 1 cp]/\w1.heap.size<=gr/\gr < w2.heap.size/\∀ j x,nc[j]?=some x->w2.cell? ⟨gr,j,none⟩=some x) hr (by omega) hm e0 e1 n0 hlb (by omega) (fun w1 w2 h=>⟨h.1.size,fun i hi1 hi2=>h.1.block i hi2 (fun e=>by omega)⟩) ?_).mono ?_
  ·intro w1 A1 A2 m1 m2 c1 c2 hX hR1 hf1 hR2 hf2
   have l1:=hR1.len
   have l2:=hR2.len
   rw [<- had] at hR1 l1
   rw [<- hkey]
   have h:=bsealI_any key N (ta:=0) (hb.below hX hlt) (by omega) n1 (by omega) hN hk hR1 hR2 (by omega) (fun x hx h0=>by have:=hf1 x hx h0; omega) (fun x hx h0=>by have:=hf2 x hx h0; omega)
   rw [<- l2,<- hK,<- hout,<- hnc] at h
   rw [<- l2]
   refine h.mono ?_
   rintro e w2 ⟨A3,c3,gr,cp,rfl,hR,hb2,hg1,hg2,hcl,hF⟩
   rw [hol]
   exact ⟨A3,c3,rfl,hR,hF,gr,cp,hb2,hg1,hg2,hcl⟩
  ·rintro e w' ⟨rfl,w1,w2,gq,hq1,hq2,hX,⟨hF,gr,cp,hb2,hg1,hg2,hcl⟩,hO⟩
   have hX1:=hX.size
   have hX2:=hF.size
   have hX3:=hO.size
   have hne:∀ i,i < w2.heap.size->i ≠ gq->w'.heap[i]?=w2.heap[i]?:=fun i hi h=>hO.block i hi (fun e=>by injection e with e; exact h e)
   refine ⟨rfl,?_,⟨hO.os.trans (hF.os.trans hX.os),hO.tape.trans (hF.tape.trans hX.tape),hO.output.trans (hF.output.trans hX.output),by omega,fun i hi hn=>?_⟩⟩
   ·rw [hJ2]
    refine ⟨h1,⟨M,?_⟩,gr,cp,(hne gy (by omega) (by omega)).trans hb2,by omega,fun j x hx=>(World.cell?_of_block (a:=⟨gr,j,none⟩) (hne gr hg2 (by omega))).trans (hcl j x hx)⟩
    refine hB.keep hP (by omega) fun b hbM=>?_
    have hbl:=hB.lt hP hbM
    have hbm:=hM b hbM
    rw [hne b (by omega) (by omega),hF.block b (by omega) hbm.2]
    exact hX.block b hbl
   ·rw [hne i (by omega) (by omega),hF.block i (by omega) hn]
    exact hX.block i hi
 ·rintro _ B W gx gy A n c hg hJ hr hn
  rw [hJ2] at hJ
  obtain ⟨h1,⟨M,hP⟩,gr,cp,hb,hgr,hc⟩:=hJ
  have ho:Bx.openBy (Rc.sealKey s ep) (N:Int) (Rc.beside lb ep) out S1=(Rc.put r,true):=by
   rw [hS1,<- hkey,<- had,open_one,if_pos rfl,decide_eq_true rfl]
  have h:=ropenI_any hB (lb:=lb) (bx:=out) ep (N:Int) hg hP hr (by omega) (by omega) e1 n0 n1 hlb (by omega) (by rw [ho]; show (Rc.put r).length<=_; omega)
  rw [ho] at h
  have e2:Rc.openR (Rc.put r,true)=r:=by unfold Rc.openR Rc.got; rw [if_pos rfl,(Rc.gets_put hm).1,if_pos rfl]; exact (Rc.gets_put hm).2
  have e3:Rc.openE (Rc.put r,true)=0:=by unfold Rc.openE; rw [(Rc.gets_put hm).1]; rfl
  rw [e2,e3] at h
  exact h
 ·rintro _ B W gx gy A n c hg hJ hr hn
  rw [hJ2] at hJ
  obtain ⟨h1,⟨M,hP⟩,gr,cp,hb,hgr,hc⟩:=hJ
  have ho:Bx.openBy (Rc.sealKey s ep) (N:Int) (Rc.beside ob ep) out S1=(if ad=ao then Rc.put r else [],decide (ad=ao)):=by
   rw [hS1,<- hkey,<- hao,open_one]
  have h:=ropenI_any hB (lb:=ob) (bx:=out) ep (N:Int) hg hP hr (by omega) (by omega) e1 n0 n1 hob (by omega) (by rw [ho]; show (if ad=ao then Rc.put r else []).length<=_; split; (omega); (simp))
  rw [ho] at h
  exact h
 ·rintro _ B W gx gy A n c hJ hr hn
  rw [hJ2] at hJ
  obtain ⟨h1,⟨M,hP⟩,gr,cp,hb,hgr,hc⟩:=hJ
  refine rropen_gen (lb:=ob) (bx:=out) ep (N:Int) (if ad=ao then Rc.put r else [],decide (ad=ao)) hr (by omega) (by omega) e1 hob (by omega) fun w1 A1 A2 m1 m2 c1 c2 hX hR1 hR2=>?_
  rw [<- hao] at hR1
  rw [<- hkey]
  exact bopenI_any key N (hb.below hX hb.lt) (Nat.lt_of_lt_of_le hgr hX.size) (fun j x hx=>(hX.cell (p:=⟨gr,j,none⟩) hgr).trans (hc j x (by rw [hnc]; exact hx))) hN hk (by omega) hR1 hR2
theorem pack_any {P:BxP} (hB:BoxOk P) (ideal:Bool) {s lb ob:List UInt8} {ep no:Int} {r:Rc.R} (e1:ep<=9223372036854775807) (n1:-9223372036854775808<=no) (n2:no<=9223372036854775807) (hlb:lb.length=32) (hob:ob.length=32) :
  ∃ ep' no' bx er zr ze J0 J1 J2,Pack ideal s lb ob ep no r ep' no' bx er zr ze J0 J1 J2:=by
 by_cases hm:Rc.may r=true
 ·by_cases h1:ep < 0
  ·exact ⟨_,_,_,_,_,_,_,_,_,pack_no hB ideal n1 n2 hlb (.inr (.inl h1))⟩
  ·by_cases h2:no < 0
   ·exact ⟨_,_,_,_,_,_,_,_,_,pack_no hB ideal n1 n2 hlb (.inr (.inr h2))⟩
   ·cases ideal with
    | true =>
     obtain ⟨bx,zr,ze,J0,J1,J2,h⟩:=pack_ideal (P:=P) hB (s:=s) (lb:=lb) (ob:=ob) hm (by omega) e1 (by omega) n2 hlb hob
     exact ⟨_,_,_,_,_,_,_,_,_,h⟩
    | false =>
     obtain ⟨bx,zr,ze,h⟩:=pack_real (P:=P) hB (s:=s) (lb:=lb) (ob:=ob) hm (by omega) e1 (by omega) n2 hlb hob
     exact ⟨_,_,_,_,_,_,_,_,_,h⟩
 ·exact ⟨_,_,_,_,_,_,_,_,_,pack_no hB ideal n1 n2 hlb (.inl (by simpa using hm))⟩
end Go.Proofs.YtnfbkimkdnbohaaGreatDoor
