import Derived.Deep.RegionWith
import Derived.Deep.RegionHeld3
import Derived.Test.YtnfbkimkdnbohaaGreatDoorSRw
set_option linter.unusedVariables false
set_option linter.unusedSimpArgs false
set_option maxRecDepth 100000
set_option maxHeartbeats 8000000
namespace Go.Proofs.YtnfbkimkdnbohaaGreatDoor
open Go.RowKit
theorem env_parts (a b a' b':Int) (l l':List UInt8) (h1:a=a') (h2:b=b') (h3:l=l') (W:World):(Op.equalIn 10000 42 (.agg #[.int .i64 a,.int .i64 b,.string ⟨l.toArray⟩]) (.agg #[.int .i64 a',.int .i64 b',.string ⟨l'.toArray⟩])).run Tryz.prog W = .ok true W:=by
 subst h1
 subst h2
 subst h3
 go_simp
end Go.Proofs.YtnfbkimkdnbohaaGreatDoor
namespace Go.Proofs.YtnfbkimkdnbohaaGreatDoor.recBox
open Go.RowKit
theorem walk {P:BxP} (hB:BoxOk P) (ideal:Bool) {A:Option Addr} {n c:Nat} {s:List UInt8} (ep no:Int) (la lo:UInt8) (va:Int) (ga:Bool) (kv:List UInt8) (w:World) (hg:Gl w) (hr:Rd w A n c s) (e1:ep<=9223372036854775807) (n1:-9223372036854775808<=no) (n2:no<=9223372036854775807) (hl:kv.length<=9223372036854775807):Calls Tryz.prog 5 #[.bool ideal,.slice A n c,.int .i64 ep,.int .i64 no,.int .u8 (la.toNat:Int),.int .u8 (lo.toNat:Int),.agg #[.int .i64 va,.bool ga,.string ⟨kv.toArray⟩]] w fun e w'=>e = .returned (.bool true)/\Below w.heap.size w w':=by
 have HG:=qh hg
 have HB:=qh hB
 have hsz:=hg.size
 obtain ⟨m,hm⟩:=zx (min n 30)
 have SH:Hid (∀ W,Calls Tryz.prog 8 #[.slice A n c,.int .i64 30] W fun e w'=>e = .returned (.slice A m c)/\W=w'):=fun W=>by rw [hm]; exact short_eq 30 hr.cap hr.max (by omega)
 have hm30:m<=30:=by omega
 obtain ⟨sl,hsl⟩:=zx (s.take 30)
 have RS:Hid (Rd w A m c sl):=by unfold Hid; rw [hm,hsl]; exact hr.short 30
 obtain ⟨k,hk⟩:=zx (kv.take 200)
 have CC:Hid (∀ W,Calls Tryz.prog 7 #[.string ⟨kv.toArray⟩,.int .i64 200] W fun e w'=>e = .returned (.string ⟨k.toArray⟩)/\W=w'):=fun W=>by rw [hk]; exact cut_eq 200 hl (by omega)
 obtain ⟨sa,hsa⟩:=zx ((⟨kv.toArray⟩:ByteArray))
 obtain ⟨L,hL⟩:=zx (recL ⟨va,ga,k⟩)
 have HL:Hid (L=[.int .i64 va,.bool ga,.string ⟨k.toArray⟩]):=hL
 obtain ⟨kl,hkl⟩:=zx ((key1 la).map cellOf)
 obtain ⟨ko,hko⟩:=zx ((key1 lo).map cellOf)
 have BKL:Hid (Tryz.prog.built 46 [(0,.int .u8 (la.toNat:Int))]=some kl.toArray):=by unfold Hid; rw [hkl]; kernel_rfl
 have BKO:Hid (Tryz.prog.built 46 [(0,.int .u8 (lo.toNat:Int))]=some ko.toArray):=by unfold Hid; rw [hko]; kernel_rfl
 obtain ⟨md,hmd⟩:=zx (modeOf ideal)
 have HMD:=qh hmd
 obtain ⟨ep',no',bx,er,zr,ze,J0,J1,J2,PK⟩:=pack_any hB ideal (s:=sl) (lb:=key1 la) (ob:=key1 lo) (ep:=ep) (no:=no) (r:=⟨va,ga,k⟩) e1 n1 n2 (key1_length la) (key1_length lo)
 obtain ⟨EV,hEV⟩:=zx (envL ep' no' bx:List Value)
 have HEV:Hid (EV=[.int .i64 ep',.int .i64 no',.string ⟨bx.toArray⟩]):=hEV
 obtain ⟨ZR,hZR⟩:=zx (recL zr:List Value)
 have EB:Hid (-9223372036854775808<=ep'/\ep'<=9223372036854775807/\-9223372036854775808<=no'/\no'<=9223372036854775807):=by
  rcases PK.err with ⟨_,h0,h,h'⟩ | ⟨_,h,h',_⟩ <;> (rw [h,h']; unfold Hid; omega)
 have BLEN:=qh PK.blen
 have ERR:Hid (er=0 ∨ er=1/\∀ W,(Op.equalIn 10000 42 (.agg EV.toArray) (.agg #[.int .i64 0,.int .i64 0,.string ⟨#[]⟩])).run Tryz.prog W = .ok true W):=by
  rcases PK.err with ⟨h,_⟩ | ⟨h,h1,h2,h3⟩
  ·exact .inl h
  ·exact .inr ⟨h,fun W=>by rw [hEV]; exact env_parts ep' no' 0 0 bx [] h1 h2 h3 W⟩
 have PJ1:Hid (∀ (B:Nat) (W W':World) (gx gy:Nat),J1 B W gx gy->Below W.heap.size W W'->J1 B W' gx gy):=fun B W W' gx gy h hX=>PK.j1 h hX
 have PJ2:Hid (∀ (B:Nat) (W W':World) (gx gy:Nat),J2 B W gx gy->Below W.heap.size W W'->J2 B W' gx gy):=fun B W W' gx gy h hX=>PK.j2 h hX
 have LOW:Hid (∀ (B:Nat) (W:World) (gx gy:Nat),J1 B W gx gy->B<=gy/\gy < W.heap.size):=fun B W gx gy h=>PK.low h
 have CB:Hid (∀ (W:World),Calls Tryz.prog 15 #[.int .i64 md,.int .i64 no] W fun e w'=>∃ gx gy,e = .returned (.tuple #[.pointer (some ⟨gx,0,none⟩),.pointer (some ⟨gy,0,none⟩)])/\J0 W.heap.size w' gx gy/\Below W.heap.size W w'):=fun W=>by rw [hmd]; exact PK.both W
 have C1:Hid (∀ (B:Nat) (W:World) (gx gy:Nat),Gl W->3<=B->J0 B W gx gy->Rd W A m c sl->Calls Tryz.prog 16 #[.pointer (some ⟨gx,0,none⟩),.slice A m c,.int .i64 ep,.int .i64 no,.agg kl.toArray,.agg L.toArray] W fun e w'=>e = .returned (.tuple #[.agg EV.toArray,.int .i64 er])/\J1 B w' gx gy/\Below B W w'):=fun B W gx gy h1 h2 h3 h4=>by rw [hkl,hL,hEV]; exact PK.s1 h1 h2 h3 h4 (by omega)
 have C2:Hid (∀ (B:Nat) (W:World) (gx gy:Nat),J1 B W gx gy->Rd W A m c sl->Calls Tryz.prog 17 #[.pointer (some ⟨gy,0,none⟩),.slice A m c,.int .i64 ep,.int .i64 no,.agg kl.toArray,.agg L.toArray] W fun e w'=>e = .returned (.tuple #[.agg EV.toArray,.int .i64 er])/\J2 B w' gx gy/\Fr (fun b=>b=gy) W w'):=fun B W gx gy h3 h4=>by rw [hkl,hL,hEV]; exact PK.s2 h3 h4 (by omega)
 have D1:Hid (er=0->∀ (B:Nat) (W:World) (gx gy:Nat),Gl W->J2 B W gx gy->Rd W A m c sl->Calls Tryz.prog 20 #[.pointer (some ⟨gx,0,none⟩),.slice A m c,.agg kl.toArray,.agg EV.toArray] W fun e w'=>e = .returned (.tuple #[.agg L.toArray,.int .i64 0])/\Below W.heap.size W w'):=fun h B W gx gy h1 h3 h4=>by rw [hkl,hL,hEV]; exact PK.o1 h h1 h3 h4 (by omega)
 have D2:Hid (er=0->∀ (B:Nat) (W:World) (gx gy:Nat),Gl W->J2 B W gx gy->Rd W A m c sl->Calls Tryz.prog 20 #[.pointer (some ⟨gx,0,none⟩),.slice A m c,.agg ko.toArray,.agg EV.toArray] W fun e w'=>e = .returned (.tuple #[.agg ZR.toArray,.int .i64 ze])/\Below W.heap.size W w'):=fun h B W gx gy h1 h3 h4=>by rw [hko,hZR,hEV]; exact PK.o2 h h1 h3 h4 (by omega)
 have D3:Hid (er=0->∀ (B:Nat) (W:World) (gx gy:Nat),J2 B W gx gy->Rd W A m c sl->Calls Tryz.prog 21 #[.pointer (some ⟨gy,0,none⟩),.slice A m c,.agg ko.toArray,.agg EV.toArray] W fun e w'=>e = .returned (.tuple #[.agg ZR.toArray,.int .i64 ze])/\Below W.heap.size W w'):=fun h B W gx gy h3 h4=>by rw [hko,hZR,hEV]; exact PK.o3 h h3 h4 (by omega)
 obtain ⟨D,hD⟩:=zx ((Rc.sumOf ep' no' bx).map cellOf)
 have CS1:Hid (∀ W,Gl W->Calls Tryz.prog 18 #[.agg EV.toArray] W fun e w'=>e = .returned (.agg D.toArray)/\Below W.heap.size W w'):=fun W h=>by rw [hEV,hD]; exact recsum_any ep' no' bx h EB.out.1 EB.out.2.1 EB.out.2.2.1 EB.out.2.2.2 BLEN.out
 have CS2:Hid (∀ W,Calls Tryz.prog 19 #[.agg EV.toArray] W fun e w'=>e = .returned (.agg D.toArray)/\Below W.heap.size W w'):=fun W=>by rw [hEV,hD]; exact rrecsum_any ep' no' bx EB.out.1 EB.out.2.1 EB.out.2.2.1 EB.out.2.2.2 BLEN.out
 have EQD:Hid (∀ W,(Op.equalIn 10000 46 (.agg D.toArray) (.agg D.toArray)).run Tryz.prog W = .ok true W):=fun W=>by
  have h:(Rc.sumOf ep' no' bx).length=32:=by rw [Rc.sumOf,Sha.sum_length]
  rw [hD,equal30 _ _ h h,sameB_self]
 have EQL:Hid (∀ W,(Op.equalIn 10000 23 (.agg L.toArray) (.agg L.toArray)).run Tryz.prog W = .ok true W):=by unfold Hid; rw [hL]; exact rec_same _
 have EQZ:Hid (∀ W,(Op.equalIn 10000 23 (.agg ZR.toArray) (.agg ZR.toArray)).run Tryz.prog W = .ok true W):=by unfold Hid; rw [hZR]; exact rec_same _
 have IL:Hid ((Tryz.prog.info? 23).map (·.size)=some L.length):=by unfold Hid; rw [hL]; kernel_rfl
 have IZ:Hid ((Tryz.prog.info? 23).map (·.size)=some ZR.length):=by unfold Hid; rw [hZR]; kernel_rfl
 have IE:Hid ((Tryz.prog.info? 42).map (·.size)=some EV.length):=by unfold Hid; rw [hEV]; kernel_rfl
 obtain ⟨E0,hE0⟩:=zx (envL 0 0 []:List Value)
 have HE0:Hid (E0=[.int .i64 0,.int .i64 0,.string ⟨#[]⟩]):=hE0
 have BE0:Hid (Tryz.prog.built 42 []=some E0.toArray):=by unfold Hid; rw [hE0]; kernel_rfl
 obtain ⟨Z0,hZ0⟩:=zx (recL ⟨0,false,[]⟩)
 have HZ0:Hid (Z0=[.int .i64 0,.bool false,.string ⟨#[]⟩]):=hZ0
 have LE:Hid (E0.length=EV.length):=by unfold Hid; rw [hEV,hE0]; rfl
 have OE:Hid (∀ v ∈ EV,v.oneCell'=true):=by unfold Hid; rw [hEV]; simp [envL,Value.oneCell']
 have LL:Hid (Z0.length=L.length):=by unfold Hid; rw [hL,hZ0]; rfl
 have OL:Hid (∀ v ∈ L,v.oneCell'=true):=by unfold Hid; rw [hL]; simp [recL,Value.oneCell']
 have LZ:Hid (Z0.length=ZR.length):=by unfold Hid; rw [hZR,hZ0]; rfl
 have OZ:Hid (∀ v ∈ ZR,v.oneCell'=true):=by unfold Hid; rw [hZR]; simp [recL,Value.oneCell']
 rw [<- hsa] at CC ⊢
 clear hg hB hr hsl hk hsa hL hkl hko hmd hEV hZR hD hE0 hZ0 hm PK
 go_enter Tryz.func5,Tryz.ntmps5
 go_upto_region 1 with (fail)
 obtain ⟨w0,hw0⟩:=zx (w.alloc (.cells #[.int .i64 va,.bool ga,.string sa] 23))
 have BA:Hid (Blk w0 w.heap.size 23 [.int .i64 va,.bool ga,.string sa]):=by unfold Hid; rw [hw0]; exact Blk.new w 23 _
 have W0:Hid (Below w.heap.size w w0):=by unfold Hid; rw [hw0]; exact alloc_below _ _
 rw [<- hw0]
 clear hw0
 go_wp2_with fail
 refine (begun9_any HB.out (HG.out.below W0.out hsz)).mono ?_
 rintro e w1 ⟨rfl,hX⟩
 have W1:=qt W0 hX
 replace BA:=qh (BA.out.below hX BA.out.lt)
 clear hX W0
 have ca:w1.cell? ⟨w.heap.size,2,none⟩=some (.string sa):=BA.out.cell 2
 have fa:w1.frozen? ⟨w.heap.size,2,none⟩=false:=BA.out.frozen 2
 go_upto_region 4 with (fail)
 go_cut [1] (fun v wx=>v = .slice A m c/\Hid (Blk wx w.heap.size 23 L)/\Hid (Below w.heap.size w wx))
 case first =>
  go_region_with (first
   | (go_at_call_of 8 (Value.slice A n c); refine (SH.out _).mono ?_; rintro e w' ⟨rfl,rfl⟩)
   | (go_at_call_of 7 (Value.string sa); refine (CC.out _).mono ?_; rintro e w' ⟨rfl,rfl⟩))
  all_goals (go_wp2_with fail; go_meet)
  all_goals exact ⟨rfl,(by unfold Hid; rw [HL.out]; exact (BA.out.drew).set_ 2 (.string ⟨k.toArray⟩)),W1.out.drew.setCell (p:=⟨w.heap.size,2,none⟩) (Nat.le_refl _) _⟩
 case rest =>
  clear ca fa BA W1 SH CC HL
  obtain ⟨rfl,KA,W2⟩:=hcut
  go_upto_if 38 with (fail)
  go_cut [16] (fun v wx=>v = .int .i64 md/\Hid (Blk wx w.heap.size 23 L)/\Hid (Below w.heap.size w wx))
  case first =>
   cases ideal
   ·go_wp2_with fail
    go_meet
    exact ⟨by rw [HMD.out]; rfl,KA,W2⟩
   ·go_wp2_with fail
    go_meet
    exact ⟨by rw [HMD.out]; rfl,KA,W2⟩
  case rest =>
   clear KA W2
   obtain ⟨rfl,KA,W2⟩:=hcut
   go_wp2_with fail
   refine (CB.out wc).mono ?_
   rintro e w3 ⟨gx,gy,rfl,hJ,hX⟩
   obtain ⟨B,hBB⟩:=zx (wc.heap.size)
   rw [<- hBB] at hJ
   have hwB:w.heap.size < B:=by rw [hBB]; exact KA.out.lt
   have K3:=qh (KA.out.below hX KA.out.lt)
   have W3:=qt W2 hX
   have JJ:=qh hJ
   clear hJ hX hBB KA W2 CB
   go_wp2_with (first
    | (with_reducible refine build_law rfl 46 #[(0,.tmp 50)] rfl kl (by simp only [List.map_toArray,List.map_cons,List.map_nil]; with_unfolding_all exact BKL.out) ?_)
    | (with_reducible refine load_law rfl 23 (.tmp 13) rfl w.heap.size 0 rfl L _ Tryz.underlying23 rfl IL.out K3.out.cells ?_))
   refine (C1.out B w3 gx gy (HG.out.below W3.out hsz) (by omega) JJ.out (RS.out.below W3.out)).mono ?_
   rintro e w4 ⟨rfl,hJ,hX⟩
   have K4:=qh (K3.out.below hX hwB)
   have W4:=qh (W3.out.trans (hX.mono (Nat.le_of_lt hwB)))
   obtain ⟨hgy1,hgy2⟩:=LOW.out _ _ _ _ hJ
   have J4:=qh hJ
   clear hJ hX JJ K3 W3 C1
   go_upto_region 10 with (first
    | ((with_reducible refine storeGen_law rfl 42 (.tmp 19) (.tmp 54) rfl w4.heap.size rfl EV rfl 42 E0 IE.out LE.out OE.out w4.heap.size w4 ?_ ?_ (Nat.le_refl _) ?_)
       ·rw [HE0.out]; exact Blk.at_new _ _ 42 _ _ (by rfl) rfl
       ·exact (Below.refl _ _).alloc (Nat.le_refl _) _
       intro w5 BE1 X5))
   obtain ⟨ge1,hge1⟩:=zx (w4.heap.size)
   rw [<- hge1] at BE1 hgy2
   rw [<- hge1]
   have K5:=qh (K4.out.below X5.out K4.out.lt)
   have W5:=qt W4 X5.out
   have J5:=qh (PJ1.out _ _ _ _ _ J4.out X5.out)
   clear X5 K4 W4 J4 hge1
   go_wp2_with (first
    | (with_reducible refine build_law rfl 46 #[(0,.tmp 61)] rfl kl (by simp only [List.map_toArray,List.map_cons,List.map_nil]; with_unfolding_all exact BKL.out) ?_)
    | (with_reducible refine load_law rfl 23 (.tmp 13) rfl w.heap.size 0 rfl L _ Tryz.underlying23 rfl IL.out K5.out.cells ?_))
   refine (C2.out B w5 gx gy J5.out (RS.out.below W5.out)).mono ?_
   rintro e w6 ⟨rfl,hJ,hF⟩
   have K6:=qh (hF.blk K5.out (fun h=>by omega))
   have BF1:=qh (hF.blk BE1.out (fun h=>by omega))
   have W6:=qh (hF.below W5.out (fun x hx=>by rw [hx]; omega) W5.out.size)
   have J6:=qh hJ
   clear hJ hF K5 BE1 W5 J5 C2 PJ1 LOW hgy1 hgy2
   go_upto_region 11 with (first
    | ((with_reducible refine storeGen_law rfl 42 (.tmp 21) (.tmp 65) rfl w6.heap.size rfl EV rfl 42 E0 IE.out LE.out OE.out w6.heap.size w6 ?_ ?_ (Nat.le_refl _) ?_)
       ·rw [HE0.out]; exact Blk.at_new _ _ 42 _ _ (by rfl) rfl
       ·exact (Below.refl _ _).alloc (Nat.le_refl _) _
       intro w7 BF2 X7))
   obtain ⟨ge2,hge2⟩:=zx (w6.heap.size)
   rw [<- hge2] at BF2
   rw [<- hge2]
   have K7:=qh (K6.out.below X7.out K6.out.lt).drew
   have BE1:=qh (BF1.out.below X7.out BF1.out.lt).drew
   have BE2:=qh BF2.out.drew
   have W7:=qt W6 X7.out.drew
   have J7:=qh (PJ2.out _ _ _ _ _ (PJ2.out _ _ _ _ _ J6.out X7.out) (Below.refl _ _).drew)
   clear X7 K6 BF1 BF2 W6 J6 hge2
   refine wp_region_any (by kernel_rfl) ?_
   change wpAny _ _ _ _ _ _ _ (World.drew _)
   generalize w7.drew=wd at *
   refine ztk 0 (.int .i64 er) ?_
   try simp only [zpt]
   refine ztk 1 (.int .i64 er) ?_
   try simp only [zpt]
   refine ztk 2 (.bool false) ?_
   try simp only [zpt]
   refine ztk 3 (.bool false) ?_
   try simp only [zpt]
   refine ztk 4 (.pointer (some ⟨ge1,0,none⟩)) ?_
   try simp only [zpt]
   refine ztk 6 (.pointer (some ⟨ge2,0,none⟩)) ?_
   try simp only [zpt]
   refine zph (fun i=>[]) [5,7] (fun zT d a w'=>∃ x72 x74:Value,a={ tmps:=((zT.set 72 x72).set 74 x74).toArray,defers:=[] }/\Hid (Below wd.heap.size wd w')/\(d 5=true->x72 = .int .i64 ep')/\(d 7=true->x74 = .int .i64 ep')) 23 2 ?step7 ?init7 ?fin7
   case init7=>refine ⟨_,_,rfl,Below.refl _ _,?_,?_⟩ <;> (intro h; exact absurd h (by decide))
   case step7 =>
    intro i hi d a v7 hI hdi hdeps
    obtain ⟨x72,x74,ha,BW,h5,h7⟩:=hI
    simp only [zpt] at ha; subst ha
    have hsw:=BW.out.size
    simp only [List.mem_cons,List.not_mem_nil,or_false] at hi
    rcases hi with rfl | rfl
    ·have c0:v7.cell? ⟨ge1,0,none⟩=some (.int .i64 ep'):=by rw [(BE1.out.below BW.out BE1.out.lt).cell,HEV.out]; rfl
     refine zst fun K hK=>?_
     go_simp
     refine hK _ _ ?_; clear hK K; try simp only [zpt]
     exact ⟨_,_,rfl,BW,fun _=>rfl,zk h7⟩
    ·have c0:v7.cell? ⟨ge2,0,none⟩=some (.int .i64 ep'):=by rw [(BE2.out.below BW.out BE2.out.lt).cell,HEV.out]; rfl
     refine zst fun K hK=>?_
     go_simp
     refine hK _ _ ?_; clear hK K; try simp only [zpt]
     exact ⟨_,_,rfl,BW,zk h5,fun _=>rfl⟩
   case fin7 =>
    intro a v7 hI
    obtain ⟨x72,x74,ha,BW,h5,h7⟩:=hI
    simp only [zpt] at ha; subst ha
    obtain rfl:=h5 (by decide)
    obtain rfl:=h7 (by decide)
    replace K7:=qh (K7.out.below BW.out K7.out.lt)
    replace BE1:=qh (BE1.out.below BW.out BE1.out.lt)
    replace BE2:=qh (BE2.out.below BW.out BE2.out.lt)
    replace J7:=qh (PJ2.out _ _ _ _ _ J7.out BW.out)
    replace W7:=qt W7 BW.out
    clear BW
    try dsimp only
    refine ztk 8 (.bool false) ?_
    try simp only [zpt]
    refine ztk 9 (.bool false) ?_
    try simp only [zpt]
    refine ztk 10 (.bool false) ?_
    try simp only [zpt]
    refine ztk 11 (.pointer (some ⟨ge1,1,none⟩)) ?_
    try simp only [zpt]
    refine ztk 13 (.pointer (some ⟨ge2,1,none⟩)) ?_
    try simp only [zpt]
    refine zph (fun i=>[]) [12,14] (fun zT d a w'=>∃ x79 x81:Value,a={ tmps:=((zT.set 79 x79).set 81 x81).toArray,defers:=[] }/\Hid (Below v7.heap.size v7 w')/\(d 12=true->x79 = .int .i64 no')/\(d 14=true->x81 = .int .i64 no')) 16 2 ?step15 ?init15 ?fin15
    case init15=>refine ⟨_,_,rfl,Below.refl _ _,?_,?_⟩ <;> (intro h; exact absurd h (by decide))
    case step15 =>
     intro i hi d a v15 hI hdi hdeps
     obtain ⟨x79,x81,ha,BW,h12,h14⟩:=hI
     simp only [zpt] at ha; subst ha
     have hsw:=BW.out.size
     simp only [List.mem_cons,List.not_mem_nil,or_false] at hi
     rcases hi with rfl | rfl
     ·have c0:v15.cell? ⟨ge1,1,none⟩=some (.int .i64 no'):=by rw [(BE1.out.below BW.out BE1.out.lt).cell,HEV.out]; rfl
      refine zst fun K hK=>?_
      go_simp
      refine hK _ _ ?_; clear hK K; try simp only [zpt]
      exact ⟨_,_,rfl,BW,fun _=>rfl,zk h14⟩
     ·have c0:v15.cell? ⟨ge2,1,none⟩=some (.int .i64 no'):=by rw [(BE2.out.below BW.out BE2.out.lt).cell,HEV.out]; rfl
      refine zst fun K hK=>?_
      go_simp
      refine hK _ _ ?_; clear hK K; try simp only [zpt]
      exact ⟨_,_,rfl,BW,zk h12,fun _=>rfl⟩
    case fin15 =>
     intro a v15 hI
     obtain ⟨x79,x81,ha,BW,h12,h14⟩:=hI
     simp only [zpt] at ha; subst ha
     obtain rfl:=h12 (by decide)
     obtain rfl:=h14 (by decide)
     replace K7:=qh (K7.out.below BW.out K7.out.lt)
     replace BE1:=qh (BE1.out.below BW.out BE1.out.lt)
     replace BE2:=qh (BE2.out.below BW.out BE2.out.lt)
     replace J7:=qh (PJ2.out _ _ _ _ _ J7.out BW.out)
     replace W7:=qt W7 BW.out
     clear BW
     try dsimp only
     refine ztk 15 (.bool false) ?_
     try simp only [zpt]
     refine ztk 16 (.bool false) ?_
     try simp only [zpt]
     refine ztk 17 (.bool false) ?_
     try simp only [zpt]
     refine ztk 18 (.pointer (some ⟨ge1,2,none⟩)) ?_
     try simp only [zpt]
     refine ztk 20 (.pointer (some ⟨ge2,2,none⟩)) ?_
     try simp only [zpt]
     refine zph (fun i=>[]) [19,21] (fun zT d a w'=>∃ x86 x88:Value,a={ tmps:=((zT.set 86 x86).set 88 x88).toArray,defers:=[] }/\Hid (Below v15.heap.size v15 w')/\(d 19=true->x86 = .string ⟨bx.toArray⟩)/\(d 21=true->x88 = .string ⟨bx.toArray⟩)) 9 2 ?step23 ?init23 ?fin23
     case init23=>refine ⟨_,_,rfl,Below.refl _ _,?_,?_⟩ <;> (intro h; exact absurd h (by decide))
     case step23 =>
      intro i hi d a v23 hI hdi hdeps
      obtain ⟨x86,x88,ha,BW,h19,h21⟩:=hI
      simp only [zpt] at ha; subst ha
      have hsw:=BW.out.size
      simp only [List.mem_cons,List.not_mem_nil,or_false] at hi
      rcases hi with rfl | rfl
      ·have c0:v23.cell? ⟨ge1,2,none⟩=some (.string ⟨bx.toArray⟩):=by rw [(BE1.out.below BW.out BE1.out.lt).cell,HEV.out]; rfl
       refine zst fun K hK=>?_
       go_simp
       refine hK _ _ ?_; clear hK K; try simp only [zpt]
       exact ⟨_,_,rfl,BW,fun _=>rfl,zk h21⟩
      ·have c0:v23.cell? ⟨ge2,2,none⟩=some (.string ⟨bx.toArray⟩):=by rw [(BE2.out.below BW.out BE2.out.lt).cell,HEV.out]; rfl
       refine zst fun K hK=>?_
       go_simp
       refine hK _ _ ?_; clear hK K; try simp only [zpt]
       exact ⟨_,_,rfl,BW,zk h19,fun _=>rfl⟩
     case fin23 =>
      intro a v23 hI
      obtain ⟨x86,x88,ha,BW,h19,h21⟩:=hI
      simp only [zpt] at ha; subst ha
      obtain rfl:=h19 (by decide)
      obtain rfl:=h21 (by decide)
      replace K7:=qh (K7.out.below BW.out K7.out.lt)
      replace BE1:=qh (BE1.out.below BW.out BE1.out.lt)
      replace BE2:=qh (BE2.out.below BW.out BE2.out.lt)
      replace J7:=qh (PJ2.out _ _ _ _ _ J7.out BW.out)
      replace W7:=qt W7 BW.out
      clear BW
      try dsimp only
      have hss:=str_same bx
      refine ztk 22 (.bool false) ?_
      try simp only [zpt]
      refine ztk 23 (.bool false) ?_
      try simp only [zpt]
      refine ztk 24 (.bool false) ?_
      try simp only [zpt]
      have hee:=EQD.out
      refine zph (fun i=>if i=26 then [25] else if i=28 then [27,26] else if i=29 then [26,28] else []) [25,26,27,28,29] (fun zT d a w'=>∃ x92 x93 x94 x95 x96:Value,a={ tmps:=(((((zT.set 92 x92).set 93 x93).set 94 x94).set 95 x95).set 96 x96).toArray,defers:=[] }/\Hid (Below v23.heap.size v23 w')/\(d 25=true->x92 = .agg EV.toArray)/\(d 26=true->x93 = .agg D.toArray)/\(d 27=true->x94 = .agg EV.toArray)/\(d 28=true->x95 = .agg D.toArray)/\(d 29=true->x96 = .bool false)) 1 5 ?step29 ?init29 ?fin29
      case init29=>refine ⟨_,_,_,_,_,rfl,Below.refl _ _,?_,?_,?_,?_,?_⟩ <;> (intro h; exact absurd h (by decide))
      case step29 =>
       intro i hi d a v29 hI hdi hdeps
       obtain ⟨x92,x93,x94,x95,x96,ha,BW,h25,h26,h27,h28,h29⟩:=hI
       simp only [zpt] at ha; subst ha
       have hsw:=BW.out.size
       simp only [List.mem_cons,List.not_mem_nil,or_false] at hi
       rcases hi with rfl | rfl | rfl | rfl | rfl
       ·refine zst fun K hK=>?_
        refine step_loadW rfl 42 (.tmp 19) rfl ge1 0 rfl EV _ Tryz.underlying42 rfl IE.out (BE1.out.below BW.out BE1.out.lt).cells (hK _ _ ?_)
        clear hK K
        try simp only [zpt]
        exact ⟨_,_,_,_,_,rfl,BW,fun _=>rfl,zk h26,zk h27,zk h28,zk h29⟩
       ·obtain rfl:=h25 (hdeps 25 (by simp))
        refine zst fun K hK=>?_
        go_simp
        refine (CS1.out v29 (HG.out.below (zt W7.out BW.out) hsz)).mono ?_
        rintro e u29 ⟨rfl,hX⟩
        refine hK _ _ ?_; clear hK K; try simp only [zpt]
        exact ⟨_,_,_,_,_,rfl,BW.out.trans (hX.mono hsw),zk h25,fun _=>rfl,zk h27,zk h28,zk h29⟩
       ·refine zst fun K hK=>?_
        refine step_loadW rfl 42 (.tmp 21) rfl ge2 0 rfl EV _ Tryz.underlying42 rfl IE.out (BE2.out.below BW.out BE2.out.lt).cells (hK _ _ ?_)
        clear hK K
        try simp only [zpt]
        exact ⟨_,_,_,_,_,rfl,BW,zk h25,zk h26,fun _=>rfl,zk h28,zk h29⟩
       ·obtain rfl:=h27 (hdeps 27 (by simp))
        refine zst fun K hK=>?_
        go_simp
        refine (CS2.out v29).mono ?_
        rintro e u29 ⟨rfl,hX⟩
        refine hK _ _ ?_; clear hK K; try simp only [zpt]
        exact ⟨_,_,_,_,_,rfl,BW.out.trans (hX.mono hsw),zk h25,zk h26,zk h27,fun _=>rfl,zk h29⟩
       ·obtain rfl:=h26 (hdeps 26 (by simp))
        obtain rfl:=h28 (hdeps 28 (by simp))
        refine zst fun K hK=>?_
        go_simp
        refine hK _ _ ?_; clear hK K; try simp only [zpt]
        exact ⟨_,_,_,_,_,rfl,BW,zk h25,zk h26,zk h27,zk h28,fun _=>rfl⟩
      case fin29 =>
       intro a v29 hI
       obtain ⟨x92,x93,x94,x95,x96,ha,BW,h25,h26,h27,h28,h29⟩:=hI
       simp only [zpt] at ha; subst ha
       obtain rfl:=h25 (by decide)
       obtain rfl:=h26 (by decide)
       obtain rfl:=h27 (by decide)
       obtain rfl:=h28 (by decide)
       obtain rfl:=h29 (by decide)
       replace K7:=qh (K7.out.below BW.out K7.out.lt)
       replace BE1:=qh (BE1.out.below BW.out BE1.out.lt)
       replace BE2:=qh (BE2.out.below BW.out BE2.out.lt)
       replace J7:=qh (PJ2.out _ _ _ _ _ J7.out BW.out)
       replace W7:=qt W7 BW.out
       clear BW
       clear CS1 CS2 EQD hee
       try dsimp only
       refine ztk 30 (.bool false) ?_
       try simp only [zpt]
       refine wpAny_done (by kernel_rfl) ?_ _
       generalize v29=w8 at *
       rcases ERR.out with rfl | ⟨rfl,hev⟩
       case inr =>
        have BZ0:Tryz.prog.built 42 []=some E0.toArray:=BE0.out
        have hev2:∀ W,(Op.equalIn 10000 42 (.agg EV.toArray) (.agg E0.toArray)).run Tryz.prog W = .ok true W:=by rw [HE0.out]; exact hev
        clear hev
        go_wp2_with (first
         | (with_reducible refine load_law rfl 42 (.tmp 19) rfl ge1 0 rfl EV _ Tryz.underlying42 rfl IE.out BE1.out.cells ?_)
         | (with_reducible refine build_law rfl 42 #[] rfl E0 (by simp only [List.map_toArray,List.map_nil]; exact BZ0) ?_))
        go_ret
        exact ⟨rfl,W7.out⟩
       case inl =>
        have Q1:=qh (D1.out rfl)
        have Q2:=qh (D2.out rfl)
        have Q3:=qh (D3.out rfl)
        clear D1 D2 D3 ERR
        go_wp2_with (first
         | (with_reducible refine build_law rfl 46 #[(0,.tmp 106)] rfl kl (by simp only [List.map_toArray,List.map_cons,List.map_nil]; with_unfolding_all exact BKL.out) ?_)
         | (with_reducible refine load_law rfl 42 (.tmp 19) rfl ge1 0 rfl EV _ Tryz.underlying42 rfl IE.out BE1.out.cells ?_))
        refine (Q1.out B w8 gx gy (HG.out.below W7.out hsz) J7.out (RS.out.below W7.out)).mono ?_
        rintro e w9 ⟨rfl,hX⟩
        have E7:=BE1
        have F7:=BE2
        clear BE1 BE2
        have K9:=qh (K7.out.below hX K7.out.lt)
        have E9:=qh (E7.out.below hX E7.out.lt)
        have F9:=qh (F7.out.below hX F7.out.lt)
        have J9:=qh (PJ2.out _ _ _ _ _ J7.out hX)
        have W9:=qt W7 hX
        clear hX K7 E7 F7 J7 W7 Q1
        go_upto_region 16 with (first
         | ((with_reducible refine storeGen_law rfl 23 (.tmp 23) (.tmp 110) rfl w9.heap.size rfl L rfl 23 Z0 IL.out LL.out OL.out w9.heap.size w9 ?_ ?_ (Nat.le_refl _) ?_)
            ·rw [HZ0.out]; exact Blk.at_new _ _ 23 _ _ (by rfl) rfl
            ·exact (Below.refl _ _).alloc (Nat.le_refl _) _
            intro wa R1 X))
        obtain ⟨g1,hg1⟩:=zx (w9.heap.size)
        rw [<- hg1] at R1
        rw [<- hg1]
        have K10:=qh (K9.out.below X.out K9.out.lt)
        have E10:=qh (E9.out.below X.out E9.out.lt)
        have F10:=qh (F9.out.below X.out F9.out.lt)
        have J10:=qh (PJ2.out _ _ _ _ _ J9.out X.out)
        have W10:=qt W9 X.out
        clear X K9 E9 F9 J9 W9 hg1
        go_wp2_with (first
         | (with_reducible refine build_law rfl 46 #[(0,.tmp 115)] rfl ko (by simp only [List.map_toArray,List.map_cons,List.map_nil]; with_unfolding_all exact BKO.out) ?_)
         | (with_reducible refine load_law rfl 42 (.tmp 19) rfl ge1 0 rfl EV _ Tryz.underlying42 rfl IE.out E10.out.cells ?_))
        refine (Q2.out B wa gx gy (HG.out.below W10.out hsz) J10.out (RS.out.below W10.out)).mono ?_
        rintro e wb ⟨rfl,hX⟩
        have K11:=qh (K10.out.below hX K10.out.lt)
        have E11:=qh (E10.out.below hX E10.out.lt)
        have F11:=qh (F10.out.below hX F10.out.lt)
        have J11:=qh (PJ2.out _ _ _ _ _ J10.out hX)
        have W11:=qt W10 hX
        have R2:=qh (R1.out.below hX R1.out.lt)
        clear hX K10 E10 F10 J10 W10 R1 Q2
        go_upto_region 17 with (first
         | ((with_reducible refine storeGen_law rfl 23 (.tmp 25) (.tmp 119) rfl wb.heap.size rfl ZR rfl 23 Z0 IZ.out LZ.out OZ.out wb.heap.size wb ?_ ?_ (Nat.le_refl _) ?_)
            ·rw [HZ0.out]; exact Blk.at_new _ _ 23 _ _ (by rfl) rfl
            ·exact (Below.refl _ _).alloc (Nat.le_refl _) _
            intro wf S1 X))
        obtain ⟨g2,hg2⟩:=zx (wb.heap.size)
        rw [<- hg2] at S1
        rw [<- hg2]
        have K12:=qh (K11.out.below X.out K11.out.lt)
        have E12:=qh (E11.out.below X.out E11.out.lt)
        have F12:=qh (F11.out.below X.out F11.out.lt)
        have J12:=qh (PJ2.out _ _ _ _ _ J11.out X.out)
        have W12:=qt W11 X.out
        have R3:=qh (R2.out.below X.out R2.out.lt)
        clear X K11 E11 F11 J11 W11 R2 hg2
        go_wp2_with (first
         | (with_reducible refine build_law rfl 46 #[(0,.tmp 124)] rfl ko (by simp only [List.map_toArray,List.map_cons,List.map_nil]; with_unfolding_all exact BKO.out) ?_)
         | (with_reducible refine load_law rfl 42 (.tmp 21) rfl ge2 0 rfl EV _ Tryz.underlying42 rfl IE.out F12.out.cells ?_))
        refine (Q3.out B wf gx gy J12.out (RS.out.below W12.out)).mono ?_
        rintro e wg ⟨rfl,hX⟩
        have K13:=qh (K12.out.below hX K12.out.lt)
        have E13:=qh (E12.out.below hX E12.out.lt)
        have F13:=qh (F12.out.below hX F12.out.lt)
        have J13:=qh (PJ2.out _ _ _ _ _ J12.out hX)
        have W13:=qt W12 hX
        have R4:=qh (R3.out.below hX R3.out.lt)
        have S2:=qh (S1.out.below hX S1.out.lt)
        clear hX K12 E12 F12 J12 W12 R3 S1 Q3
        go_upto_region 18 with (first
         | ((with_reducible refine storeGen_law rfl 23 (.tmp 27) (.tmp 128) rfl wg.heap.size rfl ZR rfl 23 Z0 IZ.out LZ.out OZ.out wg.heap.size wg ?_ ?_ (Nat.le_refl _) ?_)
            ·rw [HZ0.out]; exact Blk.at_new _ _ 23 _ _ (by rfl) rfl
            ·exact (Below.refl _ _).alloc (Nat.le_refl _) _
            intro wh T1 X))
        obtain ⟨g3,hg3⟩:=zx (wg.heap.size)
        rw [<- hg3] at T1
        rw [<- hg3]
        have K14:=qh (K13.out.below X.out K13.out.lt)
        have E14:=qh (E13.out.below X.out E13.out.lt)
        have F14:=qh (F13.out.below X.out F13.out.lt)
        have J14:=qh (PJ2.out _ _ _ _ _ J13.out X.out)
        have W14:=qt W13 X.out
        have R5:=qh (R4.out.below X.out R4.out.lt)
        have S3:=qh (S2.out.below X.out S2.out.lt)
        clear X K13 E13 F13 J13 W13 R4 S2 hg3
        have heq1:=EQL.out
        have heq2:=EQZ.out
        go_wp2_with (first
         | ((with_reducible refine loadW_law ?gd 23 (.tmp 23) rfl g1 0 ?hx L _ Tryz.underlying23 rfl IL.out R5.out.cells ?_); (case gd=>rfl); (case hx=>rfl))
         | ((with_reducible refine loadW_law ?gd 23 (.tmp 13) rfl w.heap.size 0 ?hx L _ Tryz.underlying23 rfl IL.out K14.out.cells ?_); (case gd=>rfl); (case hx=>rfl))
         | ((with_reducible refine loadW_law ?gd 23 (.tmp 25) rfl g2 0 ?hx ZR _ Tryz.underlying23 rfl IZ.out S3.out.cells ?_); (case gd=>rfl); (case hx=>rfl))
         | ((with_reducible refine loadW_law ?gd 23 (.tmp 27) rfl g3 0 ?hx ZR _ Tryz.underlying23 rfl IZ.out T1.out.cells ?_); (case gd=>rfl); (case hx=>rfl)))
        go_ret
        exact ⟨rfl,W14.out⟩
end Go.Proofs.YtnfbkimkdnbohaaGreatDoor.recBox
