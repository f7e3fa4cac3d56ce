import Derived.Test.YtnfbkimkdnbohaaGreatDoorSBk
set_option linter.unusedVariables false
set_option linter.unusedSimpArgs false
set_option maxRecDepth 100000
set_option maxHeartbeats 8000000
namespace Go.Proofs.YtnfbkimkdnbohaaGreatDoor
open Go.RowKit
def key1 (x:UInt8):List UInt8:=x :: List.replicate 31 0
theorem key1_length (x:UInt8):(key1 x).length=32:=by simp [key1]
theorem tape1_0:(Sha.sum [2,0]).getD 17 0=84:=by kernel_rfl
theorem tape1_1:(Sha.sum [2,2]).getD 17 0=249:=by kernel_rfl
theorem tape1_ne:Tap.tape 1 49 32 ≠ Tap.tape 1 17 32:=by
 intro h
 have h1:(Tap.tape 1 17 32).head?=some 84:=by
  show some (Tap.byte 1 17)=some 84
  unfold Tap.byte Tap.blk
  rw [show Num.zig 1=2 from rfl,show Num.zig ((17 / 32:Nat):Int)=0 from rfl,Num.enc_lo (by omega),Num.enc_lo (by omega)]
  exact congrArg some tape1_0
 have h2:(Tap.tape 1 49 32).head?=some 249:=by
  show some (Tap.byte 1 49)=some 249
  unfold Tap.byte Tap.blk
  rw [show Num.zig 1=2 from rfl,show Num.zig ((49 / 32:Nat):Int)=2 from rfl,Num.enc_lo (by omega)]
  exact congrArg some tape1_1
 rw [<- h,h2] at h1
 exact absurd h1 (by decide)
theorem begun8_any {P:BxP} (hB:BoxOk P) {w:World} (hg:Gl w):Calls Tryz.prog 50 #[] w fun e w'=>e = .returned (.bool true)/\Below w.heap.size w w':=by
 have HG:=qh hg
 have HB:=qh hB
 have hsz:=hg.size
 clear hg hB
 obtain ⟨ke,hke⟩:=zx (key1 7)
 have K32:Hid (ke.length=32):=by unfold Hid; rw [hke]; exact key1_length 7
 obtain ⟨kc,hkc⟩:=zx (ke.map cellOf)
 have IK:Hid ((Tryz.prog.info? 46).map (·.size)=some kc.length):=by unfold Hid; rw [hkc,List.length_map,K32.out]; kernel_rfl
 have LK:Hid ((List.replicate 32 (Value.int .u8 0)).length=kc.length):=by unfold Hid; rw [hkc,List.length_map,K32.out]; rfl
 have OKC:Hid (∀ v ∈ kc,v.oneCell'=true):=by unfold Hid; rw [hkc]; exact cells_u8 _
 have BKC:Hid (Tryz.prog.built 46 [(0,.int .u8 7)]=some kc.toArray):=by unfold Hid; rw [hkc,hke]; kernel_rfl
 obtain ⟨la,hla⟩:=zx (Ae.sealed ke (Bx.nonce 3) [] [120])
 have LA:Hid (la.length=17):=by unfold Hid; rw [hla,Ae.sealed_length]; rfl
 obtain ⟨lt,hlt⟩:=zx (Tap.tape 1 0 17)
 have LT:Hid (lt.length=17):=by unfold Hid; rw [hlt,Tap.tape_length]
 obtain ⟨S1,hS1⟩:=zx ([Bx.SNote.mk ke 3 [] [120] lt])
 obtain ⟨lm,hlm⟩:=zx (Tap.tape 1 17 32)
 have LM:Hid (lm.length=32):=by unfold Hid; rw [hlm,Tap.tape_length]
 obtain ⟨mc,hmc⟩:=zx (lm.map cellOf)
 have IM:Hid ((Tryz.prog.info? 46).map (·.size)=some mc.length):=by unfold Hid; rw [hmc,List.length_map,LM.out]; kernel_rfl
 have LMC:Hid ((List.replicate 32 (Value.int .u8 0)).length=mc.length):=by unfold Hid; rw [hmc,List.length_map,LM.out]; rfl
 have OMC:Hid (∀ v ∈ mc,v.oneCell'=true):=by unfold Hid; rw [hmc]; exact cells_u8 _
 obtain ⟨B1,hB1⟩:=zx ([Bx.BNote.mk ke [109] lm])
 obtain ⟨ll,hll⟩:=zx (Tap.tape 1 49 32)
 obtain ⟨lc,hlc⟩:=zx (ll.map cellOf)
 have HNE:Hid (∀ W,(Op.equalIn 10000 46 (.agg lc.toArray) (.agg mc.toArray)).run Tryz.prog W = .ok false W):=fun W=>by
  rw [hlc,hmc,equal30 ll lm (by rw [hll,Tap.tape_length]) LM.out]
  congr 1
  unfold sameB
  rw [hll,hlm]
  exact decide_eq_false tape1_ne
 have CSR:Hid (∀ (W:World) (g:Nat) (M:Nat->Prop) (A:Option Addr),Gl W->P W g .real M->Rd W A 1 1 [120]->Calls Tryz.prog 34 #[.pointer (some ⟨g,0,none⟩),.agg kc.toArray,.int .i64 3,.slice none 0 0,.slice A 1 1] W (RetSR W la)):=fun W g M A h1 h2 h3=>by
  rw [hkc,hla]
  exact HB.out.slR ke 3 h1 h2 K32.out (by omega) (by omega) (Rd.nil W none 0 (by unfold maxLen; omega)) h3 (by omega) (by omega)
 have CSI:Hid (∀ (W:World) (g:Nat) (M:Nat->Prop) (A:Option Addr),Gl W->(∀ b,M b->3<=b)->P W g (.ideal 1 0 [] [] []) M->Rd W A 1 1 [120]->Off M A 1->Calls Tryz.prog 34 #[.pointer (some ⟨g,0,none⟩),.agg kc.toArray,.int .i64 3,.slice none 0 0,.slice A 1 1] W (RetS P W g M lt (.ideal 1 17 S1 [] []))):=fun W g M A h1 h0 h2 h3 h4=>by
  rw [hkc,hS1,hlt]
  exact HB.out.slI ke 3 h1 h0 h2 (by omega) K32.out (by omega) (by omega) (Rd.nil W none 0 (by unfold maxLen; omega)) h3 (Off.none_ _ _) h4 (by omega)
 have COR:Hid (∀ (W:World) (g:Nat) (M:Nat->Prop) (A:Option Addr) (c:Nat),Gl W->P W g .real M->Rd W A 17 c la->Calls Tryz.prog 42 #[.pointer (some ⟨g,0,none⟩),.agg kc.toArray,.int .i64 3,.slice none 0 0,.slice A 17 c] W (RetP W ([120],true))):=fun W g M A c h1 h2 h3=>by
  have:=HB.out.opR ke 3 h1 h2 K32.out (by omega) (by omega) (Rd.nil W none 0 (by unfold maxLen; omega)) h3 (by omega) (by omega)
  rw [hla,opened_sealed,Ae.opens_sealed] at this
  rw [hkc]
  exact this
 have COI:Hid (∀ (W:World) (g:Nat) (M:Nat->Prop) (A:Option Addr) (c:Nat),Gl W->P W g (.ideal 1 17 S1 [] []) M->Rd W A 17 c lt->Calls Tryz.prog 42 #[.pointer (some ⟨g,0,none⟩),.agg kc.toArray,.int .i64 3,.slice none 0 0,.slice A 17 c] W (RetP W ([120],true))):=fun W g M A c h1 h2 h3=>by
  have:=HB.out.opI ke 3 h1 h2 K32.out (by omega) (by omega) (Rd.nil W none 0 (by unfold maxLen; omega)) h3 (by omega) (by omega)
  rw [show Bx.openBy ke 3 [] lt S1=([120],true) by rw [hS1]; simp [Bx.openBy,Bx.lookS]] at this
  rw [hkc]
  exact this
 have CO4:Hid (∀ (W:World) (g:Nat) (M:Nat->Prop) (A:Option Addr) (c:Nat),Gl W->P W g (.ideal 1 17 S1 [] []) M->Rd W A 17 c lt->Calls Tryz.prog 42 #[.pointer (some ⟨g,0,none⟩),.agg kc.toArray,.int .i64 4,.slice none 0 0,.slice A 17 c] W (RetP W ([],false))):=fun W g M A c h1 h2 h3=>by
  have:=HB.out.opI ke 4 h1 h2 K32.out (by omega) (by omega) (Rd.nil W none 0 (by unfold maxLen; omega)) h3 (by omega) (by omega)
  rw [show Bx.openBy ke 4 [] lt S1=([],false) by rw [hS1]; simp [Bx.openBy,Bx.lookS]] at this
  rw [hkc]
  exact this
 have CMI:Hid (∀ (W:World) (g:Nat) (M:Nat->Prop) (A:Option Addr),Gl W->(∀ b,M b->3<=b)->P W g (.ideal 1 17 S1 [] []) M->Rd W A 1 1 [109]->Off M A 1->Calls Tryz.prog 74 #[.pointer (some ⟨g,0,none⟩),.agg kc.toArray,.slice A 1 1] W fun e w'=>∃ M',e = .returned (.agg mc.toArray)/\P w' g (.ideal 1 49 S1 B1 []) M'/\Fr M W w'/\∀ b,M' b->M b ∨ W.heap.size<=b):=fun W g M A h1 h0 h2 h3 h4=>by
  have:=HB.out.mkI ke h1 h0 h2 (by omega) K32.out h3 h4 (by omega)
  rw [hkc,hmc,hB1,hlm]
  exact this
 have CIM:Hid (∀ (W:World) (g:Nat) (M:Nat->Prop) (A:Option Addr),Gl W->P W g (.ideal 1 49 S1 B1 []) M->Rd W A 1 1 [109]->Calls Tryz.prog 77 #[.pointer (some ⟨g,0,none⟩),.agg kc.toArray,.slice A 1 1,.agg mc.toArray] W fun e w'=>e = .returned (.bool true)/\Below W.heap.size W w'):=fun W g M A h1 h2 h3=>by
  have:=HB.out.isI ke lm h1 h2 K32.out LM.out h3 (by omega)
  rw [show decide (Bx.lookB ke [109] B1=some lm)=true by rw [hB1]; simp [Bx.lookB]] at this
  rw [hkc,hmc]
  exact this
 have CIN:Hid (∀ (W:World) (g:Nat) (M:Nat->Prop) (A:Option Addr),Gl W->P W g (.ideal 1 49 S1 B1 []) M->Rd W A 1 1 [110]->Calls Tryz.prog 77 #[.pointer (some ⟨g,0,none⟩),.agg kc.toArray,.slice A 1 1,.agg mc.toArray] W fun e w'=>e = .returned (.bool false)/\Below W.heap.size W w'):=fun W g M A h1 h2 h3=>by
  have:=HB.out.isI ke lm h1 h2 K32.out LM.out h3 (by omega)
  rw [show decide (Bx.lookB ke [110] B1=some lm)=false by rw [hB1]; simp [Bx.lookB]] at this
  rw [hkc,hmc]
  exact this
 have CLI:Hid (∀ (W:World) (g:Nat) (M:Nat->Prop),Gl W->(∀ b,M b->3<=b)->P W g (.ideal 1 49 S1 B1 []) M->Calls Tryz.prog 78 #[.pointer (some ⟨g,0,none⟩),.agg kc.toArray,.string ⟨#[109]⟩] W fun e w'=>e = .returned (.agg lc.toArray)/\Fr M W w'):=fun W g M h1 h0 h2=>by
  have:=HB.out.lbI ke [109] h1 h0 h2 (by omega) K32.out (by decide)
  rw [hkc,hlc,hll]
  exact this.mono fun e w' ⟨M',h1,h2,h3,h4⟩=>⟨h1,h3⟩
 clear hke hkc hla hlt hS1 hlm hmc hB1 hll hlc
 go_enter Tryz.func50,Tryz.ntmps50
 go_wp2_with fail
 refine (HB.out.newR w none).mono ?_
 rintro e w1 ⟨gr,Mr,rfl,hMr,hP,hX⟩
 have hs1:=hX.size
 have W1:=qh hX
 have PR:=qh hP
 have MRl:Hid (∀ b,Mr b->b < w1.heap.size):=fun b hb=>HB.out.lt PR.out hb
 clear hX hP hMr
 go_wp2_with fail
 refine (tnew_any 1 w1 (by omega) (by omega)).mono ?_
 rintro e w2 ⟨t,rfl,ht,hT,hX⟩
 have hs2:=hX.size
 have W2:=qh (W1.out.trans (hX.mono hs1))
 replace PR:=qh (HB.out.below PR.out hX)
 have T2:=qh hT
 clear hX hT W1
 go_wp2_with fail
 refine (HB.out.newI T2.out).mono ?_
 rintro e w3 ⟨gi,Mi,rfl,hMi,hP,hX⟩
 have hs3:=hX.size
 have W3:=qt W2 hX
 replace PR:=qh (HB.out.below PR.out hX)
 have PI:=qh hP
 have MI:Hid (∀ b,Mi b->w1.heap.size<=b/\b < w3.heap.size):=fun b hb=>⟨by rcases hMi b hb with h | h <;> omega,HB.out.lt PI.out hb⟩
 clear hX hP hMi W2 T2
 go_wp2_with fail
 refine (tnew_any 1 w3 (by omega) (by omega)).mono ?_
 rintro e w4 ⟨t2,rfl,ht2,hT,hX⟩
 have hs4:=hX.size
 have W4:=qt W3 hX
 replace PR:=qh (HB.out.below PR.out hX)
 replace PI:=qh (HB.out.below PI.out hX)
 clear hX hT W3
 go_wp2_with fail
 refine (HB.out.newO w4 2 _ (by decide) (by decide)).mono ?_
 rintro e w5 ⟨rfl,hX⟩
 have hs5:=hX.size
 have W5:=qt W4 hX
 replace PR:=qh (HB.out.below PR.out hX)
 replace PI:=qh (HB.out.below PI.out hX)
 clear hX W4
 go_wp2_with fail
 refine (HB.out.newN w5).mono ?_
 rintro e w6 ⟨rfl,hX⟩
 have hs6:=hX.size
 have W6:=qt W5 hX
 replace PR:=qh (HB.out.below PR.out hX)
 replace PI:=qh (HB.out.below PI.out hX)
 clear hX W5
 go_upto_region 4 with (fail)
 refine wp_region_lit ?_
 refine build_law rfl 46 #[(0,.const (.int .u8 7))] rfl kc (by simp only [List.map_toArray,List.map_cons,List.map_nil]; exact BKC.out) ?_
 simp only [zpt]
 go_upto_region 5 with (first
  | ((with_reducible refine storeGen_law rfl 46 (.tmp 3) (.tmp 31) rfl w6.heap.size rfl kc rfl 46 (List.replicate 32 (.int .u8 0)) IK.out LK.out OKC.out w6.heap.size w6 ?_ ?_ (Nat.le_refl _) ?_)
     ·exact Blk.at_new _ _ 46 _ _ (by rfl) rfl
     ·exact (Below.refl _ _).alloc (Nat.le_refl _) _
     intro w7 BLK X7))
 obtain ⟨gk,hgk⟩:=zx (w6.heap.size)
 rw [<- hgk] at BLK
 rw [<- hgk]
 have hgk6:w6.heap.size<=gk:=by omega
 clear hgk
 have W7:=qt W6 X7.out.drew
 replace PR:=qh (HB.out.below PR.out X7.out.drew)
 replace PI:=qh (HB.out.below PI.out X7.out.drew)
 have KB:=qh BLK.out.drew
 have hs7:w6.heap.size<=w7.drew.heap.size:=X7.out.size
 have hgk7:gk < w7.drew.heap.size:=BLK.out.lt
 have NK:Hid (¬ Mi gk):=fun h=>by have:=MI.out gk h; omega
 clear X7 BLK W6
 refine wp_region_any (by kernel_rfl) ?_
 change wpAny _ _ _ _ _ _ _ (World.drew _)
 generalize w7.drew=w8 at *
 refine ztk 0 (.pointer (some ⟨gr,0,none⟩)) ?_
 try simp only [zpt]
 refine ztk 5 (.pointer (some ⟨gi,0,none⟩)) ?_
 try simp only [zpt]
 refine zph (fun i=>if i=3 then [2] else if i=4 then [1,3] else if i=8 then [7] else []) [1,2,3,4,6,7,8] (fun zT d a w'=>∃ x33 x34 x35 x36 x38 x39 x40:Value,a={ tmps:=(((((((zT.set 33 x33).set 34 x34).set 35 x35).set 36 x36).set 38 x38).set 39 x39).set 40 x40).toArray,defers:=[] }/\Hid (Below w8.heap.size w8 w')/\(d 1=true->x33 = .agg kc.toArray)/\(d 2=true->Hid (Lt w' w8.heap.size x34 [120]))/\(d 3=true->Hid (Lt w' w8.heap.size x35 [120]))/\(d 4=true->Hid (Nw w' w8.heap.size x36 la))/\(d 6=true->x38 = .agg kc.toArray)/\(d 7=true->Hid (Lt w' w8.heap.size x39 [120]))/\(d 8=true->Hid (Lt w' w8.heap.size x40 [120]))) 3 7 ?step3 ?init3 ?fin3
 case init3=>refine ⟨_,_,_,_,_,_,_,rfl,Below.refl _ _,?_,?_,?_,?_,?_,?_,?_⟩ <;> (intro h; exact absurd h (by decide))
 case step3 =>
  intro i hi d a v3 hI hdi hdeps
  obtain ⟨x33,x34,x35,x36,x38,x39,x40,ha,BW,h1,h2,h3,h4,h6,h7,h8⟩:=hI
  simp only [zpt] at ha; subst ha
  have hsw:=BW.out.size
  simp only [List.mem_cons,List.not_mem_nil,or_false] at hi
  rcases hi with rfl | rfl | rfl | rfl | rfl | rfl | rfl
  ·refine zst fun K hK=>?_
   refine step_loadW rfl 46 (.tmp 3) rfl gk 0 rfl kc _ Tryz.underlying46 rfl IK.out (KB.out.below BW.out KB.out.lt).cells (hK _ _ ?_)
   clear hK K
   try simp only [zpt]
   exact ⟨_,_,_,_,_,_,_,rfl,BW,fun _=>rfl,zk h2,zk h3,zk h4,zk h6,zk h7,zk h8⟩
  ·have hX:=alloc_below v3 (.cells #[.int .u8 120] 5)
   refine zst fun K hK=>?_
   go_simp
   refine hK _ _ ?_; clear hK K; try simp only [zpt]
   exact ⟨_,_,_,_,_,_,_,rfl,BW.out.trans (hX.mono hsw),zk h1,fun _=>Lt.new _ _ _ _ _ (by rfl) rfl hsw,fun a=>(h3 (by simpa using a)).out.below hX,fun a=>(h4 (by simpa using a)).out.below hX,zk h6,fun a=>(h7 (by simpa using a)).out.below hX,fun a=>(h8 (by simpa using a)).out.below hX⟩
  ·have hL:=h2 (hdeps 2 (by simp))
   obtain ⟨u3,hcv,hF,hBz⟩:=conv_mark hL.out
   refine zst fun K hK=>?_
   go_simp
   refine hK _ _ ?_; clear hK K; try simp only [zpt]
   exact ⟨_,_,_,_,_,_,_,rfl,hBz _ BW.out,zk h1,fun a=>(h2 (by simpa using a)).out.fz hF,fun _=>hL.out.fz hF,fun a=>(h4 (by simpa using a)).out.fz hF,zk h6,fun a=>(h7 (by simpa using a)).out.fz hF,fun a=>(h8 (by simpa using a)).out.fz hF⟩
  ·obtain rfl:=h1 (hdeps 1 (by simp))
   obtain ⟨gl,rfl,hgl,hgl2,hRl⟩:=(h3 (hdeps 3 (by simp))).out.rd (k:=1) rfl (by omega)
   refine zst fun K hK=>?_
   go_simp
   refine (CSR.out v3 gr Mr _ (HG.out.below (zt W7.out BW.out) hsz) (HB.out.below PR.out BW.out) hRl).mono ?_
   rintro e u3 ⟨AX,cX,rfl,hR,hX,hF⟩
   refine hK _ _ ?_; clear hK K; try simp only [zpt]
   exact ⟨_,_,_,_,_,_,_,rfl,BW.out.trans (hX.mono hsw),zk h1,fun a=>(h2 (by simpa using a)).out.below hX,fun a=>(h3 (by simpa using a)).out.below hX,fun _=>Nw.of hR hF hsw,zk h6,fun a=>(h7 (by simpa using a)).out.below hX,fun a=>(h8 (by simpa using a)).out.below hX⟩
  ·refine zst fun K hK=>?_
   refine step_loadW rfl 46 (.tmp 3) rfl gk 0 rfl kc _ Tryz.underlying46 rfl IK.out (KB.out.below BW.out KB.out.lt).cells (hK _ _ ?_)
   clear hK K
   try simp only [zpt]
   exact ⟨_,_,_,_,_,_,_,rfl,BW,zk h1,zk h2,zk h3,zk h4,fun _=>rfl,zk h7,zk h8⟩
  ·have hX:=alloc_below v3 (.cells #[.int .u8 120] 5)
   refine zst fun K hK=>?_
   go_simp
   refine hK _ _ ?_; clear hK K; try simp only [zpt]
   exact ⟨_,_,_,_,_,_,_,rfl,BW.out.trans (hX.mono hsw),zk h1,fun a=>(h2 (by simpa using a)).out.below hX,fun a=>(h3 (by simpa using a)).out.below hX,fun a=>(h4 (by simpa using a)).out.below hX,zk h6,fun _=>Lt.new _ _ _ _ _ (by rfl) rfl hsw,fun a=>(h8 (by simpa using a)).out.below hX⟩
  ·have hL:=h7 (hdeps 7 (by simp))
   obtain ⟨u3,hcv,hF,hBz⟩:=conv_mark hL.out
   refine zst fun K hK=>?_
   go_simp
   refine hK _ _ ?_; clear hK K; try simp only [zpt]
   exact ⟨_,_,_,_,_,_,_,rfl,hBz _ BW.out,zk h1,fun a=>(h2 (by simpa using a)).out.fz hF,fun a=>(h3 (by simpa using a)).out.fz hF,fun a=>(h4 (by simpa using a)).out.fz hF,zk h6,fun a=>(h7 (by simpa using a)).out.fz hF,fun _=>hL.out.fz hF⟩
 case fin3 =>
  intro a v3 hI
  obtain ⟨x33,x34,x35,x36,x38,x39,x40,ha,BW,h1,h2,h3,h4,h6,h7,h8⟩:=hI
  simp only [zpt] at ha; subst ha
  obtain rfl:=h1 (by decide)
  obtain rfl:=h6 (by decide)
  obtain ⟨g1,rfl,_,_,_⟩:=(h3 (by decide)).out.rd (k:=1) rfl (by omega)
  obtain ⟨g0,rfl,_,_,_⟩:=(h2 (by decide)).out.rd (k:=1) rfl (by omega)
  obtain ⟨gy,rfl,_,_,_⟩:=(h7 (by decide)).out.rd (k:=1) rfl (by omega)
  obtain ⟨g2,rfl,hg2,hg2v,hR2⟩:=(h8 (by decide)).out.rd (k:=1) rfl (by omega)
  obtain ⟨A0,c0,rfl,hRA,hFA⟩:=(h4 (by decide)).out.rd LA.out
  have RA:=qh hRA
  have FA:=qh hFA
  have R2:=qh hR2
  replace W7:=qt W7 BW.out
  replace PR:=qh (HB.out.below PR.out BW.out)
  replace PI:=qh (HB.out.below PI.out BW.out)
  replace KB:=qh (KB.out.below BW.out KB.out.lt)
  have hs8:=BW.out.size
  clear h1 h2 h3 h4 h6 h7 h8 BW hRA hFA hR2 CSR
  try dsimp only
  refine zrd 9 fun K hK=>?_
  go_simp
  refine (CSI.out v3 gi Mi _ (HG.out.below W7.out hsz) (fun b hb=>by have:=MI.out b hb; omega) PI.out R2.out (fun x hx _ hm=>by injection hx with hx; subst hx; have h1:w1.heap.size<=g2/\g2 < w3.heap.size:=MI.out g2 hm; omega)).mono ?_
  rintro e w9 ⟨A1,c1,M2,rfl,hR,hP,hF,hM2,hN⟩
  rw [LT.out] at *
  have hs9:=hF.size
  have M2b:Hid (∀ b,M2 b->w.heap.size<=b/\b < w9.heap.size/\(b < v3.heap.size->Mi b)):=fun b hb=>by
   have h1:=HB.out.lt hP hb
   refine ⟨?_,h1,fun hlt=>?_⟩
   ·rcases hM2 b hb with h | h
    ·have:=MI.out b h; omega
    ·omega
   ·rcases hM2 b hb with h | h
    ·exact h
    ·omega
  have NK2:Hid (¬ M2 gk):=fun h=>NK.out ((M2b.out gk h).2.2 (by omega))
  replace W7:=qh (hF.below W7.out (fun b hb=>by have:=MI.out b hb; omega) W7.out.size)
  replace PR:=qh (HB.out.apart PR.out hF (fun b hb hm=>by have h1:=MRl.out b hb; have h2:=MI.out b hm; omega))
  replace PI:=qh hP
  replace KB:=qh (hF.blk KB.out NK.out)
  replace RA:=qh (hF.rd RA.out (fun x hx h0 hm=>by have h1:=FA.out x hx h0; have h2:=MI.out _ hm; omega))
  have RT:=qh hR
  clear hR hP hF hM2 hN FA R2 CSI NK MI
  refine hK _ _ ?_; clear hK K; try simp only [zpt]
  refine ztk 10 (.slice A0 17 c0) ?_
  try simp only [zpt]
  refine ztk 11 (.slice A1 17 c1) ?_
  try simp only [zpt]
  refine wpAny_done (by kernel_rfl) ?_ _
  go_wp2_with (first | (with_reducible refine load_law rfl 46 (.tmp 3) rfl gk 0 rfl kc _ Tryz.underlying46 rfl IK.out KB.out.cells ?_))
  refine (COR.out w9 gr _ _ _ (HG.out.below W7.out hsz) PR.out RA.out).mono ?_
  rintro e w10 ⟨A2,n2,c2,rfl,hR,hX,hF⟩
  have hs10:=hX.size
  obtain rfl:n2=1:=hR.len.symm
  have RA2:=qh hR
  have FA2:=qh hF
  replace W7:=qt W7 hX
  replace PR:=qh (HB.out.below PR.out hX)
  replace PI:=qh (HB.out.below PI.out hX)
  replace KB:=qh (KB.out.below hX KB.out.lt)
  replace RT:=qh (RT.out.below hX)
  clear hR hX hF RA COR
  go_wp2_with (first | (with_reducible refine load_law rfl 46 (.tmp 3) rfl gk 0 rfl kc _ Tryz.underlying46 rfl IK.out KB.out.cells ?_))
  refine (COI.out w10 gi _ _ _ (HG.out.below W7.out hsz) PI.out RT.out).mono ?_
  rintro e w11 ⟨A3,n3,c3,rfl,hR,hX,hF⟩
  have hs11:=hX.size
  obtain rfl:n3=1:=hR.len.symm
  have RA3:=qh hR
  have FA3:=qh hF
  replace W7:=qt W7 hX
  replace PR:=qh (HB.out.below PR.out hX)
  replace PI:=qh (HB.out.below PI.out hX)
  replace KB:=qh (KB.out.below hX KB.out.lt)
  replace RT:=qh (RT.out.below hX)
  replace RA2:=qh (RA2.out.below hX)
  clear hR hX hF COI
  go_wp2_with (first | (with_reducible refine load_law rfl 46 (.tmp 3) rfl gk 0 rfl kc _ Tryz.underlying46 rfl IK.out KB.out.cells ?_))
  refine (CO4.out w11 gi _ _ _ (HG.out.below W7.out hsz) PI.out RT.out).mono ?_
  rintro e w12 ⟨A4,n4,c4,rfl,hR,hX,hF⟩
  have hs12:=hX.size
  obtain rfl:n4=0:=hR.len.symm
  have RA4:=qh hR
  have FA4:=qh hF
  replace W7:=qt W7 hX
  replace PR:=qh (HB.out.below PR.out hX)
  replace PI:=qh (HB.out.below PI.out hX)
  replace KB:=qh (KB.out.below hX KB.out.lt)
  replace RA2:=qh (RA2.out.below hX)
  replace RA3:=qh (RA3.out.below hX)
  clear hR hX hF CO4 RT RA4 FA4
  have hcvm:=conv23
  go_upto_region 9 with (first | (with_reducible refine load_law rfl 46 (.tmp 3) rfl gk 0 rfl kc _ Tryz.underlying46 rfl IK.out KB.out.cells ?_))
  go_wp2_with (first | (with_reducible refine load_law rfl 46 (.tmp 3) rfl gk 0 rfl kc _ Tryz.underlying46 rfl IK.out KB.out.cells ?_))
  obtain ⟨gq,hgq⟩:=zx (w12.heap.size)
  obtain ⟨wm,hwm⟩:=zx (w12.alloc (.cells #[.int .u8 109] 5 (1,2)))
  have hX:Below w12.heap.size w12 wm:=by rw [hwm]; exact alloc_below _ _
  have RQ:=qh (show Rd wm (some ⟨gq,0,none⟩) 1 1 [109] by rw [hwm]; exact lit_bytesF w12 _ _ 1 _ _ (by rfl) rfl (by omega) hgq)
  replace W7:=qt W7 hX
  replace PI:=qh (HB.out.below PI.out hX)
  replace KB:=qh (KB.out.below hX KB.out.lt)
  replace RA2:=qh (RA2.out.below hX)
  replace RA3:=qh (RA3.out.below hX)
  have hsm:=hX.size
  rw [<- hgq,<- hwm]
  clear hX hwm hcvm PR
  refine (CMI.out wm gi M2 _ (HG.out.below W7.out hsz) (fun b hb=>by have:=M2b.out b hb; omega) PI.out RQ.out (fun x hx _ hm=>by injection hx with hx; subst hx; have h1:=(M2b.out gq hm).2.1; omega)).mono ?_
  rintro e w13 ⟨M3,rfl,hP,hF,hM3⟩
  have hs13:=hF.size
  have M3b:Hid (∀ b,M3 b->w.heap.size<=b/\b < w13.heap.size/\(b < wm.heap.size->M2 b)):=fun b hb=>by
   have h1:=HB.out.lt hP hb
   refine ⟨?_,h1,fun hlt=>?_⟩
   ·rcases hM3 b hb with h | h
    ·have:=M2b.out b h; omega
    ·have:=W7.out.size; omega
   ·rcases hM3 b hb with h | h
    ·exact h
    ·omega
  replace W7:=qh (hF.below W7.out (fun b hb=>(M2b.out b hb).1) W7.out.size)
  replace PI:=qh hP
  replace KB:=qh (hF.blk KB.out NK2.out)
  replace RA2:=qh (hF.rd RA2.out (fun x hx h0 hm=>by have h1:=FA2.out x hx h0; have h2:=(M2b.out _ hm).2.1; omega))
  replace RA3:=qh (hF.rd RA3.out (fun x hx h0 hm=>by have h1:=FA3.out x hx h0; have h2:=(M2b.out _ hm).2.1; omega))
  clear hP hF hM3 CMI RQ FA2 FA3 M2b NK2 hgq
  go_upto_region 10 with (first
   | ((with_reducible refine storeGen_law rfl 46 (.tmp 12) (.tmp 67) rfl w13.heap.size rfl mc rfl 46 (List.replicate 32 (.int .u8 0)) IM.out LMC.out OMC.out w13.heap.size w13 ?_ ?_ (Nat.le_refl _) ?_)
      ·exact Blk.at_new _ _ 46 _ _ (by rfl) rfl
      ·exact (Below.refl _ _).alloc (Nat.le_refl _) _
      intro w14 BLK X14))
  obtain ⟨gm,hgm⟩:=zx (w13.heap.size)
  rw [<- hgm] at BLK
  rw [<- hgm]
  have hgm6:w13.heap.size<=gm:=by omega
  clear hgm
  replace W7:=qt W7 X14.out.drew
  replace PI:=qh (HB.out.below PI.out X14.out.drew)
  replace KB:=qh (KB.out.below X14.out.drew KB.out.lt)
  replace RA2:=qh (RA2.out.below X14.out.drew)
  replace RA3:=qh (RA3.out.below X14.out.drew)
  have MB:=qh BLK.out.drew
  have NM:Hid (¬ M3 gm):=fun h=>by have:=M3b.out gm h; omega
  clear X14 BLK
  refine wp_region_any (by kernel_rfl) ?_
  change wpAny _ _ _ _ _ _ _ (World.drew _)
  generalize w14.drew=w15 at *
  refine zrd 0 fun K hK=>?_
  go_simp
  refine (begun4B_any (HG.out.below W7.out hsz)).mono ?_
  rintro e w16 ⟨rfl,hX⟩
  replace W7:=qt W7 hX
  replace PI:=qh (HB.out.below PI.out hX)
  replace KB:=qh (KB.out.below hX KB.out.lt)
  replace MB:=qh (MB.out.below hX MB.out.lt)
  replace RA2:=qh (RA2.out.below hX)
  replace RA3:=qh (RA3.out.below hX)
  clear hX
  refine hK _ _ ?_; clear hK K; try simp only [zpt]
  refine ztk 1 (.bool true) ?_
  try simp only [zpt]
  refine zrd 2 fun K hK=>?_
  go_simp
  refine (begun7B_any (HG.out.below W7.out hsz)).mono ?_
  rintro e w17 ⟨rfl,hX⟩
  replace W7:=qt W7 hX
  replace PI:=qh (HB.out.below PI.out hX)
  replace KB:=qh (KB.out.below hX KB.out.lt)
  replace MB:=qh (MB.out.below hX MB.out.lt)
  replace RA2:=qh (RA2.out.below hX)
  replace RA3:=qh (RA3.out.below hX)
  clear hX
  refine hK _ _ ?_; clear hK K; try simp only [zpt]
  have hss:=str_same [120]
  refine ztk 3 (.bool true) ?_
  try simp only [zpt]
  refine ztk 4 (.bool true) ?_
  try simp only [zpt]
  refine ztk 5 (.slice A0 17 c0) ?_
  try simp only [zpt]
  refine ztk 6 (.int .i64 17) ?_
  try simp only [zpt]
  refine ztk 7 (.bool true) ?_
  try simp only [zpt]
  refine ztk 8 (.bool true) ?_
  try simp only [zpt]
  refine ztk 9 (.bool true) ?_
  try simp only [zpt]
  refine ztk 10 (.slice A1 17 c1) ?_
  try simp only [zpt]
  refine ztk 11 (.int .i64 17) ?_
  try simp only [zpt]
  refine ztk 12 (.bool true) ?_
  try simp only [zpt]
  refine ztk 13 (.bool true) ?_
  try simp only [zpt]
  refine ztk 14 (.bool true) ?_
  try simp only [zpt]
  refine ztk 15 (.bool true) ?_
  try simp only [zpt]
  refine ztk 16 (.bool true) ?_
  try simp only [zpt]
  refine ztk 17 (.bool true) ?_
  try simp only [zpt]
  refine ztk 18 (.bool true) ?_
  try simp only [zpt]
  refine ztk 19 (.bool true) ?_
  try simp only [zpt]
  refine ztk 20 (.bool true) ?_
  try simp only [zpt]
  refine ztk 21 (.bool false) ?_
  try simp only [zpt]
  refine ztk 22 (.bool true) ?_
  try simp only [zpt]
  refine ztk 23 (.bool true) ?_
  try simp only [zpt]
  refine ztk 24 (.bool true) ?_
  try simp only [zpt]
  refine ztk 25 (.slice A2 1 c2) ?_
  try simp only [zpt]
  refine zrd 26 fun K hK=>?_
  have hcv:=conv_bytes RA2.out
  go_simp
  refine hK _ _ ?_; clear hK K; try simp only [zpt]
  clear hcv RA2
  refine ztk 27 (.bool true) ?_
  try simp only [zpt]
  refine ztk 28 (.bool true) ?_
  try simp only [zpt]
  refine ztk 29 (.bool true) ?_
  try simp only [zpt]
  refine ztk 30 (.slice A3 1 c3) ?_
  try simp only [zpt]
  refine zrd 31 fun K hK=>?_
  have hcv:=conv_bytes RA3.out
  go_simp
  refine hK _ _ ?_; clear hK K; try simp only [zpt]
  clear hcv RA3
  refine ztk 32 (.bool true) ?_
  try simp only [zpt]
  refine ztk 33 (.bool true) ?_
  try simp only [zpt]
  refine ztk 34 (.bool true) ?_
  try simp only [zpt]
  refine ztk 35 (.pointer (some ⟨gi,0,none⟩)) ?_
  try simp only [zpt]
  clear hss
  refine zph (fun i=>if i=38 then [37] else []) [36,37,38,39] (fun zT d a w'=>∃ x104 x105 x106 x107:Value,a={ tmps:=((((zT.set 104 x104).set 105 x105).set 106 x106).set 107 x107).toArray,defers:=[] }/\Hid (Below w17.heap.size w17 w')/\(d 36=true->x104 = .agg kc.toArray)/\(d 37=true->Hid (Lt w' w17.heap.size x105 [109]))/\(d 38=true->Hid (Lt w' w17.heap.size x106 [109]))/\(d 39=true->x107 = .agg mc.toArray)) 19 4 ?step50 ?init50 ?fin50
  case init50=>refine ⟨_,_,_,_,rfl,Below.refl _ _,?_,?_,?_,?_⟩ <;> (intro h; exact absurd h (by decide))
  case step50 =>
   intro i hi d a v50 hI hdi hdeps
   obtain ⟨x104,x105,x106,x107,ha,BW,h36,h37,h38,h39⟩:=hI
   simp only [zpt] at ha; subst ha
   have hsw:=BW.out.size
   simp only [List.mem_cons,List.not_mem_nil,or_false] at hi
   rcases hi with rfl | rfl | rfl | rfl
   ·refine zst fun K hK=>?_
    refine step_loadW rfl 46 (.tmp 3) rfl gk 0 rfl kc _ Tryz.underlying46 rfl IK.out (KB.out.below BW.out KB.out.lt).cells (hK _ _ ?_)
    clear hK K
    try simp only [zpt]
    exact ⟨_,_,_,_,rfl,BW,fun _=>rfl,zk h37,zk h38,zk h39⟩
   ·have hX:=alloc_below v50 (.cells #[.int .u8 109] 5)
    refine zst fun K hK=>?_
    go_simp
    refine hK _ _ ?_; clear hK K; try simp only [zpt]
    exact ⟨_,_,_,_,rfl,BW.out.trans (hX.mono hsw),zk h36,fun _=>Lt.new _ _ _ _ _ (by rfl) rfl hsw,fun a=>(h38 (by simpa using a)).out.below hX,zk h39⟩
   ·have hL:=h37 (hdeps 37 (by simp))
    obtain ⟨u50,hcv,hF,hBz⟩:=conv_mark hL.out
    refine zst fun K hK=>?_
    go_simp
    refine hK _ _ ?_; clear hK K; try simp only [zpt]
    exact ⟨_,_,_,_,rfl,hBz _ BW.out,zk h36,fun a=>(h37 (by simpa using a)).out.fz hF,fun _=>hL.out.fz hF,zk h39⟩
   ·refine zst fun K hK=>?_
    refine step_loadW rfl 46 (.tmp 12) rfl gm 0 rfl mc _ Tryz.underlying46 rfl IM.out (MB.out.below BW.out MB.out.lt).cells (hK _ _ ?_)
    clear hK K
    try simp only [zpt]
    exact ⟨_,_,_,_,rfl,BW,zk h36,zk h37,zk h38,fun _=>rfl⟩
  case fin50 =>
   intro a v50 hI
   obtain ⟨x104,x105,x106,x107,ha,BW,h36,h37,h38,h39⟩:=hI
   simp only [zpt] at ha; subst ha
   obtain rfl:=h36 (by decide)
   obtain rfl:=h39 (by decide)
   obtain ⟨g36a,rfl,_,_,_⟩:=(h37 (by decide)).out.rd (k:=1) rfl (by omega)
   obtain ⟨g36b,rfl,_,_,hR2⟩:=(h38 (by decide)).out.rd (k:=1) rfl (by omega)
   have R2:=qh hR2
   replace W7:=qt W7 BW.out
   replace PI:=qh (HB.out.below PI.out BW.out)
   replace KB:=qh (KB.out.below BW.out KB.out.lt)
   replace MB:=qh (MB.out.below BW.out MB.out.lt)
   clear h36 h37 h38 h39 BW hR2
   try dsimp only
   refine zrd 40 fun K hK=>?_
   go_simp
   refine (CIM.out v50 gi M3 _ (HG.out.below W7.out hsz) PI.out R2.out).mono ?_
   rintro e w18 ⟨rfl,hX⟩
   replace W7:=qt W7 hX
   replace PI:=qh (HB.out.below PI.out hX)
   replace KB:=qh (KB.out.below hX KB.out.lt)
   replace MB:=qh (MB.out.below hX MB.out.lt)
   clear hX R2 CIM
   refine hK _ _ ?_; clear hK K; try simp only [zpt]
   refine ztk 41 (.bool true) ?_
   try simp only [zpt]
   refine ztk 42 (.bool true) ?_
   try simp only [zpt]
   refine ztk 43 (.pointer (some ⟨gi,0,none⟩)) ?_
   try simp only [zpt]
   refine zph (fun i=>if i=46 then [45] else []) [44,45,46,47] (fun zT d a w'=>∃ x112 x113 x114 x115:Value,a={ tmps:=((((zT.set 112 x112).set 113 x113).set 114 x114).set 115 x115).toArray,defers:=[] }/\Hid (Below w18.heap.size w18 w')/\(d 44=true->x112 = .agg kc.toArray)/\(d 45=true->Hid (Lt w' w18.heap.size x113 [110]))/\(d 46=true->Hid (Lt w' w18.heap.size x114 [110]))/\(d 47=true->x115 = .agg mc.toArray)) 11 4 ?step59 ?init59 ?fin59
   case init59=>refine ⟨_,_,_,_,rfl,Below.refl _ _,?_,?_,?_,?_⟩ <;> (intro h; exact absurd h (by decide))
   case step59 =>
    intro i hi d a v59 hI hdi hdeps
    obtain ⟨x112,x113,x114,x115,ha,BW,h44,h45,h46,h47⟩:=hI
    simp only [zpt] at ha; subst ha
    have hsw:=BW.out.size
    simp only [List.mem_cons,List.not_mem_nil,or_false] at hi
    rcases hi with rfl | rfl | rfl | rfl
    ·refine zst fun K hK=>?_
     refine step_loadW rfl 46 (.tmp 3) rfl gk 0 rfl kc _ Tryz.underlying46 rfl IK.out (KB.out.below BW.out KB.out.lt).cells (hK _ _ ?_)
     clear hK K
     try simp only [zpt]
     exact ⟨_,_,_,_,rfl,BW,fun _=>rfl,zk h45,zk h46,zk h47⟩
    ·have hX:=alloc_below v59 (.cells #[.int .u8 110] 5)
     refine zst fun K hK=>?_
     go_simp
     refine hK _ _ ?_; clear hK K; try simp only [zpt]
     exact ⟨_,_,_,_,rfl,BW.out.trans (hX.mono hsw),zk h44,fun _=>Lt.new _ _ _ _ _ (by rfl) rfl hsw,fun a=>(h46 (by simpa using a)).out.below hX,zk h47⟩
    ·have hL:=h45 (hdeps 45 (by simp))
     obtain ⟨u59,hcv,hF,hBz⟩:=conv_mark hL.out
     refine zst fun K hK=>?_
     go_simp
     refine hK _ _ ?_; clear hK K; try simp only [zpt]
     exact ⟨_,_,_,_,rfl,hBz _ BW.out,zk h44,fun a=>(h45 (by simpa using a)).out.fz hF,fun _=>hL.out.fz hF,zk h47⟩
    ·refine zst fun K hK=>?_
     refine step_loadW rfl 46 (.tmp 12) rfl gm 0 rfl mc _ Tryz.underlying46 rfl IM.out (MB.out.below BW.out MB.out.lt).cells (hK _ _ ?_)
     clear hK K
     try simp only [zpt]
     exact ⟨_,_,_,_,rfl,BW,zk h44,zk h45,zk h46,fun _=>rfl⟩
   case fin59 =>
    intro a v59 hI
    obtain ⟨x112,x113,x114,x115,ha,BW,h44,h45,h46,h47⟩:=hI
    simp only [zpt] at ha; subst ha
    obtain rfl:=h44 (by decide)
    obtain rfl:=h47 (by decide)
    obtain ⟨g44a,rfl,_,_,_⟩:=(h45 (by decide)).out.rd (k:=1) rfl (by omega)
    obtain ⟨g44b,rfl,_,_,hR2⟩:=(h46 (by decide)).out.rd (k:=1) rfl (by omega)
    have R2:=qh hR2
    replace W7:=qt W7 BW.out
    replace PI:=qh (HB.out.below PI.out BW.out)
    replace KB:=qh (KB.out.below BW.out KB.out.lt)
    replace MB:=qh (MB.out.below BW.out MB.out.lt)
    clear h44 h45 h46 h47 BW hR2
    try dsimp only
    refine zrd 48 fun K hK=>?_
    go_simp
    refine (CIN.out v59 gi M3 _ (HG.out.below W7.out hsz) PI.out R2.out).mono ?_
    rintro e w19 ⟨rfl,hX⟩
    replace W7:=qt W7 hX
    replace PI:=qh (HB.out.below PI.out hX)
    replace KB:=qh (KB.out.below hX KB.out.lt)
    replace MB:=qh (MB.out.below hX MB.out.lt)
    clear hX R2 CIN
    refine hK _ _ ?_; clear hK K; try simp only [zpt]
    refine ztk 49 (.bool true) ?_
    try simp only [zpt]
    refine ztk 50 (.bool true) ?_
    try simp only [zpt]
    refine ztk 51 (.bool true) ?_
    try simp only [zpt]
    refine ztk 52 (.pointer (some ⟨gi,0,none⟩)) ?_
    try simp only [zpt]
    refine phase (fun i=>if i=54 then [53] else []) (fun d a w'=>∃ x121 x122 x123:Value,a={ tmps:=#[.bool false,.pointer (some ⟨gr,0,none⟩),.pointer (some ⟨gi,0,none⟩),.pointer (some ⟨gk,0,none⟩),.slice A0 17 c0,.slice A1 17 c1,.slice A2 1 c2,.bool true,.slice A3 1 c3,.bool true,.slice A4 0 c4,.bool false,.pointer (some ⟨gm,0,none⟩),.pointer (some ⟨gr,0,none⟩),.pointer (some ⟨t,0,none⟩),.pointer (some ⟨gi,0,none⟩),.pointer (some ⟨gr,0,none⟩),.bool false,.bool false,.pointer (some ⟨gi,0,none⟩),.bool false,.bool false,.bool false,.pointer (some ⟨t2,0,none⟩),.pointer none,.bool false,.bool false,.bool false,.pointer none,.bool false,.bool false,.agg kc.toArray,.pointer (some ⟨gr,0,none⟩),.agg kc.toArray,.slice (some ⟨g0,0,none⟩) 1 1,.slice (some ⟨g1,0,none⟩) 1 1,.slice A0 17 c0,.pointer (some ⟨gi,0,none⟩),.agg kc.toArray,.slice (some ⟨gy,0,none⟩) 1 1,.slice (some ⟨g2,0,none⟩) 1 1,.slice A1 17 c1,.tuple #[.slice A2 1 c2,.bool true],.pointer (some ⟨gr,0,none⟩),.agg kc.toArray,.slice A0 17 c0,.tuple #[.slice A2 1 c2,.bool true],.slice A2 1 c2,.bool true,.tuple #[.slice A3 1 c3,.bool true],.pointer (some ⟨gi,0,none⟩),.agg kc.toArray,.slice A1 17 c1,.tuple #[.slice A3 1 c3,.bool true],.slice A3 1 c3,.bool true,.tuple #[.slice A4 0 c4,.bool false],.pointer (some ⟨gi,0,none⟩),.agg kc.toArray,.slice A1 17 c1,.tuple #[.slice A4 0 c4,.bool false],.slice A4 0 c4,.bool false,.pointer (some ⟨gi,0,none⟩),.agg kc.toArray,.slice (some ⟨gq,0,none⟩) 1 1,.slice (some ⟨gq,0,none⟩) 1 1,.agg mc.toArray,.bool true,.bool true,.bool true,.bool true,.bool true,.slice A0 17 c0,.int .i64 17,.bool true,.bool true,.bool true,.slice A1 17 c1,.int .i64 17,.bool true,.bool true,.bool true,.bool true,.bool true,.bool true,.bool true,.bool true,.bool true,.bool false,.bool true,.bool true,.bool true,.slice A2 1 c2,.string ⟨#[120]⟩,.bool true,.bool true,.bool true,.slice A3 1 c3,.string ⟨#[120]⟩,.bool true,.bool true,.bool true,.pointer (some ⟨gi,0,none⟩),.agg kc.toArray,.slice (some ⟨g36a,0,none⟩) 1 1,.slice (some ⟨g36b,0,none⟩) 1 1,.agg mc.toArray,.bool true,.bool true,.bool true,.pointer (some ⟨gi,0,none⟩),.agg kc.toArray,.slice (some ⟨g44a,0,none⟩) 1 1,.slice (some ⟨g44b,0,none⟩) 1 1,.agg mc.toArray,.bool false,.bool true,.bool true,.bool true,.pointer (some ⟨gi,0,none⟩),x121,x122,x123,undef,undef],defers:=[] }/\Hid (Below w.heap.size w w')/\Hid (Blk w' gm 46 mc)/\(d 54=false->w'=w19)/\(d 53=false->d 54=false)/\(d 53=true->x121 = .agg kc.toArray)/\(d 54=true->x122 = .agg lc.toArray)/\(d 55=true->x123 = .agg mc.toArray)) [53,54,55] ?step69 3 3 [53,54,55] _ _ _ rfl (by decide) (fun _ h=>h) (by kernel_rfl) ?init69 ?fin69
    case init69=>refine ⟨_,_,_,rfl,W7,MB,fun _=>rfl,fun _=>by decide,?_,?_,?_⟩ <;> (intro h; exact absurd h (by decide))
    case step69 =>
     intro i hi d a v69 hI hdi hdeps
     obtain ⟨x121,x122,x123,rfl,BW,BM,hw,hd5,h53,h54,h55⟩:=hI
     simp only [List.mem_cons,List.not_mem_nil,or_false] at hi
     rcases hi with rfl | rfl | rfl
     ·have d54:=hd5 hdi
      have hwe:=hw d54
      subst hwe
      refine zst fun K hK=>?_
      refine step_loadW rfl 46 (.tmp 3) rfl gk 0 rfl kc _ Tryz.underlying46 rfl IK.out KB.out.cells (hK _ _ ?_)
      clear hK K
      try simp only [zpt]
      exact ⟨_,_,_,rfl,BW,BM,fun _=>by first | rfl | trivial,fun a=>absurd a (by simp),fun _=>rfl,zk h54,zk h55⟩
     ·obtain rfl:=h53 (hdeps 53 (by simp))
      have hwe:=hw hdi
      subst hwe
      refine zst fun K hK=>?_
      go_simp
      refine (CLI.out _ gi M3 (HG.out.below BW.out hsz) (fun b hb=>by have:=M3b.out b hb; omega) PI.out).mono ?_
      rintro e u69 ⟨rfl,hF⟩
      refine hK _ _ ?_; clear hK K; try simp only [zpt]
      exact ⟨_,_,_,rfl,hF.below BW.out (fun b hb=>(M3b.out b hb).1) BW.out.size,hF.blk BM.out NM.out,fun a=>absurd a (by simp),fun a=>absurd (hdeps 53 (by simp)) (by simpa using a),fun _=>rfl,fun _=>rfl,zk h55⟩
     ·refine zst fun K hK=>?_
      refine step_loadW rfl 46 (.tmp 12) rfl gm 0 rfl mc _ Tryz.underlying46 rfl IM.out BM.out.cells (hK _ _ ?_)
      clear hK K
      try simp only [zpt]
      exact ⟨_,_,_,rfl,BW,BM,fun a=>hw (by simpa using a),fun a=>by simpa using hd5 (by simpa using a),zk h53,zk h54,fun _=>rfl⟩
    case fin69 =>
     intro a v69 hI
     obtain ⟨x121,x122,x123,rfl,BW,BM,hw,hd5,h53,h54,h55⟩:=hI
     obtain rfl:=h53 (by decide)
     obtain rfl:=h54 (by decide)
     obtain rfl:=h55 (by decide)
     have hne:=HNE.out
     clear hw hd5 h53 h54 h55
     dsimp only
     refine ztk 56 (.bool true) ?_
     try simp only [zpt]
     refine ztk 57 (.bool true) ?_
     try simp only [zpt]
     refine ztk 58 (.bool true) ?_
     try simp only [zpt]
     refine wpAny_done (by kernel_rfl) ?_ _
     clear hne
     go_wp2_with fail
     go_ret
     exact ⟨rfl,BW.out⟩
end Go.Proofs.YtnfbkimkdnbohaaGreatDoor
