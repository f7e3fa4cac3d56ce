import Derived.Test.YtajgjeialbgijaaDoorSBk
namespace Go.Proofs.YtajgjeialbgijaaDoor
set_option linter.unusedVariables false
set_option linter.unusedSimpArgs false
set_option maxRecDepth 100000
open Go.RowKit
def key1 (x:UInt8):List UInt8:=x :: List.replicate 31 0
theorem key1_length (x:UInt8):(key1 x).length=32:=by simp [key1]
theorem tape1_0:(Sha.sum [2,0]).getD 17 0=84:=by kernel_rfl
theorem tape1_1:(Sha.sum [2,2]).getD 17 0=249:=by kernel_rfl
theorem tape1_ne:Tap.tape 1 49 32 ≠ Tap.tape 1 17 32:=by
 intro h
 have h1:(Tap.tape 1 17 32).head?=some 84:=by
  show some (Tap.byte 1 17)=some 84
  unfold Tap.byte Tap.blk
  rw [show Num.zig 1=2 from rfl,show Num.zig ((17 / 32:Nat):Int)=0 from rfl,Num.enc_lo (by omega),Num.enc_lo (by omega)]
  exact congrArg some tape1_0
 have h2:(Tap.tape 1 49 32).head?=some 249:=by
  show some (Tap.byte 1 49)=some 249
  unfold Tap.byte Tap.blk
  rw [show Num.zig 1=2 from rfl,show Num.zig ((49 / 32:Nat):Int)=2 from rfl,Num.enc_lo (by omega)]
  exact congrArg some tape1_1
 rw [<- h,h2] at h1
 exact absurd h1 (by decide)
set_option maxRecDepth 100000 in
set_option maxHeartbeats 16000000 in
theorem begun8_any {P:BxP} (hB:BoxOk P) {w:World} (hg:Gl w):Calls Tryd.prog 32 #[] w fun e w'=>e = .returned (.bool true)/\Below w.heap.size w w':=by
 have HG:=Lib.hid hg
 have HB:=Lib.hid hB
 have hsz:=hg.size
 clear hg hB
 obtain ⟨ke,hke⟩:∃ k,k=key1 7:=⟨_,rfl⟩
 have K32:Hid (ke.length=32):=by unfold Hid; rw [hke]; exact key1_length 7
 obtain ⟨kc,hkc⟩:∃ c,c=ke.map cellOf:=⟨_,rfl⟩
 have IK:Hid ((Tryd.prog.info? 27).map (·.size)=some kc.length):=by unfold Hid; rw [hkc,List.length_map,K32.out]; kernel_rfl
 have LK:Hid ((List.replicate 32 (Value.int .u8 0)).length=kc.length):=by unfold Hid; rw [hkc,List.length_map,K32.out]; rfl
 have OKC:Hid (∀ v ∈ kc,v.oneCell'=true):=by unfold Hid; rw [hkc]; exact cells_u8 _
 have BKC:Hid (Tryd.prog.built 27 [(0,.int .u8 7)]=some kc.toArray):=by unfold Hid; rw [hkc,hke]; kernel_rfl
 obtain ⟨la,hla⟩:∃ l,l=Ae.sealed ke (Bx.nonce 3) [] [120]:=⟨_,rfl⟩
 have LA:Hid (la.length=17):=by unfold Hid; rw [hla,Ae.sealed_length]; rfl
 obtain ⟨lt,hlt⟩:∃ l,l=Tap.tape 1 0 17:=⟨_,rfl⟩
 have LT:Hid (lt.length=17):=by unfold Hid; rw [hlt,Tap.tape_length]
 obtain ⟨S1,hS1⟩:∃ S,S=[Bx.SNote.mk ke 3 [] [120] lt]:=⟨_,rfl⟩
 obtain ⟨lm,hlm⟩:∃ l,l=Tap.tape 1 17 32:=⟨_,rfl⟩
 have LM:Hid (lm.length=32):=by unfold Hid; rw [hlm,Tap.tape_length]
 obtain ⟨mc,hmc⟩:∃ c,c=lm.map cellOf:=⟨_,rfl⟩
 have IM:Hid ((Tryd.prog.info? 27).map (·.size)=some mc.length):=by unfold Hid; rw [hmc,List.length_map,LM.out]; kernel_rfl
 have LMC:Hid ((List.replicate 32 (Value.int .u8 0)).length=mc.length):=by unfold Hid; rw [hmc,List.length_map,LM.out]; rfl
 have OMC:Hid (∀ v ∈ mc,v.oneCell'=true):=by unfold Hid; rw [hmc]; exact cells_u8 _
 obtain ⟨B1,hB1⟩:∃ B,B=[Bx.BNote.mk ke [109] lm]:=⟨_,rfl⟩
 obtain ⟨ll,hll⟩:∃ l,l=Tap.tape 1 49 32:=⟨_,rfl⟩
 obtain ⟨lc,hlc⟩:∃ c,c=ll.map cellOf:=⟨_,rfl⟩
 have HNE:Hid (∀ W,(Op.equalIn 10000 27 (.agg lc.toArray) (.agg mc.toArray)).run Tryd.prog W = .ok false W):=fun W=>by
  rw [hlc,hmc,equal30 ll lm (by rw [hll,Tap.tape_length]) LM.out]
  congr 1
  unfold sameB
  rw [hll,hlm]
  exact decide_eq_false tape1_ne
 have CSR:Hid (∀ (W:World) (g:Nat) (M:Nat->Prop) (A:Option Addr),Gl W->P W g .real M->Rd W A 1 1 [120]->Calls Tryd.prog 41 #[.pointer (some ⟨g,0,none⟩),.agg kc.toArray,.int .i64 3,.slice none 0 0,.slice A 1 1] W (RetSR W la)):=fun W g M A h1 h2 h3=>by
  rw [hkc,hla]
  exact HB.out.slR ke 3 h1 h2 K32.out (by omega) (by omega) (Rd.nil W none 0 (by unfold maxLen; omega)) h3 (by omega) (by omega)
 have CSI:Hid (∀ (W:World) (g:Nat) (M:Nat->Prop) (A:Option Addr),Gl W->(∀ b,M b->2<=b)->P W g (.ideal 1 0 [] [] []) M->Rd W A 1 1 [120]->Off M A 1->Calls Tryd.prog 41 #[.pointer (some ⟨g,0,none⟩),.agg kc.toArray,.int .i64 3,.slice none 0 0,.slice A 1 1] W (RetS P W g M lt (.ideal 1 17 S1 [] []))):=fun W g M A h1 h0 h2 h3 h4=>by
  rw [hkc,hS1,hlt]
  exact HB.out.slI ke 3 h1 h0 h2 (by omega) K32.out (by omega) (by omega) (Rd.nil W none 0 (by unfold maxLen; omega)) h3 (Off.none_ _ _) h4 (by omega)
 have COR:Hid (∀ (W:World) (g:Nat) (M:Nat->Prop) (A:Option Addr) (c:Nat),Gl W->P W g .real M->Rd W A 17 c la->Calls Tryd.prog 42 #[.pointer (some ⟨g,0,none⟩),.agg kc.toArray,.int .i64 3,.slice none 0 0,.slice A 17 c] W (RetP W ([120],true))):=fun W g M A c h1 h2 h3=>by
  have:=HB.out.opR ke 3 h1 h2 K32.out (by omega) (by omega) (Rd.nil W none 0 (by unfold maxLen; omega)) h3 (by omega) (by omega)
  rw [hla,opened_sealed,Ae.opens_sealed] at this
  rw [hkc]
  exact this
 have COI:Hid (∀ (W:World) (g:Nat) (M:Nat->Prop) (A:Option Addr) (c:Nat),Gl W->P W g (.ideal 1 17 S1 [] []) M->Rd W A 17 c lt->Calls Tryd.prog 42 #[.pointer (some ⟨g,0,none⟩),.agg kc.toArray,.int .i64 3,.slice none 0 0,.slice A 17 c] W (RetP W ([120],true))):=fun W g M A c h1 h2 h3=>by
  have:=HB.out.opI ke 3 h1 h2 K32.out (by omega) (by omega) (Rd.nil W none 0 (by unfold maxLen; omega)) h3 (by omega) (by omega)
  rw [show Bx.openBy ke 3 [] lt S1=([120],true) by rw [hS1]; simp [Bx.openBy,Bx.lookS]] at this
  rw [hkc]
  exact this
 have CO4:Hid (∀ (W:World) (g:Nat) (M:Nat->Prop) (A:Option Addr) (c:Nat),Gl W->P W g (.ideal 1 17 S1 [] []) M->Rd W A 17 c lt->Calls Tryd.prog 42 #[.pointer (some ⟨g,0,none⟩),.agg kc.toArray,.int .i64 4,.slice none 0 0,.slice A 17 c] W (RetP W ([],false))):=fun W g M A c h1 h2 h3=>by
  have:=HB.out.opI ke 4 h1 h2 K32.out (by omega) (by omega) (Rd.nil W none 0 (by unfold maxLen; omega)) h3 (by omega) (by omega)
  rw [show Bx.openBy ke 4 [] lt S1=([],false) by rw [hS1]; simp [Bx.openBy,Bx.lookS]] at this
  rw [hkc]
  exact this
 have CMI:Hid (∀ (W:World) (g:Nat) (M:Nat->Prop) (A:Option Addr),Gl W->(∀ b,M b->2<=b)->P W g (.ideal 1 17 S1 [] []) M->Rd W A 1 1 [109]->Off M A 1->Calls Tryd.prog 25 #[.pointer (some ⟨g,0,none⟩),.agg kc.toArray,.slice A 1 1] W fun e w'=>∃ M',e = .returned (.agg mc.toArray)/\P w' g (.ideal 1 49 S1 B1 []) M'/\Fr M W w'/\∀ b,M' b->M b ∨ W.heap.size<=b):=fun W g M A h1 h0 h2 h3 h4=>by
  have:=HB.out.mkI ke h1 h0 h2 (by omega) K32.out h3 h4 (by omega)
  rw [hkc,hmc,hB1,hlm]
  exact this
 have CIM:Hid (∀ (W:World) (g:Nat) (M:Nat->Prop) (A:Option Addr),Gl W->P W g (.ideal 1 49 S1 B1 []) M->Rd W A 1 1 [109]->Calls Tryd.prog 30 #[.pointer (some ⟨g,0,none⟩),.agg kc.toArray,.slice A 1 1,.agg mc.toArray] W fun e w'=>e = .returned (.bool true)/\Below W.heap.size W w'):=fun W g M A h1 h2 h3=>by
  have:=HB.out.isI ke lm h1 h2 K32.out LM.out h3 (by omega)
  rw [show decide (Bx.lookB ke [109] B1=some lm)=true by rw [hB1]; simp [Bx.lookB]] at this
  rw [hkc,hmc]
  exact this
 have CIN:Hid (∀ (W:World) (g:Nat) (M:Nat->Prop) (A:Option Addr),Gl W->P W g (.ideal 1 49 S1 B1 []) M->Rd W A 1 1 [110]->Calls Tryd.prog 30 #[.pointer (some ⟨g,0,none⟩),.agg kc.toArray,.slice A 1 1,.agg mc.toArray] W fun e w'=>e = .returned (.bool false)/\Below W.heap.size W w'):=fun W g M A h1 h2 h3=>by
  have:=HB.out.isI ke lm h1 h2 K32.out LM.out h3 (by omega)
  rw [show decide (Bx.lookB ke [110] B1=some lm)=false by rw [hB1]; simp [Bx.lookB]] at this
  rw [hkc,hmc]
  exact this
 have CLI:Hid (∀ (W:World) (g:Nat) (M:Nat->Prop),Gl W->(∀ b,M b->2<=b)->P W g (.ideal 1 49 S1 B1 []) M->Calls Tryd.prog 45 #[.pointer (some ⟨g,0,none⟩),.agg kc.toArray,.string ⟨#[109]⟩] W fun e w'=>e = .returned (.agg lc.toArray)/\Fr M W w'):=fun W g M h1 h0 h2=>by
  have:=HB.out.lbI ke [109] h1 h0 h2 (by omega) K32.out (by decide)
  rw [hkc,hlc,hll]
  exact this.mono fun e w' ⟨M',h1,h2,h3,h4⟩=>⟨h1,h3⟩
 clear hke hkc hla hlt hS1 hlm hmc hB1 hll hlc
 go_enter Tryd.func32,Tryd.ntmps32
 go_wp2_with fail
 refine (HB.out.newR w none).mono ?_
 rintro e w1 ⟨gr,Mr,rfl,hMr,hP,hX⟩
 have hs1:=hX.size
 have W1:=Lib.hid hX
 have PR:=Lib.hid hP
 have MRl:Hid (∀ b,Mr b->b < w1.heap.size):=fun b hb=>HB.out.lt PR.out hb
 clear hX hP hMr
 go_wp2_with fail
 refine (tnew_any 1 w1 (by omega) (by omega)).mono ?_
 rintro e w2 ⟨t,rfl,ht,hT,hX⟩
 have hs2:=hX.size
 have W2:=Lib.hid (W1.out.trans (hX.mono hs1))
 replace PR:=Lib.hid (HB.out.below PR.out hX)
 have T2:=Lib.hid hT
 clear hX hT W1
 go_wp2_with fail
 refine (HB.out.newI T2.out).mono ?_
 rintro e w3 ⟨gi,Mi,rfl,hMi,hP,hX⟩
 have hs3:=hX.size
 have W3:=Lib.hid (W2.out.trans (hX.mono W2.out.size))
 replace PR:=Lib.hid (HB.out.below PR.out hX)
 have PI:=Lib.hid hP
 have MI:Hid (∀ b,Mi b->w1.heap.size<=b/\b < w3.heap.size):=fun b hb=>⟨by rcases hMi b hb with h | h <;> omega,HB.out.lt PI.out hb⟩
 clear hX hP hMi W2 T2
 go_wp2_with fail
 refine (tnew_any 1 w3 (by omega) (by omega)).mono ?_
 rintro e w4 ⟨t2,rfl,ht2,hT,hX⟩
 have hs4:=hX.size
 have W4:=Lib.hid (W3.out.trans (hX.mono W3.out.size))
 replace PR:=Lib.hid (HB.out.below PR.out hX)
 replace PI:=Lib.hid (HB.out.below PI.out hX)
 clear hX hT W3
 go_wp2_with fail
 refine (HB.out.newO w4 2 _ (by decide) (by decide)).mono ?_
 rintro e w5 ⟨rfl,hX⟩
 have hs5:=hX.size
 have W5:=Lib.hid (W4.out.trans (hX.mono W4.out.size))
 replace PR:=Lib.hid (HB.out.below PR.out hX)
 replace PI:=Lib.hid (HB.out.below PI.out hX)
 clear hX W4
 go_wp2_with fail
 refine (HB.out.newN w5).mono ?_
 rintro e w6 ⟨rfl,hX⟩
 have hs6:=hX.size
 have W6:=Lib.hid (W5.out.trans (hX.mono W5.out.size))
 replace PR:=Lib.hid (HB.out.below PR.out hX)
 replace PI:=Lib.hid (HB.out.below PI.out hX)
 clear hX W5
 go_upto_region 4 with (fail)
 refine wp_region_lit ?_
 refine build_law rfl 27 #[(0,.const (.int .u8 7))] rfl kc (by simp only [List.map_toArray,List.map_cons,List.map_nil]; exact BKC.out) ?_
 simp only [zpt]
 go_upto_region 5 with (first
  | ((with_reducible refine storeGen_law rfl 27 (.tmp 3) (.tmp 31) rfl w6.heap.size rfl kc rfl 27 (List.replicate 32 (.int .u8 0)) IK.out LK.out OKC.out w6.heap.size w6 ?_ ?_ (Nat.le_refl _) ?_)
     ·exact Blk.at_new _ _ 27 _ _ (by rfl) rfl
     ·exact (Below.refl _ _).alloc (Nat.le_refl _) _
     intro w7 BLK X7))
 obtain ⟨gk,hgk⟩:∃ g,g=w6.heap.size:=⟨_,rfl⟩
 rw [<- hgk] at BLK
 rw [<- hgk]
 have hgk6:w6.heap.size<=gk:=by omega
 clear hgk
 have W7:=Lib.hid (W6.out.trans (X7.out.mono W6.out.size)).drew
 replace PR:=Lib.hid (HB.out.below PR.out X7.out.drew)
 replace PI:=Lib.hid (HB.out.below PI.out X7.out.drew)
 have KB:=Lib.hid BLK.out.drew
 have hs7:w6.heap.size<=w7.drew.heap.size:=X7.out.size
 have hgk7:gk < w7.drew.heap.size:=BLK.out.lt
 have NK:Hid (¬ Mi gk):=fun h=>by have:=MI.out gk h; omega
 clear X7 BLK W6
 refine wp_region_any (by kernel_rfl) ?_
 change wpAny _ _ _ _ _ _ _ (World.drew _)
 generalize w7.drew=w8 at *
 refine wpAny_take (i:=0) (oi:=?oi1) (v:=.pointer (some ⟨gr,0,none⟩)) ?hi1 (by kernel_rfl) (by kernel_rfl) (by kernel_rfl) ?hQ1 ?hy1 ?rest1
 case hi1=>simp only [zge]; rfl
 case hQ1=>exact fun _ _ _ h=>h
 case hy1=>exact Or.inl ⟨by rfl,by intro w; go_simp⟩
 try simp only [zpt]
 refine wpAny_take (i:=5) (oi:=?oi2) (v:=.pointer (some ⟨gi,0,none⟩)) ?hi2 (by kernel_rfl) (by kernel_rfl) (by kernel_rfl) ?hQ2 ?hy2 ?rest2
 case hi2=>simp only [zge]; rfl
 case hQ2=>exact fun _ _ _ h=>h
 case hy2=>exact Or.inl ⟨by rfl,by intro w; go_simp⟩
 try simp only [zpt]
 refine phaseL (fun i=>if i=3 then [2] else if i=4 then [1,3] else if i=8 then [7] else []) (fun d a w'=>∃ x33 x34 x35 x36 x38 x39 x40:Value,a={ tmps:=#[.bool false,.pointer (some ⟨gr,0,none⟩),.pointer (some ⟨gi,0,none⟩),.pointer (some ⟨gk,0,none⟩),undef,undef,undef,undef,undef,undef,undef,undef,undef,.pointer (some ⟨gr,0,none⟩),.pointer (some ⟨t,0,none⟩),.pointer (some ⟨gi,0,none⟩),.pointer (some ⟨gr,0,none⟩),.bool false,.bool false,.pointer (some ⟨gi,0,none⟩),.bool false,.bool false,.bool false,.pointer (some ⟨t2,0,none⟩),.pointer none,.bool false,.bool false,.bool false,.pointer none,.bool false,.bool false,.agg kc.toArray,.pointer (some ⟨gr,0,none⟩),x33,x34,x35,x36,.pointer (some ⟨gi,0,none⟩),x38,x39,x40,undef,undef,undef,undef,undef,undef,undef,undef,undef,undef,undef,undef,undef,undef,undef,undef,undef,undef,undef,undef,undef,undef,undef,undef,undef,undef,undef,undef,undef,undef,undef,undef,undef,undef,undef,undef,undef,undef,undef,undef,undef,undef,undef,undef,undef,undef,undef,undef,undef,undef,undef,undef,undef,undef,undef,undef,undef,undef,undef,undef,undef,undef,undef,undef,undef,undef,undef,undef,undef,undef,undef,undef,undef,undef,undef,undef,undef,undef,undef,undef,undef,undef,undef,undef,undef],defers:=[] }/\Hid (Below w8.heap.size w8 w')/\(d 1=true->x33 = .agg kc.toArray)/\(d 2=true->Hid (Lt w' w8.heap.size x34 [120]))/\(d 3=true->Hid (Lt w' w8.heap.size x35 [120]))/\(d 4=true->Hid (Nw w' w8.heap.size x36 la))/\(d 6=true->x38 = .agg kc.toArray)/\(d 7=true->Hid (Lt w' w8.heap.size x39 [120]))/\(d 8=true->Hid (Lt w' w8.heap.size x40 [120]))) [1,2,3,4,6,7,8] ?step3 3 7 [1,2,3,4,6,7,8] _ _ _ rfl (by decide) (fun _ h=>h) (Fits.of (by kernel_rfl)) ?init3 ?fin3
 case init3=>refine ⟨_,_,_,_,_,_,_,rfl,Below.refl _ _,?_,?_,?_,?_,?_,?_,?_⟩ <;> (intro h; exact absurd h (by decide))
 case step3 =>
  intro i hi d a v3 hI hdi hdeps
  obtain ⟨x33,x34,x35,x36,x38,x39,x40,rfl,BW,h1,h2,h3,h4,h6,h7,h8⟩:=hI
  have hsw:=BW.out.size
  simp only [List.mem_cons,List.not_mem_nil,or_false] at hi
  rcases hi with rfl | rfl | rfl | rfl | rfl | rfl | rfl
  ·refine wpOp_step (o:=?os4) ?hos4 (fun K hK=>?_)
   case hos4=>simp only [zge]; rfl
   refine step_loadW rfl 27 (.tmp 3) rfl gk 0 rfl kc _ Tryd.underlying27 rfl IK.out (KB.out.below BW.out KB.out.lt).cells (hK _ _ ?_)
   clear hK K
   try simp only [zpt]
   exact ⟨_,_,_,_,_,_,_,rfl,BW,fun _=>rfl,fun a=>h2 (by simpa using a),fun a=>h3 (by simpa using a),fun a=>h4 (by simpa using a),fun a=>by first | exact h6 (by simpa using a) | rfl,fun a=>h7 (by simpa using a),fun a=>h8 (by simpa using a)⟩
  ·have hX:=alloc_below v3 (.cells #[.int .u8 120] 5)
   refine wpOp_step (o:=?os5) ?hos5 (fun K hK=>?_)
   case hos5=>simp only [zge]; rfl
   go_simp
   refine hK _ _ ?_
   clear hK K
   try simp only [zpt]
   exact ⟨_,_,_,_,_,_,_,rfl,BW.out.trans (hX.mono hsw),fun a=>by first | exact h1 (by simpa using a) | rfl,fun _=>Lt.new _ _ _ _ _ (by rfl) rfl hsw,fun a=>(h3 (by simpa using a)).out.below hX,fun a=>(h4 (by simpa using a)).out.below hX,fun a=>by first | exact h6 (by simpa using a) | rfl,fun a=>(h7 (by simpa using a)).out.below hX,fun a=>(h8 (by simpa using a)).out.below hX⟩
  ·have hL:=h2 (hdeps 2 (by simp))
   obtain ⟨u3,hcv,hF,hBz⟩:=conv_mark hL.out
   refine wpOp_step (o:=?os6) ?hos6 (fun K hK=>?_)
   case hos6=>simp only [zge]; rfl
   go_simp
   refine hK _ _ ?_
   clear hK K
   try simp only [zpt]
   exact ⟨_,_,_,_,_,_,_,rfl,hBz _ BW.out,fun a=>by first | exact h1 (by simpa using a) | rfl,fun a=>(h2 (by simpa using a)).out.fz hF,fun _=>hL.out.fz hF,fun a=>(h4 (by simpa using a)).out.fz hF,fun a=>by first | exact h6 (by simpa using a) | rfl,fun a=>(h7 (by simpa using a)).out.fz hF,fun a=>(h8 (by simpa using a)).out.fz hF⟩
  ·obtain rfl:=h1 (hdeps 1 (by simp))
   obtain ⟨gl,rfl,hgl,hgl2,hRl⟩:=(h3 (hdeps 3 (by simp))).out.rd (k:=1) rfl (by omega)
   refine wpOp_step (o:=?os7) ?hos7 (fun K hK=>?_)
   case hos7=>simp only [zge]; rfl
   go_simp
   refine (CSR.out v3 gr Mr _ (HG.out.below (W7.out.trans (BW.out.mono W7.out.size)) hsz) (HB.out.below PR.out BW.out) hRl).mono ?_
   rintro e u3 ⟨AX,cX,rfl,hR,hX,hF⟩
   refine hK _ _ ?_
   clear hK K
   try simp only [zpt]
   exact ⟨_,_,_,_,_,_,_,rfl,BW.out.trans (hX.mono hsw),fun a=>by first | exact h1 (by simpa using a) | rfl,fun a=>(h2 (by simpa using a)).out.below hX,fun a=>(h3 (by simpa using a)).out.below hX,fun _=>Nw.of hR hF hsw,fun a=>by first | exact h6 (by simpa using a) | rfl,fun a=>(h7 (by simpa using a)).out.below hX,fun a=>(h8 (by simpa using a)).out.below hX⟩
  ·refine wpOp_step (o:=?os8) ?hos8 (fun K hK=>?_)
   case hos8=>simp only [zge]; rfl
   refine step_loadW rfl 27 (.tmp 3) rfl gk 0 rfl kc _ Tryd.underlying27 rfl IK.out (KB.out.below BW.out KB.out.lt).cells (hK _ _ ?_)
   clear hK K
   try simp only [zpt]
   exact ⟨_,_,_,_,_,_,_,rfl,BW,fun a=>by first | exact h1 (by simpa using a) | rfl,fun a=>h2 (by simpa using a),fun a=>h3 (by simpa using a),fun a=>h4 (by simpa using a),fun _=>rfl,fun a=>h7 (by simpa using a),fun a=>h8 (by simpa using a)⟩
  ·have hX:=alloc_below v3 (.cells #[.int .u8 120] 5)
   refine wpOp_step (o:=?os9) ?hos9 (fun K hK=>?_)
   case hos9=>simp only [zge]; rfl
   go_simp
   refine hK _ _ ?_
   clear hK K
   try simp only [zpt]
   exact ⟨_,_,_,_,_,_,_,rfl,BW.out.trans (hX.mono hsw),fun a=>by first | exact h1 (by simpa using a) | rfl,fun a=>(h2 (by simpa using a)).out.below hX,fun a=>(h3 (by simpa using a)).out.below hX,fun a=>(h4 (by simpa using a)).out.below hX,fun a=>by first | exact h6 (by simpa using a) | rfl,fun _=>Lt.new _ _ _ _ _ (by rfl) rfl hsw,fun a=>(h8 (by simpa using a)).out.below hX⟩
  ·have hL:=h7 (hdeps 7 (by simp))
   obtain ⟨u3,hcv,hF,hBz⟩:=conv_mark hL.out
   refine wpOp_step (o:=?os10) ?hos10 (fun K hK=>?_)
   case hos10=>simp only [zge]; rfl
   go_simp
   refine hK _ _ ?_
   clear hK K
   try simp only [zpt]
   exact ⟨_,_,_,_,_,_,_,rfl,hBz _ BW.out,fun a=>by first | exact h1 (by simpa using a) | rfl,fun a=>(h2 (by simpa using a)).out.fz hF,fun a=>(h3 (by simpa using a)).out.fz hF,fun a=>(h4 (by simpa using a)).out.fz hF,fun a=>by first | exact h6 (by simpa using a) | rfl,fun a=>(h7 (by simpa using a)).out.fz hF,fun _=>hL.out.fz hF⟩
 case fin3 =>
  intro a v3 hI
  obtain ⟨x33,x34,x35,x36,x38,x39,x40,rfl,BW,h1,h2,h3,h4,h6,h7,h8⟩:=hI
  obtain rfl:=h1 (by decide)
  obtain rfl:=h6 (by decide)
  obtain ⟨g1,rfl,_,_,_⟩:=(h3 (by decide)).out.rd (k:=1) rfl (by omega)
  obtain ⟨g0,rfl,_,_,_⟩:=(h2 (by decide)).out.rd (k:=1) rfl (by omega)
  obtain ⟨gy,rfl,_,_,_⟩:=(h7 (by decide)).out.rd (k:=1) rfl (by omega)
  obtain ⟨g2,rfl,hg2,hg2v,hR2⟩:=(h8 (by decide)).out.rd (k:=1) rfl (by omega)
  obtain ⟨A0,c0,rfl,hRA,hFA⟩:=(h4 (by decide)).out.rd LA.out
  have RA:=Lib.hid hRA
  have FA:=Lib.hid hFA
  have R2:=Lib.hid hR2
  replace W7:=Lib.hid (W7.out.trans (BW.out.mono W7.out.size))
  replace PR:=Lib.hid (HB.out.below PR.out BW.out)
  replace PI:=Lib.hid (HB.out.below PI.out BW.out)
  replace KB:=Lib.hid (KB.out.below BW.out KB.out.lt)
  have hs8:=BW.out.size
  clear h1 h2 h3 h4 h6 h7 h8 BW hRA hFA hR2 CSR
  try dsimp only
  refine wpAny_ready (rs:=[9]) (by kernel_rfl) (by simp) ?_
  refine AllReady.cons (o:=?p11) ?q11 (fun K hK=>?_) AllReady.nil
  case q11=>simp only [zge]; rfl
  go_simp
  refine (CSI.out v3 gi Mi _ (HG.out.below W7.out hsz) (fun b hb=>by have:=MI.out b hb; omega) PI.out R2.out (fun x hx _ hm=>by injection hx with hx; subst hx; have h1:w1.heap.size<=g2/\g2 < w3.heap.size:=MI.out g2 hm; omega)).mono ?_
  rintro e w9 ⟨A1,c1,M2,rfl,hR,hP,hF,hM2,hN⟩
  rw [LT.out] at *
  have hs9:=hF.size
  have M2b:Hid (∀ b,M2 b->w.heap.size<=b/\b < w9.heap.size/\(b < v3.heap.size->Mi b)):=fun b hb=>by
   have h1:=HB.out.lt hP hb
   refine ⟨?_,h1,fun hlt=>?_⟩
   ·rcases hM2 b hb with h | h
    ·have:=MI.out b h; omega
    ·omega
   ·rcases hM2 b hb with h | h
    ·exact h
    ·omega
  have NK2:Hid (¬ M2 gk):=fun h=>NK.out ((M2b.out gk h).2.2 (by omega))
  replace W7:=Lib.hid (hF.below W7.out (fun b hb=>by have:=MI.out b hb; omega) W7.out.size)
  replace PR:=Lib.hid (HB.out.apart PR.out hF (fun b hb hm=>by have h1:=MRl.out b hb; have h2:=MI.out b hm; omega))
  replace PI:=Lib.hid hP
  replace KB:=Lib.hid (hF.blk KB.out NK.out)
  replace RA:=Lib.hid (hF.rd RA.out (fun x hx h0 hm=>by have h1:=FA.out x hx h0; have h2:=MI.out _ hm; omega))
  have RT:=Lib.hid hR
  clear hR hP hF hM2 hN FA R2 CSI NK MI
  refine hK _ _ ?_
  clear hK K
  try simp only [zpt]
  refine wpAny_take (i:=10) (oi:=?oi12) (v:=.slice A0 17 c0) ?hi12 (by kernel_rfl) (by kernel_rfl) (by kernel_rfl) ?hQ12 ?hy12 ?rest12
  case hi12=>simp only [zge]; rfl
  case hQ12=>exact fun _ _ _ h=>h
  case hy12=>exact Or.inl ⟨by rfl,by intro w; go_simp⟩
  try simp only [zpt]
  refine wpAny_take (i:=11) (oi:=?oi13) (v:=.slice A1 17 c1) ?hi13 (by kernel_rfl) (by kernel_rfl) (by kernel_rfl) ?hQ13 ?hy13 ?rest13
  case hi13=>simp only [zge]; rfl
  case hQ13=>exact fun _ _ _ h=>h
  case hy13=>exact Or.inl ⟨by rfl,by intro w; go_simp⟩
  try simp only [zpt]
  refine wpAny_done (by kernel_rfl) ?_ _
  go_wp2_with (first | (with_reducible refine load_law rfl 27 (.tmp 3) rfl gk 0 rfl kc _ Tryd.underlying27 rfl IK.out KB.out.cells ?_))
  refine (COR.out w9 gr _ _ _ (HG.out.below W7.out hsz) PR.out RA.out).mono ?_
  rintro e w10 ⟨A2,n2,c2,rfl,hR,hX,hF⟩
  have hs10:=hX.size
  obtain rfl:n2=1:=hR.len.symm
  have RA2:=Lib.hid hR
  have FA2:=Lib.hid hF
  replace W7:=Lib.hid (W7.out.trans (hX.mono W7.out.size))
  replace PR:=Lib.hid (HB.out.below PR.out hX)
  replace PI:=Lib.hid (HB.out.below PI.out hX)
  replace KB:=Lib.hid (KB.out.below hX KB.out.lt)
  replace RT:=Lib.hid (RT.out.below hX)
  clear hR hX hF RA COR
  go_wp2_with (first | (with_reducible refine load_law rfl 27 (.tmp 3) rfl gk 0 rfl kc _ Tryd.underlying27 rfl IK.out KB.out.cells ?_))
  refine (COI.out w10 gi _ _ _ (HG.out.below W7.out hsz) PI.out RT.out).mono ?_
  rintro e w11 ⟨A3,n3,c3,rfl,hR,hX,hF⟩
  have hs11:=hX.size
  obtain rfl:n3=1:=hR.len.symm
  have RA3:=Lib.hid hR
  have FA3:=Lib.hid hF
  replace W7:=Lib.hid (W7.out.trans (hX.mono W7.out.size))
  replace PR:=Lib.hid (HB.out.below PR.out hX)
  replace PI:=Lib.hid (HB.out.below PI.out hX)
  replace KB:=Lib.hid (KB.out.below hX KB.out.lt)
  replace RT:=Lib.hid (RT.out.below hX)
  replace RA2:=Lib.hid (RA2.out.below hX)
  clear hR hX hF COI
  go_wp2_with (first | (with_reducible refine load_law rfl 27 (.tmp 3) rfl gk 0 rfl kc _ Tryd.underlying27 rfl IK.out KB.out.cells ?_))
  refine (CO4.out w11 gi _ _ _ (HG.out.below W7.out hsz) PI.out RT.out).mono ?_
  rintro e w12 ⟨A4,n4,c4,rfl,hR,hX,hF⟩
  have hs12:=hX.size
  obtain rfl:n4=0:=hR.len.symm
  have RA4:=Lib.hid hR
  have FA4:=Lib.hid hF
  replace W7:=Lib.hid (W7.out.trans (hX.mono W7.out.size))
  replace PR:=Lib.hid (HB.out.below PR.out hX)
  replace PI:=Lib.hid (HB.out.below PI.out hX)
  replace KB:=Lib.hid (KB.out.below hX KB.out.lt)
  replace RA2:=Lib.hid (RA2.out.below hX)
  replace RA3:=Lib.hid (RA3.out.below hX)
  clear hR hX hF CO4 RT RA4 FA4
  have hcvm:=conv23
  go_upto_region 9 with (first | (with_reducible refine load_law rfl 27 (.tmp 3) rfl gk 0 rfl kc _ Tryd.underlying27 rfl IK.out KB.out.cells ?_))
  go_wp2_with (first | (with_reducible refine load_law rfl 27 (.tmp 3) rfl gk 0 rfl kc _ Tryd.underlying27 rfl IK.out KB.out.cells ?_))
  obtain ⟨gq,hgq⟩:∃ g,g=w12.heap.size:=⟨_,rfl⟩
  obtain ⟨wm,hwm⟩:∃ x,x=w12.alloc (.cells #[.int .u8 109] 5 (1,2)):=⟨_,rfl⟩
  have hX:Below w12.heap.size w12 wm:=by rw [hwm]; exact alloc_below _ _
  have RQ:=Lib.hid (show Rd wm (some ⟨gq,0,none⟩) 1 1 [109] by rw [hwm]; exact lit_bytesF w12 _ _ 1 _ _ (by rfl) rfl (by omega) hgq)
  replace W7:=Lib.hid (W7.out.trans (hX.mono W7.out.size))
  replace PI:=Lib.hid (HB.out.below PI.out hX)
  replace KB:=Lib.hid (KB.out.below hX KB.out.lt)
  replace RA2:=Lib.hid (RA2.out.below hX)
  replace RA3:=Lib.hid (RA3.out.below hX)
  have hsm:=hX.size
  rw [<- hgq,<- hwm]
  clear hX hwm hcvm PR
  refine (CMI.out wm gi M2 _ (HG.out.below W7.out hsz) (fun b hb=>by have:=M2b.out b hb; omega) PI.out RQ.out (fun x hx _ hm=>by injection hx with hx; subst hx; have h1:=(M2b.out gq hm).2.1; omega)).mono ?_
  rintro e w13 ⟨M3,rfl,hP,hF,hM3⟩
  have hs13:=hF.size
  have M3b:Hid (∀ b,M3 b->w.heap.size<=b/\b < w13.heap.size/\(b < wm.heap.size->M2 b)):=fun b hb=>by
   have h1:=HB.out.lt hP hb
   refine ⟨?_,h1,fun hlt=>?_⟩
   ·rcases hM3 b hb with h | h
    ·have:=M2b.out b h; omega
    ·have:=W7.out.size; omega
   ·rcases hM3 b hb with h | h
    ·exact h
    ·omega
  replace W7:=Lib.hid (hF.below W7.out (fun b hb=>(M2b.out b hb).1) W7.out.size)
  replace PI:=Lib.hid hP
  replace KB:=Lib.hid (hF.blk KB.out NK2.out)
  replace RA2:=Lib.hid (hF.rd RA2.out (fun x hx h0 hm=>by have h1:=FA2.out x hx h0; have h2:=(M2b.out _ hm).2.1; omega))
  replace RA3:=Lib.hid (hF.rd RA3.out (fun x hx h0 hm=>by have h1:=FA3.out x hx h0; have h2:=(M2b.out _ hm).2.1; omega))
  clear hP hF hM3 CMI RQ FA2 FA3 M2b NK2 hgq
  go_upto_region 10 with (first
   | ((with_reducible refine storeGen_law rfl 27 (.tmp 12) (.tmp 67) rfl w13.heap.size rfl mc rfl 27 (List.replicate 32 (.int .u8 0)) IM.out LMC.out OMC.out w13.heap.size w13 ?_ ?_ (Nat.le_refl _) ?_)
      ·exact Blk.at_new _ _ 27 _ _ (by rfl) rfl
      ·exact (Below.refl _ _).alloc (Nat.le_refl _) _
      intro w14 BLK X14))
  obtain ⟨gm,hgm⟩:∃ g,g=w13.heap.size:=⟨_,rfl⟩
  rw [<- hgm] at BLK
  rw [<- hgm]
  have hgm6:w13.heap.size<=gm:=by omega
  clear hgm
  replace W7:=Lib.hid (W7.out.trans (X14.out.mono W7.out.size)).drew
  replace PI:=Lib.hid (HB.out.below PI.out X14.out.drew)
  replace KB:=Lib.hid (KB.out.below X14.out.drew KB.out.lt)
  replace RA2:=Lib.hid (RA2.out.below X14.out.drew)
  replace RA3:=Lib.hid (RA3.out.below X14.out.drew)
  have MB:=Lib.hid BLK.out.drew
  have NM:Hid (¬ M3 gm):=fun h=>by have:=M3b.out gm h; omega
  clear X14 BLK
  refine wp_region_any (by kernel_rfl) ?_
  change wpAny _ _ _ _ _ _ _ (World.drew _)
  generalize w14.drew=w15 at *
  refine wpAny_ready (rs:=[0]) (by kernel_rfl) (by simp) ?_
  refine AllReady.cons (o:=?p14) ?q14 (fun K hK=>?_) AllReady.nil
  case q14=>simp only [zge]; rfl
  go_simp
  refine (begun4B_any (HG.out.below W7.out hsz)).mono ?_
  rintro e w16 ⟨rfl,hX⟩
  replace W7:=Lib.hid (W7.out.trans (hX.mono W7.out.size))
  replace PI:=Lib.hid (HB.out.below PI.out hX)
  replace KB:=Lib.hid (KB.out.below hX KB.out.lt)
  replace MB:=Lib.hid (MB.out.below hX MB.out.lt)
  replace RA2:=Lib.hid (RA2.out.below hX)
  replace RA3:=Lib.hid (RA3.out.below hX)
  clear hX
  refine hK _ _ ?_
  clear hK K
  try simp only [zpt]
  refine wpAny_take (i:=1) (oi:=?oi15) (v:=.bool true) ?hi15 (by kernel_rfl) (by kernel_rfl) (by kernel_rfl) ?hQ15 ?hy15 ?rest15
  case hi15=>simp only [zge]; rfl
  case hQ15=>exact fun _ _ _ h=>h
  case hy15=>exact Or.inl ⟨by rfl,by intro w; go_simp⟩
  try simp only [zpt]
  refine wpAny_ready (rs:=[2]) (by kernel_rfl) (by simp) ?_
  refine AllReady.cons (o:=?p16) ?q16 (fun K hK=>?_) AllReady.nil
  case q16=>simp only [zge]; rfl
  go_simp
  refine (begun7B_any (HG.out.below W7.out hsz)).mono ?_
  rintro e w17 ⟨rfl,hX⟩
  replace W7:=Lib.hid (W7.out.trans (hX.mono W7.out.size))
  replace PI:=Lib.hid (HB.out.below PI.out hX)
  replace KB:=Lib.hid (KB.out.below hX KB.out.lt)
  replace MB:=Lib.hid (MB.out.below hX MB.out.lt)
  replace RA2:=Lib.hid (RA2.out.below hX)
  replace RA3:=Lib.hid (RA3.out.below hX)
  clear hX
  refine hK _ _ ?_
  clear hK K
  try simp only [zpt]
  have hss:=str_same [120]
  refine wpAny_take (i:=3) (oi:=?oi17) (v:=.bool true) ?hi17 (by kernel_rfl) (by kernel_rfl) (by kernel_rfl) ?hQ17 ?hy17 ?rest17
  case hi17=>simp only [zge]; rfl
  case hQ17=>exact fun _ _ _ h=>h
  case hy17=>exact Or.inl ⟨by rfl,by intro w; go_simp⟩
  try simp only [zpt]
  refine wpAny_take (i:=4) (oi:=?oi18) (v:=.bool true) ?hi18 (by kernel_rfl) (by kernel_rfl) (by kernel_rfl) ?hQ18 ?hy18 ?rest18
  case hi18=>simp only [zge]; rfl
  case hQ18=>exact fun _ _ _ h=>h
  case hy18=>exact Or.inl ⟨by rfl,by intro w; go_simp⟩
  try simp only [zpt]
  refine wpAny_take (i:=5) (oi:=?oi19) (v:=.slice A0 17 c0) ?hi19 (by kernel_rfl) (by kernel_rfl) (by kernel_rfl) ?hQ19 ?hy19 ?rest19
  case hi19=>simp only [zge]; rfl
  case hQ19=>exact fun _ _ _ h=>h
  case hy19=>exact Or.inl ⟨by rfl,by intro w; go_simp⟩
  try simp only [zpt]
  refine wpAny_take (i:=6) (oi:=?oi20) (v:=.int .i64 17) ?hi20 (by kernel_rfl) (by kernel_rfl) (by kernel_rfl) ?hQ20 ?hy20 ?rest20
  case hi20=>simp only [zge]; rfl
  case hQ20=>exact fun _ _ _ h=>h
  case hy20=>exact Or.inl ⟨by rfl,by intro w; go_simp⟩
  try simp only [zpt]
  refine wpAny_take (i:=7) (oi:=?oi21) (v:=.bool true) ?hi21 (by kernel_rfl) (by kernel_rfl) (by kernel_rfl) ?hQ21 ?hy21 ?rest21
  case hi21=>simp only [zge]; rfl
  case hQ21=>exact fun _ _ _ h=>h
  case hy21=>exact Or.inl ⟨by rfl,by intro w; go_simp⟩
  try simp only [zpt]
  refine wpAny_take (i:=8) (oi:=?oi22) (v:=.bool true) ?hi22 (by kernel_rfl) (by kernel_rfl) (by kernel_rfl) ?hQ22 ?hy22 ?rest22
  case hi22=>simp only [zge]; rfl
  case hQ22=>exact fun _ _ _ h=>h
  case hy22=>exact Or.inl ⟨by rfl,by intro w; go_simp⟩
  try simp only [zpt]
  refine wpAny_take (i:=9) (oi:=?oi23) (v:=.bool true) ?hi23 (by kernel_rfl) (by kernel_rfl) (by kernel_rfl) ?hQ23 ?hy23 ?rest23
  case hi23=>simp only [zge]; rfl
  case hQ23=>exact fun _ _ _ h=>h
  case hy23=>exact Or.inl ⟨by rfl,by intro w; go_simp⟩
  try simp only [zpt]
  refine wpAny_take (i:=10) (oi:=?oi24) (v:=.slice A1 17 c1) ?hi24 (by kernel_rfl) (by kernel_rfl) (by kernel_rfl) ?hQ24 ?hy24 ?rest24
  case hi24=>simp only [zge]; rfl
  case hQ24=>exact fun _ _ _ h=>h
  case hy24=>exact Or.inl ⟨by rfl,by intro w; go_simp⟩
  try simp only [zpt]
  refine wpAny_take (i:=11) (oi:=?oi25) (v:=.int .i64 17) ?hi25 (by kernel_rfl) (by kernel_rfl) (by kernel_rfl) ?hQ25 ?hy25 ?rest25
  case hi25=>simp only [zge]; rfl
  case hQ25=>exact fun _ _ _ h=>h
  case hy25=>exact Or.inl ⟨by rfl,by intro w; go_simp⟩
  try simp only [zpt]
  refine wpAny_take (i:=12) (oi:=?oi26) (v:=.bool true) ?hi26 (by kernel_rfl) (by kernel_rfl) (by kernel_rfl) ?hQ26 ?hy26 ?rest26
  case hi26=>simp only [zge]; rfl
  case hQ26=>exact fun _ _ _ h=>h
  case hy26=>exact Or.inl ⟨by rfl,by intro w; go_simp⟩
  try simp only [zpt]
  refine wpAny_take (i:=13) (oi:=?oi27) (v:=.bool true) ?hi27 (by kernel_rfl) (by kernel_rfl) (by kernel_rfl) ?hQ27 ?hy27 ?rest27
  case hi27=>simp only [zge]; rfl
  case hQ27=>exact fun _ _ _ h=>h
  case hy27=>exact Or.inl ⟨by rfl,by intro w; go_simp⟩
  try simp only [zpt]
  refine wpAny_take (i:=14) (oi:=?oi28) (v:=.bool true) ?hi28 (by kernel_rfl) (by kernel_rfl) (by kernel_rfl) ?hQ28 ?hy28 ?rest28
  case hi28=>simp only [zge]; rfl
  case hQ28=>exact fun _ _ _ h=>h
  case hy28=>exact Or.inl ⟨by rfl,by intro w; go_simp⟩
  try simp only [zpt]
  refine wpAny_take (i:=15) (oi:=?oi29) (v:=.bool true) ?hi29 (by kernel_rfl) (by kernel_rfl) (by kernel_rfl) ?hQ29 ?hy29 ?rest29
  case hi29=>simp only [zge]; rfl
  case hQ29=>exact fun _ _ _ h=>h
  case hy29=>exact Or.inl ⟨by rfl,by intro w; go_simp⟩
  try simp only [zpt]
  refine wpAny_take (i:=16) (oi:=?oi30) (v:=.bool true) ?hi30 (by kernel_rfl) (by kernel_rfl) (by kernel_rfl) ?hQ30 ?hy30 ?rest30
  case hi30=>simp only [zge]; rfl
  case hQ30=>exact fun _ _ _ h=>h
  case hy30=>exact Or.inl ⟨by rfl,by intro w; go_simp⟩
  try simp only [zpt]
  refine wpAny_take (i:=17) (oi:=?oi31) (v:=.bool true) ?hi31 (by kernel_rfl) (by kernel_rfl) (by kernel_rfl) ?hQ31 ?hy31 ?rest31
  case hi31=>simp only [zge]; rfl
  case hQ31=>exact fun _ _ _ h=>h
  case hy31=>exact Or.inl ⟨by rfl,by intro w; go_simp⟩
  try simp only [zpt]
  refine wpAny_take (i:=18) (oi:=?oi32) (v:=.bool true) ?hi32 (by kernel_rfl) (by kernel_rfl) (by kernel_rfl) ?hQ32 ?hy32 ?rest32
  case hi32=>simp only [zge]; rfl
  case hQ32=>exact fun _ _ _ h=>h
  case hy32=>exact Or.inl ⟨by rfl,by intro w; go_simp⟩
  try simp only [zpt]
  refine wpAny_take (i:=19) (oi:=?oi33) (v:=.bool true) ?hi33 (by kernel_rfl) (by kernel_rfl) (by kernel_rfl) ?hQ33 ?hy33 ?rest33
  case hi33=>simp only [zge]; rfl
  case hQ33=>exact fun _ _ _ h=>h
  case hy33=>exact Or.inl ⟨by rfl,by intro w; go_simp⟩
  try simp only [zpt]
  refine wpAny_take (i:=20) (oi:=?oi34) (v:=.bool true) ?hi34 (by kernel_rfl) (by kernel_rfl) (by kernel_rfl) ?hQ34 ?hy34 ?rest34
  case hi34=>simp only [zge]; rfl
  case hQ34=>exact fun _ _ _ h=>h
  case hy34=>exact Or.inl ⟨by rfl,by intro w; go_simp⟩
  try simp only [zpt]
  refine wpAny_take (i:=21) (oi:=?oi35) (v:=.bool false) ?hi35 (by kernel_rfl) (by kernel_rfl) (by kernel_rfl) ?hQ35 ?hy35 ?rest35
  case hi35=>simp only [zge]; rfl
  case hQ35=>exact fun _ _ _ h=>h
  case hy35=>exact Or.inl ⟨by rfl,by intro w; go_simp⟩
  try simp only [zpt]
  refine wpAny_take (i:=22) (oi:=?oi36) (v:=.bool true) ?hi36 (by kernel_rfl) (by kernel_rfl) (by kernel_rfl) ?hQ36 ?hy36 ?rest36
  case hi36=>simp only [zge]; rfl
  case hQ36=>exact fun _ _ _ h=>h
  case hy36=>exact Or.inl ⟨by rfl,by intro w; go_simp⟩
  try simp only [zpt]
  refine wpAny_take (i:=23) (oi:=?oi37) (v:=.bool true) ?hi37 (by kernel_rfl) (by kernel_rfl) (by kernel_rfl) ?hQ37 ?hy37 ?rest37
  case hi37=>simp only [zge]; rfl
  case hQ37=>exact fun _ _ _ h=>h
  case hy37=>exact Or.inl ⟨by rfl,by intro w; go_simp⟩
  try simp only [zpt]
  refine wpAny_take (i:=24) (oi:=?oi38) (v:=.bool true) ?hi38 (by kernel_rfl) (by kernel_rfl) (by kernel_rfl) ?hQ38 ?hy38 ?rest38
  case hi38=>simp only [zge]; rfl
  case hQ38=>exact fun _ _ _ h=>h
  case hy38=>exact Or.inl ⟨by rfl,by intro w; go_simp⟩
  try simp only [zpt]
  refine wpAny_take (i:=25) (oi:=?oi39) (v:=.slice A2 1 c2) ?hi39 (by kernel_rfl) (by kernel_rfl) (by kernel_rfl) ?hQ39 ?hy39 ?rest39
  case hi39=>simp only [zge]; rfl
  case hQ39=>exact fun _ _ _ h=>h
  case hy39=>exact Or.inl ⟨by rfl,by intro w; go_simp⟩
  try simp only [zpt]
  refine wpAny_ready (rs:=[26]) (by kernel_rfl) (by simp) ?_
  refine AllReady.cons (o:=?p40) ?q40 (fun K hK=>?_) AllReady.nil
  case q40=>simp only [zge]; rfl
  have hcv:=conv_bytes RA2.out
  go_simp
  refine hK _ _ ?_
  clear hK K
  try simp only [zpt]
  clear hcv RA2
  refine wpAny_take (i:=27) (oi:=?oi41) (v:=.bool true) ?hi41 (by kernel_rfl) (by kernel_rfl) (by kernel_rfl) ?hQ41 ?hy41 ?rest41
  case hi41=>simp only [zge]; rfl
  case hQ41=>exact fun _ _ _ h=>h
  case hy41=>exact Or.inl ⟨by rfl,by intro w; go_simp⟩
  try simp only [zpt]
  refine wpAny_take (i:=28) (oi:=?oi42) (v:=.bool true) ?hi42 (by kernel_rfl) (by kernel_rfl) (by kernel_rfl) ?hQ42 ?hy42 ?rest42
  case hi42=>simp only [zge]; rfl
  case hQ42=>exact fun _ _ _ h=>h
  case hy42=>exact Or.inl ⟨by rfl,by intro w; go_simp⟩
  try simp only [zpt]
  refine wpAny_take (i:=29) (oi:=?oi43) (v:=.bool true) ?hi43 (by kernel_rfl) (by kernel_rfl) (by kernel_rfl) ?hQ43 ?hy43 ?rest43
  case hi43=>simp only [zge]; rfl
  case hQ43=>exact fun _ _ _ h=>h
  case hy43=>exact Or.inl ⟨by rfl,by intro w; go_simp⟩
  try simp only [zpt]
  refine wpAny_take (i:=30) (oi:=?oi44) (v:=.slice A3 1 c3) ?hi44 (by kernel_rfl) (by kernel_rfl) (by kernel_rfl) ?hQ44 ?hy44 ?rest44
  case hi44=>simp only [zge]; rfl
  case hQ44=>exact fun _ _ _ h=>h
  case hy44=>exact Or.inl ⟨by rfl,by intro w; go_simp⟩
  try simp only [zpt]
  refine wpAny_ready (rs:=[31]) (by kernel_rfl) (by simp) ?_
  refine AllReady.cons (o:=?p45) ?q45 (fun K hK=>?_) AllReady.nil
  case q45=>simp only [zge]; rfl
  have hcv:=conv_bytes RA3.out
  go_simp
  refine hK _ _ ?_
  clear hK K
  try simp only [zpt]
  clear hcv RA3
  refine wpAny_take (i:=32) (oi:=?oi46) (v:=.bool true) ?hi46 (by kernel_rfl) (by kernel_rfl) (by kernel_rfl) ?hQ46 ?hy46 ?rest46
  case hi46=>simp only [zge]; rfl
  case hQ46=>exact fun _ _ _ h=>h
  case hy46=>exact Or.inl ⟨by rfl,by intro w; go_simp⟩
  try simp only [zpt]
  refine wpAny_take (i:=33) (oi:=?oi47) (v:=.bool true) ?hi47 (by kernel_rfl) (by kernel_rfl) (by kernel_rfl) ?hQ47 ?hy47 ?rest47
  case hi47=>simp only [zge]; rfl
  case hQ47=>exact fun _ _ _ h=>h
  case hy47=>exact Or.inl ⟨by rfl,by intro w; go_simp⟩
  try simp only [zpt]
  refine wpAny_take (i:=34) (oi:=?oi48) (v:=.bool true) ?hi48 (by kernel_rfl) (by kernel_rfl) (by kernel_rfl) ?hQ48 ?hy48 ?rest48
  case hi48=>simp only [zge]; rfl
  case hQ48=>exact fun _ _ _ h=>h
  case hy48=>exact Or.inl ⟨by rfl,by intro w; go_simp⟩
  try simp only [zpt]
  refine wpAny_take (i:=35) (oi:=?oi49) (v:=.pointer (some ⟨gi,0,none⟩)) ?hi49 (by kernel_rfl) (by kernel_rfl) (by kernel_rfl) ?hQ49 ?hy49 ?rest49
  case hi49=>simp only [zge]; rfl
  case hQ49=>exact fun _ _ _ h=>h
  case hy49=>exact Or.inl ⟨by rfl,by intro w; go_simp⟩
  try simp only [zpt]
  clear hss
  refine phaseL (fun i=>if i=38 then [37] else []) (fun d a w'=>∃ x104 x105 x106 x107:Value,a={ tmps:=#[.bool false,.pointer (some ⟨gr,0,none⟩),.pointer (some ⟨gi,0,none⟩),.pointer (some ⟨gk,0,none⟩),.slice A0 17 c0,.slice A1 17 c1,.slice A2 1 c2,.bool true,.slice A3 1 c3,.bool true,.slice A4 0 c4,.bool false,.pointer (some ⟨gm,0,none⟩),.pointer (some ⟨gr,0,none⟩),.pointer (some ⟨t,0,none⟩),.pointer (some ⟨gi,0,none⟩),.pointer (some ⟨gr,0,none⟩),.bool false,.bool false,.pointer (some ⟨gi,0,none⟩),.bool false,.bool false,.bool false,.pointer (some ⟨t2,0,none⟩),.pointer none,.bool false,.bool false,.bool false,.pointer none,.bool false,.bool false,.agg kc.toArray,.pointer (some ⟨gr,0,none⟩),.agg kc.toArray,.slice (some ⟨g0,0,none⟩) 1 1,.slice (some ⟨g1,0,none⟩) 1 1,.slice A0 17 c0,.pointer (some ⟨gi,0,none⟩),.agg kc.toArray,.slice (some ⟨gy,0,none⟩) 1 1,.slice (some ⟨g2,0,none⟩) 1 1,.slice A1 17 c1,.tuple #[.slice A2 1 c2,.bool true],.pointer (some ⟨gr,0,none⟩),.agg kc.toArray,.slice A0 17 c0,.tuple #[.slice A2 1 c2,.bool true],.slice A2 1 c2,.bool true,.tuple #[.slice A3 1 c3,.bool true],.pointer (some ⟨gi,0,none⟩),.agg kc.toArray,.slice A1 17 c1,.tuple #[.slice A3 1 c3,.bool true],.slice A3 1 c3,.bool true,.tuple #[.slice A4 0 c4,.bool false],.pointer (some ⟨gi,0,none⟩),.agg kc.toArray,.slice A1 17 c1,.tuple #[.slice A4 0 c4,.bool false],.slice A4 0 c4,.bool false,.pointer (some ⟨gi,0,none⟩),.agg kc.toArray,.slice (some ⟨gq,0,none⟩) 1 1,.slice (some ⟨gq,0,none⟩) 1 1,.agg mc.toArray,.bool true,.bool true,.bool true,.bool true,.bool true,.slice A0 17 c0,.int .i64 17,.bool true,.bool true,.bool true,.slice A1 17 c1,.int .i64 17,.bool true,.bool true,.bool true,.bool true,.bool true,.bool true,.bool true,.bool true,.bool true,.bool false,.bool true,.bool true,.bool true,.slice A2 1 c2,.string ⟨#[120]⟩,.bool true,.bool true,.bool true,.slice A3 1 c3,.string ⟨#[120]⟩,.bool true,.bool true,.bool true,.pointer (some ⟨gi,0,none⟩),x104,x105,x106,x107,undef,undef,undef,undef,undef,undef,undef,undef,undef,undef,undef,undef,undef,undef,undef,undef,undef,undef],defers:=[] }/\Hid (Below w17.heap.size w17 w')/\(d 36=true->x104 = .agg kc.toArray)/\(d 37=true->Hid (Lt w' w17.heap.size x105 [109]))/\(d 38=true->Hid (Lt w' w17.heap.size x106 [109]))/\(d 39=true->x107 = .agg mc.toArray)) [36,37,38,39] ?step50 19 4 [36,37,38,39] _ _ _ rfl (by decide) (fun _ h=>h) (Fits.of (by kernel_rfl)) ?init50 ?fin50
  case init50=>refine ⟨_,_,_,_,rfl,Below.refl _ _,?_,?_,?_,?_⟩ <;> (intro h; exact absurd h (by decide))
  case step50 =>
   intro i hi d a v50 hI hdi hdeps
   obtain ⟨x104,x105,x106,x107,rfl,BW,h36,h37,h38,h39⟩:=hI
   have hsw:=BW.out.size
   simp only [List.mem_cons,List.not_mem_nil,or_false] at hi
   rcases hi with rfl | rfl | rfl | rfl
   ·refine wpOp_step (o:=?os51) ?hos51 (fun K hK=>?_)
    case hos51=>simp only [zge]; rfl
    refine step_loadW rfl 27 (.tmp 3) rfl gk 0 rfl kc _ Tryd.underlying27 rfl IK.out (KB.out.below BW.out KB.out.lt).cells (hK _ _ ?_)
    clear hK K
    try simp only [zpt]
    exact ⟨_,_,_,_,rfl,BW,fun _=>rfl,fun a=>h37 (by simpa using a),fun a=>h38 (by simpa using a),fun a=>by first | exact h39 (by simpa using a) | rfl⟩
   ·have hX:=alloc_below v50 (.cells #[.int .u8 109] 5)
    refine wpOp_step (o:=?os52) ?hos52 (fun K hK=>?_)
    case hos52=>simp only [zge]; rfl
    go_simp
    refine hK _ _ ?_
    clear hK K
    try simp only [zpt]
    exact ⟨_,_,_,_,rfl,BW.out.trans (hX.mono hsw),fun a=>by first | exact h36 (by simpa using a) | rfl,fun _=>Lt.new _ _ _ _ _ (by rfl) rfl hsw,fun a=>(h38 (by simpa using a)).out.below hX,fun a=>by first | exact h39 (by simpa using a) | rfl⟩
   ·have hL:=h37 (hdeps 37 (by simp))
    obtain ⟨u50,hcv,hF,hBz⟩:=conv_mark hL.out
    refine wpOp_step (o:=?os53) ?hos53 (fun K hK=>?_)
    case hos53=>simp only [zge]; rfl
    go_simp
    refine hK _ _ ?_
    clear hK K
    try simp only [zpt]
    exact ⟨_,_,_,_,rfl,hBz _ BW.out,fun a=>by first | exact h36 (by simpa using a) | rfl,fun a=>(h37 (by simpa using a)).out.fz hF,fun _=>hL.out.fz hF,fun a=>by first | exact h39 (by simpa using a) | rfl⟩
   ·refine wpOp_step (o:=?os54) ?hos54 (fun K hK=>?_)
    case hos54=>simp only [zge]; rfl
    refine step_loadW rfl 27 (.tmp 12) rfl gm 0 rfl mc _ Tryd.underlying27 rfl IM.out (MB.out.below BW.out MB.out.lt).cells (hK _ _ ?_)
    clear hK K
    try simp only [zpt]
    exact ⟨_,_,_,_,rfl,BW,fun a=>by first | exact h36 (by simpa using a) | rfl,fun a=>h37 (by simpa using a),fun a=>h38 (by simpa using a),fun _=>rfl⟩
  case fin50 =>
   intro a v50 hI
   obtain ⟨x104,x105,x106,x107,rfl,BW,h36,h37,h38,h39⟩:=hI
   obtain rfl:=h36 (by decide)
   obtain rfl:=h39 (by decide)
   obtain ⟨g36a,rfl,_,_,_⟩:=(h37 (by decide)).out.rd (k:=1) rfl (by omega)
   obtain ⟨g36b,rfl,_,_,hR2⟩:=(h38 (by decide)).out.rd (k:=1) rfl (by omega)
   have R2:=Lib.hid hR2
   replace W7:=Lib.hid (W7.out.trans (BW.out.mono W7.out.size))
   replace PI:=Lib.hid (HB.out.below PI.out BW.out)
   replace KB:=Lib.hid (KB.out.below BW.out KB.out.lt)
   replace MB:=Lib.hid (MB.out.below BW.out MB.out.lt)
   clear h36 h37 h38 h39 BW hR2
   try dsimp only
   refine wpAny_ready (rs:=[40]) (by kernel_rfl) (by simp) ?_
   refine AllReady.cons (o:=?p55) ?q55 (fun K hK=>?_) AllReady.nil
   case q55=>simp only [zge]; rfl
   go_simp
   refine (CIM.out v50 gi M3 _ (HG.out.below W7.out hsz) PI.out R2.out).mono ?_
   rintro e w18 ⟨rfl,hX⟩
   replace W7:=Lib.hid (W7.out.trans (hX.mono W7.out.size))
   replace PI:=Lib.hid (HB.out.below PI.out hX)
   replace KB:=Lib.hid (KB.out.below hX KB.out.lt)
   replace MB:=Lib.hid (MB.out.below hX MB.out.lt)
   clear hX R2 CIM
   refine hK _ _ ?_
   clear hK K
   try simp only [zpt]
   refine wpAny_take (i:=41) (oi:=?oi56) (v:=.bool true) ?hi56 (by kernel_rfl) (by kernel_rfl) (by kernel_rfl) ?hQ56 ?hy56 ?rest56
   case hi56=>simp only [zge]; rfl
   case hQ56=>exact fun _ _ _ h=>h
   case hy56=>exact Or.inl ⟨by rfl,by intro w; go_simp⟩
   try simp only [zpt]
   refine wpAny_take (i:=42) (oi:=?oi57) (v:=.bool true) ?hi57 (by kernel_rfl) (by kernel_rfl) (by kernel_rfl) ?hQ57 ?hy57 ?rest57
   case hi57=>simp only [zge]; rfl
   case hQ57=>exact fun _ _ _ h=>h
   case hy57=>exact Or.inl ⟨by rfl,by intro w; go_simp⟩
   try simp only [zpt]
   refine wpAny_take (i:=43) (oi:=?oi58) (v:=.pointer (some ⟨gi,0,none⟩)) ?hi58 (by kernel_rfl) (by kernel_rfl) (by kernel_rfl) ?hQ58 ?hy58 ?rest58
   case hi58=>simp only [zge]; rfl
   case hQ58=>exact fun _ _ _ h=>h
   case hy58=>exact Or.inl ⟨by rfl,by intro w; go_simp⟩
   try simp only [zpt]
   refine phaseL (fun i=>if i=46 then [45] else []) (fun d a w'=>∃ x112 x113 x114 x115:Value,a={ tmps:=#[.bool false,.pointer (some ⟨gr,0,none⟩),.pointer (some ⟨gi,0,none⟩),.pointer (some ⟨gk,0,none⟩),.slice A0 17 c0,.slice A1 17 c1,.slice A2 1 c2,.bool true,.slice A3 1 c3,.bool true,.slice A4 0 c4,.bool false,.pointer (some ⟨gm,0,none⟩),.pointer (some ⟨gr,0,none⟩),.pointer (some ⟨t,0,none⟩),.pointer (some ⟨gi,0,none⟩),.pointer (some ⟨gr,0,none⟩),.bool false,.bool false,.pointer (some ⟨gi,0,none⟩),.bool false,.bool false,.bool false,.pointer (some ⟨t2,0,none⟩),.pointer none,.bool false,.bool false,.bool false,.pointer none,.bool false,.bool false,.agg kc.toArray,.pointer (some ⟨gr,0,none⟩),.agg kc.toArray,.slice (some ⟨g0,0,none⟩) 1 1,.slice (some ⟨g1,0,none⟩) 1 1,.slice A0 17 c0,.pointer (some ⟨gi,0,none⟩),.agg kc.toArray,.slice (some ⟨gy,0,none⟩) 1 1,.slice (some ⟨g2,0,none⟩) 1 1,.slice A1 17 c1,.tuple #[.slice A2 1 c2,.bool true],.pointer (some ⟨gr,0,none⟩),.agg kc.toArray,.slice A0 17 c0,.tuple #[.slice A2 1 c2,.bool true],.slice A2 1 c2,.bool true,.tuple #[.slice A3 1 c3,.bool true],.pointer (some ⟨gi,0,none⟩),.agg kc.toArray,.slice A1 17 c1,.tuple #[.slice A3 1 c3,.bool true],.slice A3 1 c3,.bool true,.tuple #[.slice A4 0 c4,.bool false],.pointer (some ⟨gi,0,none⟩),.agg kc.toArray,.slice A1 17 c1,.tuple #[.slice A4 0 c4,.bool false],.slice A4 0 c4,.bool false,.pointer (some ⟨gi,0,none⟩),.agg kc.toArray,.slice (some ⟨gq,0,none⟩) 1 1,.slice (some ⟨gq,0,none⟩) 1 1,.agg mc.toArray,.bool true,.bool true,.bool true,.bool true,.bool true,.slice A0 17 c0,.int .i64 17,.bool true,.bool true,.bool true,.slice A1 17 c1,.int .i64 17,.bool true,.bool true,.bool true,.bool true,.bool true,.bool true,.bool true,.bool true,.bool true,.bool false,.bool true,.bool true,.bool true,.slice A2 1 c2,.string ⟨#[120]⟩,.bool true,.bool true,.bool true,.slice A3 1 c3,.string ⟨#[120]⟩,.bool true,.bool true,.bool true,.pointer (some ⟨gi,0,none⟩),.agg kc.toArray,.slice (some ⟨g36a,0,none⟩) 1 1,.slice (some ⟨g36b,0,none⟩) 1 1,.agg mc.toArray,.bool true,.bool true,.bool true,.pointer (some ⟨gi,0,none⟩),x112,x113,x114,x115,undef,undef,undef,undef,undef,undef,undef,undef,undef,undef],defers:=[] }/\Hid (Below w18.heap.size w18 w')/\(d 44=true->x112 = .agg kc.toArray)/\(d 45=true->Hid (Lt w' w18.heap.size x113 [110]))/\(d 46=true->Hid (Lt w' w18.heap.size x114 [110]))/\(d 47=true->x115 = .agg mc.toArray)) [44,45,46,47] ?step59 11 4 [44,45,46,47] _ _ _ rfl (by decide) (fun _ h=>h) (Fits.of (by kernel_rfl)) ?init59 ?fin59
   case init59=>refine ⟨_,_,_,_,rfl,Below.refl _ _,?_,?_,?_,?_⟩ <;> (intro h; exact absurd h (by decide))
   case step59 =>
    intro i hi d a v59 hI hdi hdeps
    obtain ⟨x112,x113,x114,x115,rfl,BW,h44,h45,h46,h47⟩:=hI
    have hsw:=BW.out.size
    simp only [List.mem_cons,List.not_mem_nil,or_false] at hi
    rcases hi with rfl | rfl | rfl | rfl
    ·refine wpOp_step (o:=?os60) ?hos60 (fun K hK=>?_)
     case hos60=>simp only [zge]; rfl
     refine step_loadW rfl 27 (.tmp 3) rfl gk 0 rfl kc _ Tryd.underlying27 rfl IK.out (KB.out.below BW.out KB.out.lt).cells (hK _ _ ?_)
     clear hK K
     try simp only [zpt]
     exact ⟨_,_,_,_,rfl,BW,fun _=>rfl,fun a=>h45 (by simpa using a),fun a=>h46 (by simpa using a),fun a=>by first | exact h47 (by simpa using a) | rfl⟩
    ·have hX:=alloc_below v59 (.cells #[.int .u8 110] 5)
     refine wpOp_step (o:=?os61) ?hos61 (fun K hK=>?_)
     case hos61=>simp only [zge]; rfl
     go_simp
     refine hK _ _ ?_
     clear hK K
     try simp only [zpt]
     exact ⟨_,_,_,_,rfl,BW.out.trans (hX.mono hsw),fun a=>by first | exact h44 (by simpa using a) | rfl,fun _=>Lt.new _ _ _ _ _ (by rfl) rfl hsw,fun a=>(h46 (by simpa using a)).out.below hX,fun a=>by first | exact h47 (by simpa using a) | rfl⟩
    ·have hL:=h45 (hdeps 45 (by simp))
     obtain ⟨u59,hcv,hF,hBz⟩:=conv_mark hL.out
     refine wpOp_step (o:=?os62) ?hos62 (fun K hK=>?_)
     case hos62=>simp only [zge]; rfl
     go_simp
     refine hK _ _ ?_
     clear hK K
     try simp only [zpt]
     exact ⟨_,_,_,_,rfl,hBz _ BW.out,fun a=>by first | exact h44 (by simpa using a) | rfl,fun a=>(h45 (by simpa using a)).out.fz hF,fun _=>hL.out.fz hF,fun a=>by first | exact h47 (by simpa using a) | rfl⟩
    ·refine wpOp_step (o:=?os63) ?hos63 (fun K hK=>?_)
     case hos63=>simp only [zge]; rfl
     refine step_loadW rfl 27 (.tmp 12) rfl gm 0 rfl mc _ Tryd.underlying27 rfl IM.out (MB.out.below BW.out MB.out.lt).cells (hK _ _ ?_)
     clear hK K
     try simp only [zpt]
     exact ⟨_,_,_,_,rfl,BW,fun a=>by first | exact h44 (by simpa using a) | rfl,fun a=>h45 (by simpa using a),fun a=>h46 (by simpa using a),fun _=>rfl⟩
   case fin59 =>
    intro a v59 hI
    obtain ⟨x112,x113,x114,x115,rfl,BW,h44,h45,h46,h47⟩:=hI
    obtain rfl:=h44 (by decide)
    obtain rfl:=h47 (by decide)
    obtain ⟨g44a,rfl,_,_,_⟩:=(h45 (by decide)).out.rd (k:=1) rfl (by omega)
    obtain ⟨g44b,rfl,_,_,hR2⟩:=(h46 (by decide)).out.rd (k:=1) rfl (by omega)
    have R2:=Lib.hid hR2
    replace W7:=Lib.hid (W7.out.trans (BW.out.mono W7.out.size))
    replace PI:=Lib.hid (HB.out.below PI.out BW.out)
    replace KB:=Lib.hid (KB.out.below BW.out KB.out.lt)
    replace MB:=Lib.hid (MB.out.below BW.out MB.out.lt)
    clear h44 h45 h46 h47 BW hR2
    try dsimp only
    refine wpAny_ready (rs:=[48]) (by kernel_rfl) (by simp) ?_
    refine AllReady.cons (o:=?p64) ?q64 (fun K hK=>?_) AllReady.nil
    case q64=>simp only [zge]; rfl
    go_simp
    refine (CIN.out v59 gi M3 _ (HG.out.below W7.out hsz) PI.out R2.out).mono ?_
    rintro e w19 ⟨rfl,hX⟩
    replace W7:=Lib.hid (W7.out.trans (hX.mono W7.out.size))
    replace PI:=Lib.hid (HB.out.below PI.out hX)
    replace KB:=Lib.hid (KB.out.below hX KB.out.lt)
    replace MB:=Lib.hid (MB.out.below hX MB.out.lt)
    clear hX R2 CIN
    refine hK _ _ ?_
    clear hK K
    try simp only [zpt]
    refine wpAny_take (i:=49) (oi:=?oi65) (v:=.bool true) ?hi65 (by kernel_rfl) (by kernel_rfl) (by kernel_rfl) ?hQ65 ?hy65 ?rest65
    case hi65=>simp only [zge]; rfl
    case hQ65=>exact fun _ _ _ h=>h
    case hy65=>exact Or.inl ⟨by rfl,by intro w; go_simp⟩
    try simp only [zpt]
    refine wpAny_take (i:=50) (oi:=?oi66) (v:=.bool true) ?hi66 (by kernel_rfl) (by kernel_rfl) (by kernel_rfl) ?hQ66 ?hy66 ?rest66
    case hi66=>simp only [zge]; rfl
    case hQ66=>exact fun _ _ _ h=>h
    case hy66=>exact Or.inl ⟨by rfl,by intro w; go_simp⟩
    try simp only [zpt]
    refine wpAny_take (i:=51) (oi:=?oi67) (v:=.bool true) ?hi67 (by kernel_rfl) (by kernel_rfl) (by kernel_rfl) ?hQ67 ?hy67 ?rest67
    case hi67=>simp only [zge]; rfl
    case hQ67=>exact fun _ _ _ h=>h
    case hy67=>exact Or.inl ⟨by rfl,by intro w; go_simp⟩
    try simp only [zpt]
    refine wpAny_take (i:=52) (oi:=?oi68) (v:=.pointer (some ⟨gi,0,none⟩)) ?hi68 (by kernel_rfl) (by kernel_rfl) (by kernel_rfl) ?hQ68 ?hy68 ?rest68
    case hi68=>simp only [zge]; rfl
    case hQ68=>exact fun _ _ _ h=>h
    case hy68=>exact Or.inl ⟨by rfl,by intro w; go_simp⟩
    try simp only [zpt]
    refine phase (fun i=>if i=54 then [53] else []) (fun d a w'=>∃ x121 x122 x123:Value,a={ tmps:=#[.bool false,.pointer (some ⟨gr,0,none⟩),.pointer (some ⟨gi,0,none⟩),.pointer (some ⟨gk,0,none⟩),.slice A0 17 c0,.slice A1 17 c1,.slice A2 1 c2,.bool true,.slice A3 1 c3,.bool true,.slice A4 0 c4,.bool false,.pointer (some ⟨gm,0,none⟩),.pointer (some ⟨gr,0,none⟩),.pointer (some ⟨t,0,none⟩),.pointer (some ⟨gi,0,none⟩),.pointer (some ⟨gr,0,none⟩),.bool false,.bool false,.pointer (some ⟨gi,0,none⟩),.bool false,.bool false,.bool false,.pointer (some ⟨t2,0,none⟩),.pointer none,.bool false,.bool false,.bool false,.pointer none,.bool false,.bool false,.agg kc.toArray,.pointer (some ⟨gr,0,none⟩),.agg kc.toArray,.slice (some ⟨g0,0,none⟩) 1 1,.slice (some ⟨g1,0,none⟩) 1 1,.slice A0 17 c0,.pointer (some ⟨gi,0,none⟩),.agg kc.toArray,.slice (some ⟨gy,0,none⟩) 1 1,.slice (some ⟨g2,0,none⟩) 1 1,.slice A1 17 c1,.tuple #[.slice A2 1 c2,.bool true],.pointer (some ⟨gr,0,none⟩),.agg kc.toArray,.slice A0 17 c0,.tuple #[.slice A2 1 c2,.bool true],.slice A2 1 c2,.bool true,.tuple #[.slice A3 1 c3,.bool true],.pointer (some ⟨gi,0,none⟩),.agg kc.toArray,.slice A1 17 c1,.tuple #[.slice A3 1 c3,.bool true],.slice A3 1 c3,.bool true,.tuple #[.slice A4 0 c4,.bool false],.pointer (some ⟨gi,0,none⟩),.agg kc.toArray,.slice A1 17 c1,.tuple #[.slice A4 0 c4,.bool false],.slice A4 0 c4,.bool false,.pointer (some ⟨gi,0,none⟩),.agg kc.toArray,.slice (some ⟨gq,0,none⟩) 1 1,.slice (some ⟨gq,0,none⟩) 1 1,.agg mc.toArray,.bool true,.bool true,.bool true,.bool true,.bool true,.slice A0 17 c0,.int .i64 17,.bool true,.bool true,.bool true,.slice A1 17 c1,.int .i64 17,.bool true,.bool true,.bool true,.bool true,.bool true,.bool true,.bool true,.bool true,.bool true,.bool false,.bool true,.bool true,.bool true,.slice A2 1 c2,.string ⟨#[120]⟩,.bool true,.bool true,.bool true,.slice A3 1 c3,.string ⟨#[120]⟩,.bool true,.bool true,.bool true,.pointer (some ⟨gi,0,none⟩),.agg kc.toArray,.slice (some ⟨g36a,0,none⟩) 1 1,.slice (some ⟨g36b,0,none⟩) 1 1,.agg mc.toArray,.bool true,.bool true,.bool true,.pointer (some ⟨gi,0,none⟩),.agg kc.toArray,.slice (some ⟨g44a,0,none⟩) 1 1,.slice (some ⟨g44b,0,none⟩) 1 1,.agg mc.toArray,.bool false,.bool true,.bool true,.bool true,.pointer (some ⟨gi,0,none⟩),x121,x122,x123,undef,undef],defers:=[] }/\Hid (Below w.heap.size w w')/\Hid (Blk w' gm 27 mc)/\(d 54=false->w'=w19)/\(d 53=false->d 54=false)/\(d 53=true->x121 = .agg kc.toArray)/\(d 54=true->x122 = .agg lc.toArray)/\(d 55=true->x123 = .agg mc.toArray)) [53,54,55] ?step69 3 3 [53,54,55] _ _ _ rfl (by decide) (fun _ h=>h) (by kernel_rfl) ?init69 ?fin69
    case init69=>refine ⟨_,_,_,rfl,W7,MB,fun _=>rfl,fun _=>by decide,?_,?_,?_⟩ <;> (intro h; exact absurd h (by decide))
    case step69 =>
     intro i hi d a v69 hI hdi hdeps
     obtain ⟨x121,x122,x123,rfl,BW,BM,hw,hd5,h53,h54,h55⟩:=hI
     simp only [List.mem_cons,List.not_mem_nil,or_false] at hi
     rcases hi with rfl | rfl | rfl
     ·have d54:=hd5 hdi
      have hwe:=hw d54
      subst hwe
      refine wpOp_step (o:=?os70) ?hos70 (fun K hK=>?_)
      case hos70=>simp only [zge]; rfl
      refine step_loadW rfl 27 (.tmp 3) rfl gk 0 rfl kc _ Tryd.underlying27 rfl IK.out KB.out.cells (hK _ _ ?_)
      clear hK K
      try simp only [zpt]
      exact ⟨_,_,_,rfl,BW,BM,fun _=>by first | rfl | trivial,fun a=>absurd a (by simp),fun _=>rfl,fun a=>h54 (by simpa using a),fun a=>h55 (by simpa using a)⟩
     ·obtain rfl:=h53 (hdeps 53 (by simp))
      have hwe:=hw hdi
      subst hwe
      refine wpOp_step (o:=?os71) ?hos71 (fun K hK=>?_)
      case hos71=>simp only [zge]; rfl
      go_simp
      refine (CLI.out _ gi M3 (HG.out.below BW.out hsz) (fun b hb=>by have:=M3b.out b hb; omega) PI.out).mono ?_
      rintro e u69 ⟨rfl,hF⟩
      refine hK _ _ ?_
      clear hK K
      try simp only [zpt]
      exact ⟨_,_,_,rfl,hF.below BW.out (fun b hb=>(M3b.out b hb).1) BW.out.size,hF.blk BM.out NM.out,fun a=>absurd a (by simp),fun a=>absurd (hdeps 53 (by simp)) (by simpa using a),fun _=>rfl,fun _=>rfl,fun a=>h55 (by simpa using a)⟩
     ·refine wpOp_step (o:=?os72) ?hos72 (fun K hK=>?_)
      case hos72=>simp only [zge]; rfl
      refine step_loadW rfl 27 (.tmp 12) rfl gm 0 rfl mc _ Tryd.underlying27 rfl IM.out BM.out.cells (hK _ _ ?_)
      clear hK K
      try simp only [zpt]
      exact ⟨_,_,_,rfl,BW,BM,fun a=>hw (by simpa using a),fun a=>by simpa using hd5 (by simpa using a),fun a=>h53 (by simpa using a),fun a=>h54 (by simpa using a),fun _=>rfl⟩
    case fin69 =>
     intro a v69 hI
     obtain ⟨x121,x122,x123,rfl,BW,BM,hw,hd5,h53,h54,h55⟩:=hI
     obtain rfl:=h53 (by decide)
     obtain rfl:=h54 (by decide)
     obtain rfl:=h55 (by decide)
     have hne:=HNE.out
     clear hw hd5 h53 h54 h55
     dsimp only
     refine wpAny_take (i:=56) (oi:=?oi73) (v:=.bool true) ?hi73 (by kernel_rfl) (by kernel_rfl) (by kernel_rfl) ?hQ73 ?hy73 ?rest73
     case hi73=>simp only [zge]; rfl
     case hQ73=>exact fun _ _ _ h=>h
     case hy73=>exact Or.inl ⟨by rfl,by intro w; go_simp⟩
     try simp only [zpt]
     refine wpAny_take (i:=57) (oi:=?oi74) (v:=.bool true) ?hi74 (by kernel_rfl) (by kernel_rfl) (by kernel_rfl) ?hQ74 ?hy74 ?rest74
     case hi74=>simp only [zge]; rfl
     case hQ74=>exact fun _ _ _ h=>h
     case hy74=>exact Or.inl ⟨by rfl,by intro w; go_simp⟩
     try simp only [zpt]
     refine wpAny_take (i:=58) (oi:=?oi75) (v:=.bool true) ?hi75 (by kernel_rfl) (by kernel_rfl) (by kernel_rfl) ?hQ75 ?hy75 ?rest75
     case hi75=>simp only [zge]; rfl
     case hQ75=>exact fun _ _ _ h=>h
     case hy75=>exact Or.inl ⟨by rfl,by intro w; go_simp⟩
     try simp only [zpt]
     refine wpAny_done (by kernel_rfl) ?_ _
     clear hne
     go_wp2_with fail
     go_ret
     exact ⟨rfl,BW.out⟩
end Go.Proofs.YtajgjeialbgijaaDoor
