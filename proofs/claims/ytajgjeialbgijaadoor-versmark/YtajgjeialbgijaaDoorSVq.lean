import Derived.Test.YtajgjeialbgijaaDoorSBox
import Derived.Test.YtajgjeialbgijaaDoorSRbs
import Derived.Test.YtajgjeialbgijaaDoorSKeyed
import Derived.Test.YtajgjeialbgijaaDoorSVm
namespace Go.Proofs.YtajgjeialbgijaaDoor
set_option linter.unusedVariables false
set_option linter.unusedSimpArgs false
set_option maxRecDepth 100000
open Go.RowKit Vs
set_option maxRecDepth 100000 in
set_option maxHeartbeats 2000000 in
theorem rmarkR_any {w:World} {g:Nat} {s:Int} {A:Option Addr} {n c:Nat} {b:List UInt8} (key:List UInt8) (hg:Blk w g 58 [.int .i64 0,.int .i64 s,.int .i64 0,.slice none 0 0]) (h32:key.length=32) (hrb:Rd w A n c b) (hnb:n<=100000) :
  Calls Tryd.prog 13 #[.pointer (some ⟨g,0,none⟩),.agg (key.map cellOf).toArray,.slice A n c] w (RetH w (Sha.hmac key b)):=by
 obtain ⟨kc,hkc⟩:∃ kc,kc=key.map cellOf:=⟨_,rfl⟩
 obtain ⟨m,hm⟩:∃ m,m=Sha.hmac key b:=⟨_,rfl⟩
 have LM:Hid (m.length=32):=by unfold Hid; rw [hm,Sha.hmac_length]
 obtain ⟨D,hD⟩:∃ D,D=m.map cellOf:=⟨_,rfl⟩
 have hDl:D.length=32:=by rw [hD,List.length_map,LM.out]
 have ID:Hid ((Tryd.prog.info? 27).map (·.size)=some D.length):=by unfold Hid; rw [hDl]; kernel_rfl
 have LD:Hid ((List.replicate 32 (Value.int .u8 0)).length=D.length):=by unfold Hid; rw [hDl]; rfl
 have OD:Hid (∀ v ∈ D,v.oneCell'=true):=by unfold Hid; rw [hD]; exact cells_u8 _
 have CH:Hid (∀ (W:World) (q:Nat),Blk W q 27 kc->Rd W A n c b->Calls Tryd.prog 27 #[.slice (some ⟨q,0,none⟩) 32 32,.slice A n c] W fun e w'=>e = .returned (.agg D.toArray)/\Below W.heap.size W w'):=fun W q h2 h3=>by
  rw [hkc] at h2
  refine (rhmac_any (blk_rd32 h2 h32) (by omega) h3 (by omega)).mono ?_
  rintro e w' ⟨D',rfl,hS,hX⟩
  have e1:D'=D:=by
   rw [hS,hD,hm]
  rw [e1]
  exact ⟨rfl,hX⟩
 have HBG:=Lib.hid hg
 have hgl:=hg.lt
 have HRB:=Lib.hid hrb
 unfold RetH
 rw [<- hkc,<- hm,<- hD]
 clear hg hrb hkc hD hDl h32 hm
 go_enter Tryd.func13,Tryd.ntmps13
 go_upto_region 1 with (fail)
 obtain ⟨w0,hw0⟩:∃ w0,w0=(w.alloc (Obj.cells kc.toArray 27)).alloc (Obj.cells (List.replicate 32 (Value.int .u8 0)).toArray 27):=⟨_,rfl⟩
 have B4:Hid (Blk w0 w.heap.size 27 kc):=by unfold Hid; rw [hw0]; exact (Blk.new w _ _).alloc _
 have B6:Hid (Blk w0 (w.heap.size + 1) 27 (List.replicate 32 (Value.int .u8 0))):=by unfold Hid; rw [hw0]; exact Blk.at_new _ _ _ _ _ rfl (by simp)
 have W0:Hid (Below w.heap.size w w0):=by unfold Hid; rw [hw0]; exact ((Below.refl _ _).alloc (Nat.le_refl _) _).alloc (by simp) _
 have hs0:w.heap.size + 2<=w0.heap.size:=by rw [hw0]; simp
 change Code.wp _ _ _ _ ((w.alloc (Obj.cells kc.toArray 27)).alloc (Obj.cells (List.replicate 32 (Value.int .u8 0)).toArray 27))
 rw [<- hw0]
 clear hw0
 have c0:w0.cell? ⟨g,0,none⟩=some (.int .i64 0):=(HBG.out.below W0.out hgl).cell 0
 go_upto_region 2 with (fail)
 clear c0
 obtain ⟨q,hq⟩:∃ q,q=w.heap.size:=⟨_,rfl⟩
 obtain ⟨q1,hq1⟩:∃ q,q=w.heap.size + 1:=⟨_,rfl⟩
 rw [<- hq] at B4
 rw [<- hq1] at B6
 rw [<- hq1,<- hq]
 have hqa:w.heap.size<=q:=by omega
 have hqb:w.heap.size<=q1:=by omega
 have hqc:q1 < w0.heap.size:=B6.out.lt
 clear hq hq1
 have hsl:=fun W=>sliceAt_all 27 32 Tryd.underlying27 q 0 W
 go_wp2_with fail
 refine (CH.out _ _ B4.out (HRB.out.below W0.out)).mono ?_
 rintro e w3 ⟨rfl,hX⟩
 have B8:=Lib.hid (B6.out.below hX B6.out.lt)
 have W3:=Lib.hid (W0.out.trans (hX.mono (by omega)))
 clear hX hsl B4 B6 W0
 go_wp2_with (first
  | (with_reducible refine storeGen_law rfl 27 (.tmp 6) (.tmp 14) rfl q1 rfl D rfl 27 (List.replicate 32 (Value.int .u8 0)) ID.out LD.out OD.out w.heap.size w B8.out W3.out hqb ?_; intro w4 B9 X4))
 exact bodyPost_ret (results_cell_row rfl _ _ q1 27 D.toArray (0,0) _ rfl B9.out Tryd.underlying27 rfl (by rw [ID.out]; simp)) rfl ⟨rfl,X4.out⟩
set_option maxRecDepth 100000 in
set_option maxHeartbeats 2000000 in
theorem risR_any {w:World} {g:Nat} {s:Int} {A:Option Addr} {n c:Nat} {b:List UInt8} (key h:List UInt8) (hg:Blk w g 58 [.int .i64 0,.int .i64 s,.int .i64 0,.slice none 0 0]) (h32:key.length=32) (hh:h.length=32) (hrb:Rd w A n c b) (hnb:n<=100000) :
  Calls Tryd.prog 16 #[.pointer (some ⟨g,0,none⟩),.agg (key.map cellOf).toArray,.slice A n c,.agg (h.map cellOf).toArray] w fun e w'=>e = .returned (.bool (decide (Sha.hmac key b=h)))/\Below w.heap.size w w':=by
 obtain ⟨kc,hkc⟩:∃ kc,kc=key.map cellOf:=⟨_,rfl⟩
 obtain ⟨m,hm⟩:∃ m,m=Sha.hmac key b:=⟨_,rfl⟩
 have LM:Hid (m.length=32):=by unfold Hid; rw [hm,Sha.hmac_length]
 obtain ⟨D,hD⟩:∃ D,D=m.map cellOf:=⟨_,rfl⟩
 have hDl:D.length=32:=by rw [hD,List.length_map,LM.out]
 have ID:Hid ((Tryd.prog.info? 27).map (·.size)=some D.length):=by unfold Hid; rw [hDl]; kernel_rfl
 have LD:Hid ((List.replicate 32 (Value.int .u8 0)).length=D.length):=by unfold Hid; rw [hDl]; rfl
 have OD:Hid (∀ v ∈ D,v.oneCell'=true):=by unfold Hid; rw [hD]; exact cells_u8 _
 have CH:Hid (∀ (W:World) (q:Nat),Blk W q 27 kc->Rd W A n c b->Calls Tryd.prog 27 #[.slice (some ⟨q,0,none⟩) 32 32,.slice A n c] W fun e w'=>e = .returned (.agg D.toArray)/\Below W.heap.size W w'):=fun W q h2 h3=>by
  rw [hkc] at h2
  refine (rhmac_any (blk_rd32 h2 h32) (by omega) h3 (by omega)).mono ?_
  rintro e w' ⟨D',rfl,hS,hX⟩
  have e1:D'=D:=by
   rw [hS,hD,hm]
  rw [e1]
  exact ⟨rfl,hX⟩
 have HBG:=Lib.hid hg
 have hgl:=hg.lt
 have HRB:=Lib.hid hrb
 obtain ⟨hc,hhc⟩:∃ kc,kc=h.map cellOf:=⟨_,rfl⟩
 have IH:Hid ((Tryd.prog.info? 27).map (·.size)=some hc.length):=by unfold Hid; rw [hhc,List.length_map,hh]; kernel_rfl
 have EQ:Hid (∀ W,(Op.equalIn 10000 27 (.agg D.toArray) (.agg hc.toArray)).run Tryd.prog W = .ok (decide (m=h)) W):=fun W=>by rw [hD,hhc]; exact equalH 9998 m h LM.out hh W
 rw [<- hkc,<- hhc,<- hm]
 clear hg hrb hkc hhc hD hDl h32 hh hm
 go_enter Tryd.func16,Tryd.ntmps16
 go_upto_region 1 with (fail)
 obtain ⟨w0,hw0⟩:∃ w0,w0=(w.alloc (Obj.cells kc.toArray 27)).alloc (Obj.cells hc.toArray 27):=⟨_,rfl⟩
 have B5:Hid (Blk w0 w.heap.size 27 kc):=by unfold Hid; rw [hw0]; exact (Blk.new w _ _).alloc _
 have B7:Hid (Blk w0 (w.heap.size + 1) 27 hc):=by unfold Hid; rw [hw0]; exact Blk.at_new _ _ _ _ _ rfl (by simp)
 have W0:Hid (Below w.heap.size w w0):=by unfold Hid; rw [hw0]; exact ((Below.refl _ _).alloc (Nat.le_refl _) _).alloc (by simp) _
 have hs0:w.heap.size + 2<=w0.heap.size:=by rw [hw0]; simp
 change Code.wp _ _ _ _ ((w.alloc (Obj.cells kc.toArray 27)).alloc (Obj.cells hc.toArray 27))
 rw [<- hw0]
 clear hw0
 obtain ⟨q5,hq5⟩:∃ q,q=w.heap.size:=⟨_,rfl⟩
 obtain ⟨q7,hq7⟩:∃ q,q=w.heap.size + 1:=⟨_,rfl⟩
 rw [<- hq5] at B5
 rw [<- hq7] at B7
 rw [<- hq7,<- hq5]
 have HQ:Hid (w.heap.size<=q5/\q5 < q7/\q7 < w0.heap.size):=by unfold Hid; omega
 clear hq5 hq7
 have c0:w0.cell? ⟨g,0,none⟩=some (.int .i64 0):=(HBG.out.below W0.out hgl).cell 0
 go_upto_region 2 with (fail)
 clear c0
 refine wp_region_any (by kernel_rfl) ?_
 change wpAny _ _ _ _ _ _ _ (World.drew _)
 replace B5:=Lib.hid B5.out.drew
 replace B7:=Lib.hid B7.out.drew
 replace HRB:=Lib.hid (HRB.out.below W0.out.drew)
 replace W0:=Lib.hid W0.out.drew
 replace HQ:Hid (w.heap.size<=q5/\q5 < q7/\q7 < w0.drew.heap.size):=HQ.out
 generalize w0.drew=w1 at *
 have hsl:=fun W=>sliceAt_all 27 32 Tryd.underlying27 q5 0 W
 refine wpAny_take (i:=0) (oi:=?oi1) (v:=.slice (some ⟨q5,0,none⟩) 32 32) ?hi1 (by kernel_rfl) (by kernel_rfl) (by kernel_rfl) ?hQ1 ?hy1 ?rest1
 case hi1=>simp only [zge]; rfl
 case hQ1=>exact fun _ _ _ h=>h
 case hy1=>exact Or.inl ⟨by rfl,by intro w; go_simp⟩
 try simp only [zpt]
 refine wpAny_take (i:=1) (oi:=?oi2) (v:=.slice A n c) ?hi2 (by kernel_rfl) (by kernel_rfl) (by kernel_rfl) ?hQ2 ?hy2 ?rest2
 case hi2=>simp only [zge]; rfl
 case hQ2=>exact fun _ _ _ h=>h
 case hy2=>exact Or.inl ⟨by rfl,by intro w; go_simp⟩
 try simp only [zpt]
 refine phaseL (fun i=>[]) (fun d a w'=>∃ x18 x19:Value,a={ tmps:=#[.pointer (some ⟨g,0,none⟩),.agg kc.toArray,.slice A n c,.agg hc.toArray,undef,.pointer (some ⟨q5,0,none⟩),undef,.pointer (some ⟨q7,0,none⟩),.bool false,undef,undef,.pointer (some ⟨g,0,none⟩),.pointer (some ⟨g,0,none⟩),.pointer (some ⟨g,0,none⟩),.int .i64 0,.bool true,.slice (some ⟨q5,0,none⟩) 32 32,.slice A n c,x18,x19,undef,undef,undef,undef,undef,undef,undef,undef,undef,undef,undef,undef,undef,undef,undef,undef,undef,undef,undef,undef,undef,undef,undef,undef,undef,undef,undef,undef,undef,undef,undef,undef,undef,undef,undef,undef,undef,undef,undef,undef],defers:=[] }/\Hid (Below w1.heap.size w1 w')/\(d 2=true->x18 = .agg D.toArray)/\(d 3=true->x19 = .agg hc.toArray)) [2,3] ?step3 2 2 [2,3] _ _ _ rfl (by decide) (fun _ h=>h) (Fits.of (by kernel_rfl)) ?init3 ?fin3
 case init3=>refine ⟨_,_,rfl,Below.refl _ _,?_,?_⟩ <;> (intro h; exact absurd h (by decide))
 case step3 =>
  intro i hi d a v3 hI hdi hdeps
  obtain ⟨x18,x19,rfl,BW,h2,h3⟩:=hI
  have hsw:=BW.out.size
  simp only [List.mem_cons,List.not_mem_nil,or_false] at hi
  rcases hi with rfl | rfl
  ·refine wpOp_step (o:=?os4) ?hos4 (fun K hK=>?_)
   case hos4=>simp only [zge]; rfl
   go_simp
   refine (CH.out v3 _ (B5.out.below BW.out B5.out.lt) (HRB.out.below BW.out)).mono ?_
   rintro e u3 ⟨rfl,hX⟩
   refine hK _ _ ?_
   clear hK K
   try simp only [zpt]
   exact ⟨_,_,rfl,BW.out.trans (hX.mono hsw),fun _=>rfl,fun a=>by first | exact h3 (by simpa using a) | rfl⟩
  ·refine wpOp_step (o:=?os5) ?hos5 (fun K hK=>?_)
   case hos5=>simp only [zge]; rfl
   refine step_loadW rfl 27 (.tmp 7) rfl q7 0 rfl hc _ Tryd.underlying27 rfl IH.out (B7.out.below BW.out B7.out.lt).cells (hK _ _ ?_)
   clear hK K
   try simp only [zpt]
   exact ⟨_,_,rfl,BW,fun a=>by first | exact h2 (by simpa using a) | rfl,fun _=>rfl⟩
 case fin3 =>
  intro a v3 hI
  obtain ⟨x18,x19,rfl,BW,h2,h3⟩:=hI
  obtain rfl:=h2 (by decide)
  obtain rfl:=h3 (by decide)
  clear h2 h3
  have W4:=Lib.hid (W0.out.trans (BW.out.mono W0.out.size))
  clear BW B5 B7 hsl
  try dsimp only
  have hee:=EQ.out
  refine wpAny_take (i:=4) (oi:=?oi6) (v:=.bool (decide (m=h))) ?hi6 (by kernel_rfl) (by kernel_rfl) (by kernel_rfl) ?hQ6 ?hy6 ?rest6
  case hi6=>simp only [zge]; rfl
  case hQ6=>exact fun _ _ _ h=>h
  case hy6=>exact Or.inl ⟨by rfl,by intro w; go_simp⟩
  try simp only [zpt]
  refine wpAny_take (i:=5) (oi:=?oi7) (v:=.bool (decide (m=h))) ?hi7 (by kernel_rfl) (by kernel_rfl) (by kernel_rfl) ?hQ7 ?hy7 ?rest7
  case hi7=>simp only [zge]; rfl
  case hQ7=>exact fun _ _ _ h=>h
  case hy7=>exact Or.inl ⟨by rfl,by intro w; go_simp⟩
  try simp only [zpt]
  refine wpAny_done (by kernel_rfl) ?_ _
  clear hee
  go_wp2_with fail
  go_ret
  exact ⟨rfl,W4.out⟩
def isR (key b h:List UInt8) (n:RNote):Bool:=decide (n.kind=1/\n.key=key/\n.b=b/\n.out=h)
set_option maxRecDepth 100000 in
set_option maxHeartbeats 4000000 in
theorem risI_any {w:World} {B g:Nat} {s:Int} {ta:Nat} {l:List RNote} {v:Value} {A:Option Addr} {n c:Nat} {b:List UInt8} (key h:List UInt8) (hR:RefAt w B g s ta l v) (h32:key.length=32) (hh:h.length=32) (hr:Rd w A n c b) (hnb:n<=100000) (hlen:l.length<=1000) :
  Calls Tryd.prog 16 #[.pointer (some ⟨g,0,none⟩),.agg (key.map cellOf).toArray,.slice A n c,.agg (h.map cellOf).toArray] w fun e w'=>e = .returned (.bool (l.any (isR key b h)))/\Below w.heap.size w w':=by
 obtain ⟨kc,hkc⟩:∃ kc,kc=key.map cellOf:=⟨_,rfl⟩
 obtain ⟨hc,hhc⟩:∃ kc,kc=h.map cellOf:=⟨_,rfl⟩
 have IK:Hid ((Tryd.prog.info? 27).map (·.size)=some kc.length):=by unfold Hid; rw [hkc,List.length_map,h32]; kernel_rfl
 have HKC:=Lib.hid hkc
 have HHC:=Lib.hid hhc
 have K3:=Lib.hid h32
 have H3:=Lib.hid hh
 have HR:=Lib.hid hR
 have HRB:=Lib.hid hr
 have hgl:=hR.blk.lt
 have GD:=Lib.hid hR.good
 obtain ⟨Av,cv,rfl⟩:∃ Av cv,v = .slice Av l.length cv:=by
  rcases hR.own.2 with ⟨h1,h2⟩ | ⟨gr,cap,cur,e,_⟩
  ·exact ⟨none,0,by rw [h1,h2]⟩
  ·exact ⟨_,_,e⟩
 rw [<- hkc,<- hhc]
 clear hR hr hkc hhc h32 hh
 go_enter Tryd.func16,Tryd.ntmps16
 go_upto_region 1 with (fail)
 obtain ⟨w0,hw0⟩:∃ w0,w0=(w.alloc (Obj.cells kc.toArray 27)).alloc (Obj.cells hc.toArray 27):=⟨_,rfl⟩
 have B5:Hid (Blk w0 w.heap.size 27 kc):=by unfold Hid; rw [hw0]; exact (Blk.new w _ _).alloc _
 have B7:Hid (Blk w0 (w.heap.size + 1) 27 hc):=by unfold Hid; rw [hw0]; exact Blk.at_new _ _ _ _ _ rfl (by simp)
 have W0:Hid (Below w.heap.size w w0):=by unfold Hid; rw [hw0]; exact ((Below.refl _ _).alloc (Nat.le_refl _) _).alloc (by simp) _
 have hs0:w.heap.size + 2<=w0.heap.size:=by rw [hw0]; simp
 change Code.wp _ _ _ _ ((w.alloc (Obj.cells kc.toArray 27)).alloc (Obj.cells hc.toArray 27))
 rw [<- hw0]
 clear hw0
 obtain ⟨q5,hq5⟩:∃ q,q=w.heap.size:=⟨_,rfl⟩
 obtain ⟨q7,hq7⟩:∃ q,q=w.heap.size + 1:=⟨_,rfl⟩
 rw [<- hq5] at B5
 rw [<- hq7] at B7
 rw [<- hq7,<- hq5]
 have HQ:Hid (w.heap.size<=q5/\q5 < q7/\q7 < w0.heap.size):=by unfold Hid; omega
 clear hq5 hq7
 have c0:w0.cell? ⟨g,0,none⟩=some (.int .i64 1):=(HR.out.below W0.out).blk.cell 0
 go_wp2_with fail
 clear c0
 go_loopw [9] (fun iv wr=>∃ k:Nat,k<=l.length/\iv = .int .i64 k/\Hid ((l.take k).any (isR key b h)=false)/\Hid (Below w0.heap.size w0 wr)) (fun iv _=>l.length - (intOf iv).toNat)
 case atStart=>exact ⟨0,by omega,rfl,by unfold Hid; simp,Below.refl _ _⟩
 case round =>
  obtain ⟨k,hk,rfl,HN,X0⟩:=hrel
  have WR:Hid (Below w.heap.size w wr):=W0.out.trans (X0.out.mono W0.out.size)
  have R1:Hid (RefAt wr B g s ta l (.slice Av l.length cv)):=HR.out.below WR.out
  have cg:wr.cell? ⟨g,3,none⟩=some (.slice Av l.length cv):=R1.out.blk.cell 3
  by_cases hlt:k < l.length
  case neg =>
   have d0:decide ((k:Int) < (l.length:Int))=false:=decide_eq_false (by omega)
   go_wp2_with fail
   go_ret
   have e:=HN.out
   rw [show k=l.length by omega,List.take_length] at e
   rw [e]
   exact ⟨rfl,WR.out⟩
  obtain ⟨gr,cap,hveq,hgr,hcap,hcell⟩:=R1.out.note hlt
  injection hveq with hv1 _ hv2
  subst hv1
  subst hv2
  obtain ⟨nk,hnk⟩:∃ x,x=l[k]:=⟨_,rfl⟩
  have HNX:Hid ((l.take (k + 1)).any (isR key b h)=isR key b h nk):=by
   unfold Hid
   rw [List.take_add_one,List.getElem?_eq_getElem hlt,List.any_append,HN.out,hnk]
   simp
  have HYS:Hid (isR key b h nk=true->l.any (isR key b h)=true):=fun e=>List.any_eq_true.2 ⟨nk,by rw [hnk]; exact List.getElem_mem _,e⟩
  rw [<- hnk] at hcell
  have NG:Hid (nk.key.length=32/\nk.out.length=32):=by unfold Hid; rw [hnk]; exact GD.out _ (List.getElem_mem hlt)
  have HC:=Lib.hid hcell
  have d0:decide ((k:Int) < (l.length:Int))=true:=decide_eq_true (by omega)
  have hix:=fun W=>index_note gr 0 l.length cv k hlt W
  obtain ⟨o,ho⟩:∃ o,o=0 + k * 37:=⟨_,rfl⟩
  rw [<- ho] at hix
  rw [show k * 37=o by omega] at HC
  obtain ⟨nc,hnc⟩:∃ x,x=nk.cells:=⟨_,rfl⟩
  rw [<- hnc] at HC
  have NL:Hid (nc.length=37):=by unfold Hid; rw [hnc]; exact RNote.cells_length nk NG.out.1
  have IN:Hid ((Tryd.prog.info? 63).map (·.size)=some nc.length):=by unfold Hid; rw [NL.out]; exact infoNt
  have LZ:Hid (zeroNote.cells.length=nc.length):=by unfold Hid; rw [NL.out]; exact zeroNote_cells
  have ON:Hid (∀ u ∈ nc,u.oneCell'=true):=by unfold Hid; rw [hnc]; exact RNote.cells_one nk
  have KD:Hid (nc[0]?=some (.int .i64 nk.kind)):=by unfold Hid; rw [hnc]; rfl
  obtain ⟨nkc,hnkc⟩:∃ x,x=nk.key.map cellOf:=⟨_,rfl⟩
  have KY:Hid (∀ j u,nkc[j]?=some u->nc[1 + j]?=some u):=by unfold Hid; rw [hnc,hnkc]; exact cells_key nk NG.out.1
  have KB:Hid (nc[35]?=some (.string ⟨nk.b.toArray⟩)):=by unfold Hid; rw [hnc]; exact cells_b nk NG.out.1
  have KO:Hid (nc[36]?=some (.string ⟨nk.out.toArray⟩)):=by unfold Hid; rw [hnc]; exact cells_out nk NG.out.1
  have INK:Hid ((Tryd.prog.info? 27).map (·.size)=some nkc.length):=by unfold Hid; rw [hnkc,List.length_map,NG.out.1]; kernel_rfl
  have HNK:=Lib.hid hnkc
  clear hcell ho hnc hnk hnkc
  go_upto_region 7 with (first
   | (with_reducible refine load_law rfl 63 (.tmp 35) rfl gr o rfl nc _ Tryd.underlying63 rfl IN.out HC.out ?_)
   | ((with_reducible refine storeGen_law rfl 63 (.tmp 10) (.tmp 36) rfl wr.heap.size rfl nc rfl 63 zeroNote.cells IN.out LZ.out ON.out wr.heap.size wr ?_ ?_ (Nat.le_refl _) ?_)
      ·exact Blk.at_new _ _ 63 _ _ (by rfl) rfl
      ·exact (Below.refl _ _).alloc (Nat.le_refl _) _
      intro w2 B10 X2))
  obtain ⟨q10,hq10⟩:∃ q,q=wr.heap.size:=⟨_,rfl⟩
  rw [<- hq10] at B10
  rw [<- hq10]
  clear hq10
  have WX:Hid (Below w0.heap.size w0 w2):=X0.out.trans (X2.out.mono X0.out.size)
  have C5:=Lib.hid (B5.out.below WX.out B5.out.lt)
  have C7:=Lib.hid (B7.out.below WX.out B7.out.lt)
  have RB2:=Lib.hid (HRB.out.below (W0.out.trans (WX.out.mono W0.out.size)))
  refine wp_region_any (by kernel_rfl) ?_
  change wpAny _ _ _ _ _ _ _ (World.drew _)
  replace B10:=Lib.hid B10.out.drew
  replace C5:=Lib.hid C5.out.drew
  replace C7:=Lib.hid C7.out.drew
  replace RB2:Hid (Rd w2.drew A n c b):=RB2.out.below (Below.refl _ _).drew
  replace WX:Hid (Below w0.heap.size w0 w2.drew):=WX.out.drew
  clear X2 R1 WR cg hix
  generalize w2.drew=w3 at *
  refine wpAny_take (i:=0) (oi:=?oi8) (v:=.pointer (some ⟨q10,0,none⟩)) ?hi8 (by kernel_rfl) (by kernel_rfl) (by kernel_rfl) ?hQ8 ?hy8 ?rest8
  case hi8=>simp only [zge]; rfl
  case hQ8=>exact fun _ _ _ h=>h
  case hy8=>exact Or.inl ⟨by rfl,by intro w; go_simp⟩
  try simp only [zpt]
  refine phaseL (fun i=>[]) (fun d a w'=>∃ x38:Value,a={ tmps:=#[.pointer (some ⟨g,0,none⟩),.agg kc.toArray,.slice A n c,.agg hc.toArray,undef,.pointer (some ⟨q5,0,none⟩),undef,.pointer (some ⟨q7,0,none⟩),u8,.int .i64 (k:Int),.pointer (some ⟨q10,0,none⟩),.pointer (some ⟨g,0,none⟩),.pointer (some ⟨g,0,none⟩),.pointer (some ⟨g,0,none⟩),.int .i64 1,.bool false,undef,undef,undef,undef,undef,.int .i64 (k:Int),.pointer (some ⟨g,0,none⟩),.pointer (some ⟨g,0,none⟩),.pointer (some ⟨g,3,none⟩),.slice (some ⟨gr,0,none⟩) l.length cv,.int .i64 (l.length:Int),.bool true,u28,u29,.pointer (some ⟨g,0,none⟩),.pointer (some ⟨g,0,none⟩),.pointer (some ⟨g,3,none⟩),.slice (some ⟨gr,0,none⟩) l.length cv,.int .i64 (k:Int),.pointer (some ⟨gr,o,none⟩),.agg nc.toArray,.pointer (some ⟨q10,0,none⟩),x38,u39,u40,u41,u42,u43,u44,u45,u46,u47,u48,u49,u50,u51,u52,u53,u54,u55,u56,u57,u58,u59],defers:=[] }/\Hid (Below w3.heap.size w3 w')/\(d 1=true->x38 = .int .i64 nk.kind)) [1] ?step9 21 1 [1] _ _ _ rfl (by decide) (fun _ h=>h) (Fits.of (by kernel_rfl)) ?init9 ?fin9
  case init9=>refine ⟨_,rfl,Below.refl _ _,?_⟩ <;> (intro h; exact absurd h (by decide))
  case step9 =>
   intro i hi d a v9 hI hdi hdeps
   obtain ⟨x38,rfl,BW,h1⟩:=hI
   have hsw:=BW.out.size
   simp only [List.mem_cons,List.not_mem_nil,or_false] at hi
   subst hi
   have c0:v9.cell? ⟨q10,0,none⟩=some (.int .i64 nk.kind):=((B10.out.below BW.out B10.out.lt).cell 0).trans KD.out
   refine wpOp_step (o:=?os10) ?hos10 (fun K hK=>?_)
   case hos10=>simp only [zge]; rfl
   go_simp
   refine hK _ _ ?_
   clear hK K
   try simp only [zpt]
   exact ⟨_,rfl,BW,fun _=>rfl⟩
  case fin9 =>
   intro a v9 hI
   obtain ⟨x38,rfl,BW,h1⟩:=hI
   obtain rfl:=h1 (by decide)
   replace B10:=Lib.hid (B10.out.below BW.out B10.out.lt)
   replace C5:=Lib.hid (C5.out.below BW.out C5.out.lt)
   replace C7:=Lib.hid (C7.out.below BW.out C7.out.lt)
   replace RB2:=Lib.hid (RB2.out.below BW.out)
   replace WX:=Lib.hid (WX.out.trans (BW.out.mono WX.out.size))
   clear BW h1
   try dsimp only
   by_cases e1:nk.kind=1
   case neg =>
    have d1:(nk.kind == 1)=false:=by simpa using e1
    refine wpAny_take (i:=2) (oi:=?oi11) (v:=.bool false) ?hi11 (by kernel_rfl) (by kernel_rfl) (by kernel_rfl) ?hQ11 ?hy11 ?rest11
    case hi11=>simp only [zge]; rfl
    case hQ11=>exact fun _ _ _ h=>h
    case hy11=>exact Or.inl ⟨by rfl,by intro w; go_simp⟩
    try simp only [zpt]
    refine wpAny_take (i:=3) (oi:=?oi12) (v:=.bool false) ?hi12 (by kernel_rfl) (by kernel_rfl) (by kernel_rfl) ?hQ12 ?hy12 ?rest12
    case hi12=>simp only [zge]; rfl
    case hQ12=>exact fun _ _ _ h=>h
    case hy12=>exact Or.inl ⟨by rfl,by intro w; go_simp⟩
    try simp only [zpt]
    refine wpAny_take (i:=4) (oi:=?oi13) (v:=undef) ?hi13 (by kernel_rfl) (by kernel_rfl) (by kernel_rfl) ?hQ13 ?hy13 ?rest13
    case hi13=>simp only [zge]; rfl
    case hQ13=>exact fun _ _ _ h=>h
    case hy13=>exact Or.inr ⟨by rfl,rfl⟩
    try simp only [zpt]
    refine wpAny_take (i:=5) (oi:=?oi14) (v:=undef) ?hi14 (by kernel_rfl) (by kernel_rfl) (by kernel_rfl) ?hQ14 ?hy14 ?rest14
    case hi14=>simp only [zge]; rfl
    case hQ14=>exact fun _ _ _ h=>h
    case hy14=>exact Or.inr ⟨by rfl,rfl⟩
    try simp only [zpt]
    refine wpAny_take (i:=6) (oi:=?oi15) (v:=undef) ?hi15 (by kernel_rfl) (by kernel_rfl) (by kernel_rfl) ?hQ15 ?hy15 ?rest15
    case hi15=>simp only [zge]; rfl
    case hQ15=>exact fun _ _ _ h=>h
    case hy15=>exact Or.inr ⟨by rfl,rfl⟩
    try simp only [zpt]
    refine wpAny_take (i:=7) (oi:=?oi16) (v:=undef) ?hi16 (by kernel_rfl) (by kernel_rfl) (by kernel_rfl) ?hQ16 ?hy16 ?rest16
    case hi16=>simp only [zge]; rfl
    case hQ16=>exact fun _ _ _ h=>h
    case hy16=>exact Or.inr ⟨by rfl,rfl⟩
    try simp only [zpt]
    refine wpAny_take (i:=8) (oi:=?oi17) (v:=.bool false) ?hi17 (by kernel_rfl) (by kernel_rfl) (by kernel_rfl) ?hQ17 ?hy17 ?rest17
    case hi17=>simp only [zge]; rfl
    case hQ17=>exact fun _ _ _ h=>h
    case hy17=>exact Or.inl ⟨by rfl,by intro w; go_simp⟩
    try simp only [zpt]
    refine wpAny_take (i:=9) (oi:=?oi18) (v:=.bool false) ?hi18 (by kernel_rfl) (by kernel_rfl) (by kernel_rfl) ?hQ18 ?hy18 ?rest18
    case hi18=>simp only [zge]; rfl
    case hQ18=>exact fun _ _ _ h=>h
    case hy18=>exact Or.inl ⟨by rfl,by intro w; go_simp⟩
    try simp only [zpt]
    refine wpAny_take (i:=10) (oi:=?oi19) (v:=undef) ?hi19 (by kernel_rfl) (by kernel_rfl) (by kernel_rfl) ?hQ19 ?hy19 ?rest19
    case hi19=>simp only [zge]; rfl
    case hQ19=>exact fun _ _ _ h=>h
    case hy19=>exact Or.inr ⟨by rfl,rfl⟩
    try simp only [zpt]
    refine wpAny_take (i:=11) (oi:=?oi20) (v:=undef) ?hi20 (by kernel_rfl) (by kernel_rfl) (by kernel_rfl) ?hQ20 ?hy20 ?rest20
    case hi20=>simp only [zge]; rfl
    case hQ20=>exact fun _ _ _ h=>h
    case hy20=>exact Or.inr ⟨by rfl,rfl⟩
    try simp only [zpt]
    refine wpAny_take (i:=12) (oi:=?oi21) (v:=undef) ?hi21 (by kernel_rfl) (by kernel_rfl) (by kernel_rfl) ?hQ21 ?hy21 ?rest21
    case hi21=>simp only [zge]; rfl
    case hQ21=>exact fun _ _ _ h=>h
    case hy21=>exact Or.inr ⟨by rfl,rfl⟩
    try simp only [zpt]
    refine wpAny_take (i:=13) (oi:=?oi22) (v:=undef) ?hi22 (by kernel_rfl) (by kernel_rfl) (by kernel_rfl) ?hQ22 ?hy22 ?rest22
    case hi22=>simp only [zge]; rfl
    case hQ22=>exact fun _ _ _ h=>h
    case hy22=>exact Or.inr ⟨by rfl,rfl⟩
    try simp only [zpt]
    refine wpAny_take (i:=14) (oi:=?oi23) (v:=undef) ?hi23 (by kernel_rfl) (by kernel_rfl) (by kernel_rfl) ?hQ23 ?hy23 ?rest23
    case hi23=>simp only [zge]; rfl
    case hQ23=>exact fun _ _ _ h=>h
    case hy23=>exact Or.inr ⟨by rfl,rfl⟩
    try simp only [zpt]
    refine wpAny_take (i:=15) (oi:=?oi24) (v:=.bool false) ?hi24 (by kernel_rfl) (by kernel_rfl) (by kernel_rfl) ?hQ24 ?hy24 ?rest24
    case hi24=>simp only [zge]; rfl
    case hQ24=>exact fun _ _ _ h=>h
    case hy24=>exact Or.inl ⟨by rfl,by intro w; go_simp⟩
    try simp only [zpt]
    refine wpAny_take (i:=16) (oi:=?oi25) (v:=.bool false) ?hi25 (by kernel_rfl) (by kernel_rfl) (by kernel_rfl) ?hQ25 ?hy25 ?rest25
    case hi25=>simp only [zge]; rfl
    case hQ25=>exact fun _ _ _ h=>h
    case hy25=>exact Or.inl ⟨by rfl,by intro w; go_simp⟩
    try simp only [zpt]
    refine wpAny_take (i:=17) (oi:=?oi26) (v:=undef) ?hi26 (by kernel_rfl) (by kernel_rfl) (by kernel_rfl) ?hQ26 ?hy26 ?rest26
    case hi26=>simp only [zge]; rfl
    case hQ26=>exact fun _ _ _ h=>h
    case hy26=>exact Or.inr ⟨by rfl,rfl⟩
    try simp only [zpt]
    refine wpAny_take (i:=18) (oi:=?oi27) (v:=undef) ?hi27 (by kernel_rfl) (by kernel_rfl) (by kernel_rfl) ?hQ27 ?hy27 ?rest27
    case hi27=>simp only [zge]; rfl
    case hQ27=>exact fun _ _ _ h=>h
    case hy27=>exact Or.inr ⟨by rfl,rfl⟩
    try simp only [zpt]
    refine wpAny_take (i:=19) (oi:=?oi28) (v:=undef) ?hi28 (by kernel_rfl) (by kernel_rfl) (by kernel_rfl) ?hQ28 ?hy28 ?rest28
    case hi28=>simp only [zge]; rfl
    case hQ28=>exact fun _ _ _ h=>h
    case hy28=>exact Or.inr ⟨by rfl,rfl⟩
    try simp only [zpt]
    refine wpAny_take (i:=20) (oi:=?oi29) (v:=undef) ?hi29 (by kernel_rfl) (by kernel_rfl) (by kernel_rfl) ?hQ29 ?hy29 ?rest29
    case hi29=>simp only [zge]; rfl
    case hQ29=>exact fun _ _ _ h=>h
    case hy29=>exact Or.inr ⟨by rfl,rfl⟩
    try simp only [zpt]
    refine wpAny_take (i:=21) (oi:=?oi30) (v:=undef) ?hi30 (by kernel_rfl) (by kernel_rfl) (by kernel_rfl) ?hQ30 ?hy30 ?rest30
    case hi30=>simp only [zge]; rfl
    case hQ30=>exact fun _ _ _ h=>h
    case hy30=>exact Or.inr ⟨by rfl,rfl⟩
    try simp only [zpt]
    refine wpAny_take (i:=22) (oi:=?oi31) (v:=.bool false) ?hi31 (by kernel_rfl) (by kernel_rfl) (by kernel_rfl) ?hQ31 ?hy31 ?rest31
    case hi31=>simp only [zge]; rfl
    case hQ31=>exact fun _ _ _ h=>h
    case hy31=>exact Or.inl ⟨by rfl,by intro w; go_simp⟩
    try simp only [zpt]
    refine wpAny_done (by kernel_rfl) ?_ _
    clear d1
    go_wp2_with fail
    go_roundw
    case rel=>exact ⟨k + 1,by omega,by go_num,by unfold Hid; rw [HNX.out]; exact decide_eq_false (fun hh=>e1 hh.1),WX.out⟩
    case measure=>simp [intOf]; omega
   have d1:(nk.kind == 1)=true:=by simpa using e1
   replace e1:=Lib.hid e1
   refine wpAny_take (i:=2) (oi:=?oi32) (v:=.bool true) ?hi32 (by kernel_rfl) (by kernel_rfl) (by kernel_rfl) ?hQ32 ?hy32 ?rest32
   case hi32=>simp only [zge]; rfl
   case hQ32=>exact fun _ _ _ h=>h
   case hy32=>exact Or.inl ⟨by rfl,by intro w; go_simp⟩
   try simp only [zpt]
   clear d1
   refine wpAny_take (i:=3) (oi:=?oi33) (v:=.bool true) ?hi33 (by kernel_rfl) (by kernel_rfl) (by kernel_rfl) ?hQ33 ?hy33 ?rest33
   case hi33=>simp only [zge]; rfl
   case hQ33=>exact fun _ _ _ h=>h
   case hy33=>exact Or.inl ⟨by rfl,by intro w; go_simp⟩
   try simp only [zpt]
   refine wpAny_take (i:=4) (oi:=?oi34) (v:=.pointer (some ⟨q10,1,none⟩)) ?hi34 (by kernel_rfl) (by kernel_rfl) (by kernel_rfl) ?hQ34 ?hy34 ?rest34
   case hi34=>simp only [zge]; rfl
   case hQ34=>exact fun _ _ _ h=>h
   case hy34=>exact Or.inl ⟨by rfl,by intro w; go_simp⟩
   try simp only [zpt]
   refine phaseL (fun i=>[]) (fun d a w'=>∃ x42 x43:Value,a={ tmps:=#[.pointer (some ⟨g,0,none⟩),.agg kc.toArray,.slice A n c,.agg hc.toArray,undef,.pointer (some ⟨q5,0,none⟩),undef,.pointer (some ⟨q7,0,none⟩),u8,.int .i64 (k:Int),.pointer (some ⟨q10,0,none⟩),.pointer (some ⟨g,0,none⟩),.pointer (some ⟨g,0,none⟩),.pointer (some ⟨g,0,none⟩),.int .i64 1,.bool false,undef,undef,undef,undef,undef,.int .i64 (k:Int),.pointer (some ⟨g,0,none⟩),.pointer (some ⟨g,0,none⟩),.pointer (some ⟨g,3,none⟩),.slice (some ⟨gr,0,none⟩) l.length cv,.int .i64 (l.length:Int),.bool true,u28,u29,.pointer (some ⟨g,0,none⟩),.pointer (some ⟨g,0,none⟩),.pointer (some ⟨g,3,none⟩),.slice (some ⟨gr,0,none⟩) l.length cv,.int .i64 (k:Int),.pointer (some ⟨gr,o,none⟩),.agg nc.toArray,.pointer (some ⟨q10,0,none⟩),.int .i64 nk.kind,.bool true,.bool true,.pointer (some ⟨q10,1,none⟩),x42,x43,u44,u45,u46,u47,u48,u49,u50,u51,u52,u53,u54,u55,u56,u57,u58,u59],defers:=[] }/\Hid (Below v9.heap.size v9 w')/\(d 5=true->x42 = .agg nkc.toArray)/\(d 6=true->x43 = .agg kc.toArray)) [5,6] ?step35 16 2 [5,6] _ _ _ rfl (by decide) (fun _ h=>h) (Fits.of (by kernel_rfl)) ?init35 ?fin35
   case init35=>refine ⟨_,_,rfl,Below.refl _ _,?_,?_⟩ <;> (intro h; exact absurd h (by decide))
   case step35 =>
    intro i hi d a v35 hI hdi hdeps
    obtain ⟨x42,x43,rfl,BW,h5,h6⟩:=hI
    have hsw:=BW.out.size
    simp only [List.mem_cons,List.not_mem_nil,or_false] at hi
    rcases hi with rfl | rfl
    ·refine wpOp_step (o:=?os36) ?hos36 (fun K hK=>?_)
     case hos36=>simp only [zge]; rfl
     refine step_loadW rfl 27 (.tmp 41) rfl q10 1 rfl nkc _ Tryd.underlying27 rfl INK.out ((B10.out.below BW.out B10.out.lt).at_ KY.out) (hK _ _ ?_)
     clear hK K
     try simp only [zpt]
     exact ⟨_,_,rfl,BW,fun _=>rfl,fun a=>by first | exact h6 (by simpa using a) | rfl⟩
    ·refine wpOp_step (o:=?os37) ?hos37 (fun K hK=>?_)
     case hos37=>simp only [zge]; rfl
     refine step_loadW rfl 27 (.tmp 5) rfl q5 0 rfl kc _ Tryd.underlying27 rfl IK.out (C5.out.below BW.out C5.out.lt).cells (hK _ _ ?_)
     clear hK K
     try simp only [zpt]
     exact ⟨_,_,rfl,BW,fun a=>by first | exact h5 (by simpa using a) | rfl,fun _=>rfl⟩
   case fin35 =>
    intro a v35 hI
    obtain ⟨x42,x43,rfl,BW,h5,h6⟩:=hI
    obtain rfl:=h5 (by decide)
    obtain rfl:=h6 (by decide)
    replace B10:=Lib.hid (B10.out.below BW.out B10.out.lt)
    replace C5:=Lib.hid (C5.out.below BW.out C5.out.lt)
    replace C7:=Lib.hid (C7.out.below BW.out C7.out.lt)
    replace RB2:=Lib.hid (RB2.out.below BW.out)
    replace WX:=Lib.hid (WX.out.trans (BW.out.mono WX.out.size))
    clear BW h5 h6
    try dsimp only
    by_cases e2:nk.key=key
    case neg =>
     have hee:∀ W,(Op.equalIn 10000 27 (.agg nkc.toArray) (.agg kc.toArray)).run Tryd.prog W = .ok false W:=fun W=>by rw [HNK.out,HKC.out]; exact key_unlike NG.out.1 K3.out e2 W
     refine wpAny_take (i:=7) (oi:=?oi38) (v:=.bool false) ?hi38 (by kernel_rfl) (by kernel_rfl) (by kernel_rfl) ?hQ38 ?hy38 ?rest38
     case hi38=>simp only [zge]; rfl
     case hQ38=>exact fun _ _ _ h=>h
     case hy38=>exact Or.inl ⟨by rfl,by intro w; go_simp⟩
     try simp only [zpt]
     refine wpAny_take (i:=8) (oi:=?oi39) (v:=.bool false) ?hi39 (by kernel_rfl) (by kernel_rfl) (by kernel_rfl) ?hQ39 ?hy39 ?rest39
     case hi39=>simp only [zge]; rfl
     case hQ39=>exact fun _ _ _ h=>h
     case hy39=>exact Or.inl ⟨by rfl,by intro w; go_simp⟩
     try simp only [zpt]
     refine wpAny_take (i:=9) (oi:=?oi40) (v:=.bool false) ?hi40 (by kernel_rfl) (by kernel_rfl) (by kernel_rfl) ?hQ40 ?hy40 ?rest40
     case hi40=>simp only [zge]; rfl
     case hQ40=>exact fun _ _ _ h=>h
     case hy40=>exact Or.inl ⟨by rfl,by intro w; go_simp⟩
     try simp only [zpt]
     refine wpAny_take (i:=10) (oi:=?oi41) (v:=undef) ?hi41 (by kernel_rfl) (by kernel_rfl) (by kernel_rfl) ?hQ41 ?hy41 ?rest41
     case hi41=>simp only [zge]; rfl
     case hQ41=>exact fun _ _ _ h=>h
     case hy41=>exact Or.inr ⟨by rfl,rfl⟩
     try simp only [zpt]
     refine wpAny_take (i:=11) (oi:=?oi42) (v:=undef) ?hi42 (by kernel_rfl) (by kernel_rfl) (by kernel_rfl) ?hQ42 ?hy42 ?rest42
     case hi42=>simp only [zge]; rfl
     case hQ42=>exact fun _ _ _ h=>h
     case hy42=>exact Or.inr ⟨by rfl,rfl⟩
     try simp only [zpt]
     refine wpAny_take (i:=12) (oi:=?oi43) (v:=undef) ?hi43 (by kernel_rfl) (by kernel_rfl) (by kernel_rfl) ?hQ43 ?hy43 ?rest43
     case hi43=>simp only [zge]; rfl
     case hQ43=>exact fun _ _ _ h=>h
     case hy43=>exact Or.inr ⟨by rfl,rfl⟩
     try simp only [zpt]
     refine wpAny_take (i:=13) (oi:=?oi44) (v:=undef) ?hi44 (by kernel_rfl) (by kernel_rfl) (by kernel_rfl) ?hQ44 ?hy44 ?rest44
     case hi44=>simp only [zge]; rfl
     case hQ44=>exact fun _ _ _ h=>h
     case hy44=>exact Or.inr ⟨by rfl,rfl⟩
     try simp only [zpt]
     refine wpAny_take (i:=14) (oi:=?oi45) (v:=undef) ?hi45 (by kernel_rfl) (by kernel_rfl) (by kernel_rfl) ?hQ45 ?hy45 ?rest45
     case hi45=>simp only [zge]; rfl
     case hQ45=>exact fun _ _ _ h=>h
     case hy45=>exact Or.inr ⟨by rfl,rfl⟩
     try simp only [zpt]
     refine wpAny_take (i:=15) (oi:=?oi46) (v:=.bool false) ?hi46 (by kernel_rfl) (by kernel_rfl) (by kernel_rfl) ?hQ46 ?hy46 ?rest46
     case hi46=>simp only [zge]; rfl
     case hQ46=>exact fun _ _ _ h=>h
     case hy46=>exact Or.inl ⟨by rfl,by intro w; go_simp⟩
     try simp only [zpt]
     refine wpAny_take (i:=16) (oi:=?oi47) (v:=.bool false) ?hi47 (by kernel_rfl) (by kernel_rfl) (by kernel_rfl) ?hQ47 ?hy47 ?rest47
     case hi47=>simp only [zge]; rfl
     case hQ47=>exact fun _ _ _ h=>h
     case hy47=>exact Or.inl ⟨by rfl,by intro w; go_simp⟩
     try simp only [zpt]
     refine wpAny_take (i:=17) (oi:=?oi48) (v:=undef) ?hi48 (by kernel_rfl) (by kernel_rfl) (by kernel_rfl) ?hQ48 ?hy48 ?rest48
     case hi48=>simp only [zge]; rfl
     case hQ48=>exact fun _ _ _ h=>h
     case hy48=>exact Or.inr ⟨by rfl,rfl⟩
     try simp only [zpt]
     refine wpAny_take (i:=18) (oi:=?oi49) (v:=undef) ?hi49 (by kernel_rfl) (by kernel_rfl) (by kernel_rfl) ?hQ49 ?hy49 ?rest49
     case hi49=>simp only [zge]; rfl
     case hQ49=>exact fun _ _ _ h=>h
     case hy49=>exact Or.inr ⟨by rfl,rfl⟩
     try simp only [zpt]
     refine wpAny_take (i:=19) (oi:=?oi50) (v:=undef) ?hi50 (by kernel_rfl) (by kernel_rfl) (by kernel_rfl) ?hQ50 ?hy50 ?rest50
     case hi50=>simp only [zge]; rfl
     case hQ50=>exact fun _ _ _ h=>h
     case hy50=>exact Or.inr ⟨by rfl,rfl⟩
     try simp only [zpt]
     refine wpAny_take (i:=20) (oi:=?oi51) (v:=undef) ?hi51 (by kernel_rfl) (by kernel_rfl) (by kernel_rfl) ?hQ51 ?hy51 ?rest51
     case hi51=>simp only [zge]; rfl
     case hQ51=>exact fun _ _ _ h=>h
     case hy51=>exact Or.inr ⟨by rfl,rfl⟩
     try simp only [zpt]
     refine wpAny_take (i:=21) (oi:=?oi52) (v:=undef) ?hi52 (by kernel_rfl) (by kernel_rfl) (by kernel_rfl) ?hQ52 ?hy52 ?rest52
     case hi52=>simp only [zge]; rfl
     case hQ52=>exact fun _ _ _ h=>h
     case hy52=>exact Or.inr ⟨by rfl,rfl⟩
     try simp only [zpt]
     refine wpAny_take (i:=22) (oi:=?oi53) (v:=.bool false) ?hi53 (by kernel_rfl) (by kernel_rfl) (by kernel_rfl) ?hQ53 ?hy53 ?rest53
     case hi53=>simp only [zge]; rfl
     case hQ53=>exact fun _ _ _ h=>h
     case hy53=>exact Or.inl ⟨by rfl,by intro w; go_simp⟩
     try simp only [zpt]
     refine wpAny_done (by kernel_rfl) ?_ _
     clear hee
     go_wp2_with fail
     go_roundw
     case rel=>exact ⟨k + 1,by omega,by go_num,by unfold Hid; rw [HNX.out]; exact decide_eq_false (fun hh=>e2 hh.2.1),WX.out⟩
     case measure=>simp [intOf]; omega
    have hee:∀ W,(Op.equalIn 10000 27 (.agg nkc.toArray) (.agg kc.toArray)).run Tryd.prog W = .ok true W:=fun W=>by rw [HNK.out,HKC.out,e2,equal30 key key K3.out K3.out,sameB_self]
    replace e2:=Lib.hid e2
    refine wpAny_take (i:=7) (oi:=?oi54) (v:=.bool true) ?hi54 (by kernel_rfl) (by kernel_rfl) (by kernel_rfl) ?hQ54 ?hy54 ?rest54
    case hi54=>simp only [zge]; rfl
    case hQ54=>exact fun _ _ _ h=>h
    case hy54=>exact Or.inl ⟨by rfl,by intro w; go_simp⟩
    try simp only [zpt]
    clear hee
    refine wpAny_take (i:=8) (oi:=?oi55) (v:=.bool true) ?hi55 (by kernel_rfl) (by kernel_rfl) (by kernel_rfl) ?hQ55 ?hy55 ?rest55
    case hi55=>simp only [zge]; rfl
    case hQ55=>exact fun _ _ _ h=>h
    case hy55=>exact Or.inl ⟨by rfl,by intro w; go_simp⟩
    try simp only [zpt]
    refine wpAny_take (i:=9) (oi:=?oi56) (v:=.bool true) ?hi56 (by kernel_rfl) (by kernel_rfl) (by kernel_rfl) ?hQ56 ?hy56 ?rest56
    case hi56=>simp only [zge]; rfl
    case hQ56=>exact fun _ _ _ h=>h
    case hy56=>exact Or.inl ⟨by rfl,by intro w; go_simp⟩
    try simp only [zpt]
    refine wpAny_take (i:=10) (oi:=?oi57) (v:=.pointer (some ⟨q10,35,none⟩)) ?hi57 (by kernel_rfl) (by kernel_rfl) (by kernel_rfl) ?hQ57 ?hy57 ?rest57
    case hi57=>simp only [zge]; rfl
    case hQ57=>exact fun _ _ _ h=>h
    case hy57=>exact Or.inl ⟨by rfl,by intro w; go_simp⟩
    try simp only [zpt]
    refine wpAny_take (i:=12) (oi:=?oi58) (v:=.slice A n c) ?hi58 (by kernel_rfl) (by kernel_rfl) (by kernel_rfl) ?hQ58 ?hy58 ?rest58
    case hi58=>simp only [zge]; rfl
    case hQ58=>exact fun _ _ _ h=>h
    case hy58=>exact Or.inl ⟨by rfl,by intro w; go_simp⟩
    try simp only [zpt]
    refine phaseL (fun i=>[]) (fun d a w'=>∃ x48 x50:Value,a={ tmps:=#[.pointer (some ⟨g,0,none⟩),.agg kc.toArray,.slice A n c,.agg hc.toArray,undef,.pointer (some ⟨q5,0,none⟩),undef,.pointer (some ⟨q7,0,none⟩),u8,.int .i64 (k:Int),.pointer (some ⟨q10,0,none⟩),.pointer (some ⟨g,0,none⟩),.pointer (some ⟨g,0,none⟩),.pointer (some ⟨g,0,none⟩),.int .i64 1,.bool false,undef,undef,undef,undef,undef,.int .i64 (k:Int),.pointer (some ⟨g,0,none⟩),.pointer (some ⟨g,0,none⟩),.pointer (some ⟨g,3,none⟩),.slice (some ⟨gr,0,none⟩) l.length cv,.int .i64 (l.length:Int),.bool true,u28,u29,.pointer (some ⟨g,0,none⟩),.pointer (some ⟨g,0,none⟩),.pointer (some ⟨g,3,none⟩),.slice (some ⟨gr,0,none⟩) l.length cv,.int .i64 (k:Int),.pointer (some ⟨gr,o,none⟩),.agg nc.toArray,.pointer (some ⟨q10,0,none⟩),.int .i64 nk.kind,.bool true,.bool true,.pointer (some ⟨q10,1,none⟩),.agg nkc.toArray,.agg kc.toArray,.bool true,.bool true,.bool true,.pointer (some ⟨q10,35,none⟩),x48,.slice A n c,x50,u51,u52,u53,u54,u55,u56,u57,u58,u59],defers:=[] }/\Hid (Below v35.heap.size v35 w')/\(d 11=true->x48 = .string ⟨nk.b.toArray⟩)/\(d 13=true->x50 = .string ⟨b.toArray⟩)) [11,13] ?step59 9 2 [11,13] _ _ _ rfl (by decide) (fun _ h=>h) (Fits.of (by kernel_rfl)) ?init59 ?fin59
    case init59=>refine ⟨_,_,rfl,Below.refl _ _,?_,?_⟩ <;> (intro h; exact absurd h (by decide))
    case step59 =>
     intro i hi d a v59 hI hdi hdeps
     obtain ⟨x48,x50,rfl,BW,h11,h13⟩:=hI
     have hsw:=BW.out.size
     simp only [List.mem_cons,List.not_mem_nil,or_false] at hi
     rcases hi with rfl | rfl
     ·have c0:v59.cell? ⟨q10,35,none⟩=some (.string ⟨nk.b.toArray⟩):=((B10.out.below BW.out B10.out.lt).cell 35).trans KB.out
      refine wpOp_step (o:=?os60) ?hos60 (fun K hK=>?_)
      case hos60=>simp only [zge]; rfl
      go_simp
      refine hK _ _ ?_
      clear hK K
      try simp only [zpt]
      exact ⟨_,_,rfl,BW,fun _=>rfl,fun a=>by first | exact h13 (by simpa using a) | rfl⟩
     ·have hcv:=conv_bytes (RB2.out.below BW.out)
      refine wpOp_step (o:=?os61) ?hos61 (fun K hK=>?_)
      case hos61=>simp only [zge]; rfl
      go_simp
      refine hK _ _ ?_
      clear hK K
      try simp only [zpt]
      exact ⟨_,_,rfl,BW,fun a=>by first | exact h11 (by simpa using a) | rfl,fun _=>rfl⟩
    case fin59 =>
     intro a v59 hI
     obtain ⟨x48,x50,rfl,BW,h11,h13⟩:=hI
     obtain rfl:=h11 (by decide)
     obtain rfl:=h13 (by decide)
     replace B10:=Lib.hid (B10.out.below BW.out B10.out.lt)
     replace C5:=Lib.hid (C5.out.below BW.out C5.out.lt)
     replace C7:=Lib.hid (C7.out.below BW.out C7.out.lt)
     replace RB2:=Lib.hid (RB2.out.below BW.out)
     replace WX:=Lib.hid (WX.out.trans (BW.out.mono WX.out.size))
     clear BW h11 h13
     try dsimp only
     by_cases e3:nk.b=b
     case neg =>
      have hse:(nk.b == b)=false:=by simpa using e3
      refine wpAny_take (i:=14) (oi:=?oi62) (v:=.bool false) ?hi62 (by kernel_rfl) (by kernel_rfl) (by kernel_rfl) ?hQ62 ?hy62 ?rest62
      case hi62=>simp only [zge]; rfl
      case hQ62=>exact fun _ _ _ h=>h
      case hy62=>exact Or.inl ⟨by rfl,by intro w; go_simp⟩
      try simp only [zpt]
      refine wpAny_take (i:=15) (oi:=?oi63) (v:=.bool false) ?hi63 (by kernel_rfl) (by kernel_rfl) (by kernel_rfl) ?hQ63 ?hy63 ?rest63
      case hi63=>simp only [zge]; rfl
      case hQ63=>exact fun _ _ _ h=>h
      case hy63=>exact Or.inl ⟨by rfl,by intro w; go_simp⟩
      try simp only [zpt]
      refine wpAny_take (i:=16) (oi:=?oi64) (v:=.bool false) ?hi64 (by kernel_rfl) (by kernel_rfl) (by kernel_rfl) ?hQ64 ?hy64 ?rest64
      case hi64=>simp only [zge]; rfl
      case hQ64=>exact fun _ _ _ h=>h
      case hy64=>exact Or.inl ⟨by rfl,by intro w; go_simp⟩
      try simp only [zpt]
      refine wpAny_take (i:=17) (oi:=?oi65) (v:=undef) ?hi65 (by kernel_rfl) (by kernel_rfl) (by kernel_rfl) ?hQ65 ?hy65 ?rest65
      case hi65=>simp only [zge]; rfl
      case hQ65=>exact fun _ _ _ h=>h
      case hy65=>exact Or.inr ⟨by rfl,rfl⟩
      try simp only [zpt]
      refine wpAny_take (i:=18) (oi:=?oi66) (v:=undef) ?hi66 (by kernel_rfl) (by kernel_rfl) (by kernel_rfl) ?hQ66 ?hy66 ?rest66
      case hi66=>simp only [zge]; rfl
      case hQ66=>exact fun _ _ _ h=>h
      case hy66=>exact Or.inr ⟨by rfl,rfl⟩
      try simp only [zpt]
      refine wpAny_take (i:=19) (oi:=?oi67) (v:=undef) ?hi67 (by kernel_rfl) (by kernel_rfl) (by kernel_rfl) ?hQ67 ?hy67 ?rest67
      case hi67=>simp only [zge]; rfl
      case hQ67=>exact fun _ _ _ h=>h
      case hy67=>exact Or.inr ⟨by rfl,rfl⟩
      try simp only [zpt]
      refine wpAny_take (i:=20) (oi:=?oi68) (v:=undef) ?hi68 (by kernel_rfl) (by kernel_rfl) (by kernel_rfl) ?hQ68 ?hy68 ?rest68
      case hi68=>simp only [zge]; rfl
      case hQ68=>exact fun _ _ _ h=>h
      case hy68=>exact Or.inr ⟨by rfl,rfl⟩
      try simp only [zpt]
      refine wpAny_take (i:=21) (oi:=?oi69) (v:=undef) ?hi69 (by kernel_rfl) (by kernel_rfl) (by kernel_rfl) ?hQ69 ?hy69 ?rest69
      case hi69=>simp only [zge]; rfl
      case hQ69=>exact fun _ _ _ h=>h
      case hy69=>exact Or.inr ⟨by rfl,rfl⟩
      try simp only [zpt]
      refine wpAny_take (i:=22) (oi:=?oi70) (v:=.bool false) ?hi70 (by kernel_rfl) (by kernel_rfl) (by kernel_rfl) ?hQ70 ?hy70 ?rest70
      case hi70=>simp only [zge]; rfl
      case hQ70=>exact fun _ _ _ h=>h
      case hy70=>exact Or.inl ⟨by rfl,by intro w; go_simp⟩
      try simp only [zpt]
      refine wpAny_done (by kernel_rfl) ?_ _
      clear hse
      go_wp2_with fail
      go_roundw
      case rel=>exact ⟨k + 1,by omega,by go_num,by unfold Hid; rw [HNX.out]; exact decide_eq_false (fun hh=>e3 hh.2.2.1),WX.out⟩
      case measure=>simp [intOf]; omega
     have hse:(nk.b == b)=true:=by simpa using e3
     replace e3:=Lib.hid e3
     refine wpAny_take (i:=14) (oi:=?oi71) (v:=.bool true) ?hi71 (by kernel_rfl) (by kernel_rfl) (by kernel_rfl) ?hQ71 ?hy71 ?rest71
     case hi71=>simp only [zge]; rfl
     case hQ71=>exact fun _ _ _ h=>h
     case hy71=>exact Or.inl ⟨by rfl,by intro w; go_simp⟩
     try simp only [zpt]
     clear hse
     have hsl:=fun W=>sliceAt_all 27 32 Tryd.underlying27 q7 0 W
     refine wpAny_take (i:=15) (oi:=?oi72) (v:=.bool true) ?hi72 (by kernel_rfl) (by kernel_rfl) (by kernel_rfl) ?hQ72 ?hy72 ?rest72
     case hi72=>simp only [zge]; rfl
     case hQ72=>exact fun _ _ _ h=>h
     case hy72=>exact Or.inl ⟨by rfl,by intro w; go_simp⟩
     try simp only [zpt]
     refine wpAny_take (i:=16) (oi:=?oi73) (v:=.bool true) ?hi73 (by kernel_rfl) (by kernel_rfl) (by kernel_rfl) ?hQ73 ?hy73 ?rest73
     case hi73=>simp only [zge]; rfl
     case hQ73=>exact fun _ _ _ h=>h
     case hy73=>exact Or.inl ⟨by rfl,by intro w; go_simp⟩
     try simp only [zpt]
     refine wpAny_take (i:=17) (oi:=?oi74) (v:=.pointer (some ⟨q10,36,none⟩)) ?hi74 (by kernel_rfl) (by kernel_rfl) (by kernel_rfl) ?hQ74 ?hy74 ?rest74
     case hi74=>simp only [zge]; rfl
     case hQ74=>exact fun _ _ _ h=>h
     case hy74=>exact Or.inl ⟨by rfl,by intro w; go_simp⟩
     try simp only [zpt]
     refine wpAny_take (i:=19) (oi:=?oi75) (v:=.slice (some ⟨q7,0,none⟩) 32 32) ?hi75 (by kernel_rfl) (by kernel_rfl) (by kernel_rfl) ?hQ75 ?hy75 ?rest75
     case hi75=>simp only [zge]; rfl
     case hQ75=>exact fun _ _ _ h=>h
     case hy75=>exact Or.inl ⟨by rfl,by intro w; go_simp⟩
     try simp only [zpt]
     have RH:Hid (Rd v59 (some ⟨q7,0,none⟩) 32 32 h):=blk_rd32 (by rw [<- HHC.out]; exact C7.out) H3.out
     clear hsl
     refine phaseL (fun i=>[]) (fun d a w'=>∃ x55 x57:Value,a={ tmps:=#[.pointer (some ⟨g,0,none⟩),.agg kc.toArray,.slice A n c,.agg hc.toArray,undef,.pointer (some ⟨q5,0,none⟩),undef,.pointer (some ⟨q7,0,none⟩),u8,.int .i64 (k:Int),.pointer (some ⟨q10,0,none⟩),.pointer (some ⟨g,0,none⟩),.pointer (some ⟨g,0,none⟩),.pointer (some ⟨g,0,none⟩),.int .i64 1,.bool false,undef,undef,undef,undef,undef,.int .i64 (k:Int),.pointer (some ⟨g,0,none⟩),.pointer (some ⟨g,0,none⟩),.pointer (some ⟨g,3,none⟩),.slice (some ⟨gr,0,none⟩) l.length cv,.int .i64 (l.length:Int),.bool true,u28,u29,.pointer (some ⟨g,0,none⟩),.pointer (some ⟨g,0,none⟩),.pointer (some ⟨g,3,none⟩),.slice (some ⟨gr,0,none⟩) l.length cv,.int .i64 (k:Int),.pointer (some ⟨gr,o,none⟩),.agg nc.toArray,.pointer (some ⟨q10,0,none⟩),.int .i64 nk.kind,.bool true,.bool true,.pointer (some ⟨q10,1,none⟩),.agg nkc.toArray,.agg kc.toArray,.bool true,.bool true,.bool true,.pointer (some ⟨q10,35,none⟩),.string ⟨nk.b.toArray⟩,.slice A n c,.string ⟨b.toArray⟩,.bool true,.bool true,.bool true,.pointer (some ⟨q10,36,none⟩),x55,.slice (some ⟨q7,0,none⟩) 32 32,x57,u58,u59],defers:=[] }/\Hid (Below v59.heap.size v59 w')/\(d 18=true->x55 = .string ⟨nk.out.toArray⟩)/\(d 20=true->x57 = .string ⟨h.toArray⟩)) [18,20] ?step76 2 2 [18,20] _ _ _ rfl (by decide) (fun _ h=>h) (Fits.of (by kernel_rfl)) ?init76 ?fin76
     case init76=>refine ⟨_,_,rfl,Below.refl _ _,?_,?_⟩ <;> (intro h; exact absurd h (by decide))
     case step76 =>
      intro i hi d a v76 hI hdi hdeps
      obtain ⟨x55,x57,rfl,BW,h18,h20⟩:=hI
      have hsw:=BW.out.size
      simp only [List.mem_cons,List.not_mem_nil,or_false] at hi
      rcases hi with rfl | rfl
      ·have c0:v76.cell? ⟨q10,36,none⟩=some (.string ⟨nk.out.toArray⟩):=((B10.out.below BW.out B10.out.lt).cell 36).trans KO.out
       refine wpOp_step (o:=?os77) ?hos77 (fun K hK=>?_)
       case hos77=>simp only [zge]; rfl
       go_simp
       refine hK _ _ ?_
       clear hK K
       try simp only [zpt]
       exact ⟨_,_,rfl,BW,fun _=>rfl,fun a=>by first | exact h20 (by simpa using a) | rfl⟩
      ·have hcv:=conv_bytes (RH.out.below BW.out)
       refine wpOp_step (o:=?os78) ?hos78 (fun K hK=>?_)
       case hos78=>simp only [zge]; rfl
       go_simp
       refine hK _ _ ?_
       clear hK K
       try simp only [zpt]
       exact ⟨_,_,rfl,BW,fun a=>by first | exact h18 (by simpa using a) | rfl,fun _=>rfl⟩
     case fin76 =>
      intro a v76 hI
      obtain ⟨x55,x57,rfl,BW,h18,h20⟩:=hI
      obtain rfl:=h18 (by decide)
      obtain rfl:=h20 (by decide)
      replace B10:=Lib.hid (B10.out.below BW.out B10.out.lt)
      replace C5:=Lib.hid (C5.out.below BW.out C5.out.lt)
      replace C7:=Lib.hid (C7.out.below BW.out C7.out.lt)
      replace RB2:=Lib.hid (RB2.out.below BW.out)
      replace WX:=Lib.hid (WX.out.trans (BW.out.mono WX.out.size))
      clear BW h18 h20
      clear RH
      try dsimp only
      by_cases e4:nk.out=h
      case neg =>
       have hse:(nk.out == h)=false:=by simpa using e4
       refine wpAny_take (i:=21) (oi:=?oi79) (v:=.bool false) ?hi79 (by kernel_rfl) (by kernel_rfl) (by kernel_rfl) ?hQ79 ?hy79 ?rest79
       case hi79=>simp only [zge]; rfl
       case hQ79=>exact fun _ _ _ h=>h
       case hy79=>exact Or.inl ⟨by rfl,by intro w; go_simp⟩
       try simp only [zpt]
       refine wpAny_take (i:=22) (oi:=?oi80) (v:=.bool false) ?hi80 (by kernel_rfl) (by kernel_rfl) (by kernel_rfl) ?hQ80 ?hy80 ?rest80
       case hi80=>simp only [zge]; rfl
       case hQ80=>exact fun _ _ _ h=>h
       case hy80=>exact Or.inl ⟨by rfl,by intro w; go_simp⟩
       try simp only [zpt]
       refine wpAny_done (by kernel_rfl) ?_ _
       clear hse
       go_wp2_with fail
       go_roundw
       case rel=>exact ⟨k + 1,by omega,by go_num,by unfold Hid; rw [HNX.out]; exact decide_eq_false (fun hh=>e4 hh.2.2.2),WX.out⟩
       case measure=>simp [intOf]; omega
      have hse:(nk.out == h)=true:=by simpa using e4
      replace e4:=Lib.hid e4
      refine wpAny_take (i:=21) (oi:=?oi81) (v:=.bool true) ?hi81 (by kernel_rfl) (by kernel_rfl) (by kernel_rfl) ?hQ81 ?hy81 ?rest81
      case hi81=>simp only [zge]; rfl
      case hQ81=>exact fun _ _ _ h=>h
      case hy81=>exact Or.inl ⟨by rfl,by intro w; go_simp⟩
      try simp only [zpt]
      refine wpAny_take (i:=22) (oi:=?oi82) (v:=.bool true) ?hi82 (by kernel_rfl) (by kernel_rfl) (by kernel_rfl) ?hQ82 ?hy82 ?rest82
      case hi82=>simp only [zge]; rfl
      case hQ82=>exact fun _ _ _ h=>h
      case hy82=>exact Or.inl ⟨by rfl,by intro w; go_simp⟩
      try simp only [zpt]
      clear hse
      refine wpAny_done (by kernel_rfl) ?_ _
      go_wp2_with fail
      go_ret
      have e:=HYS.out (decide_eq_true ⟨e1.out,e2.out,e3.out,e4.out⟩)
      rw [e]
      exact ⟨rfl,W0.out.trans (WX.out.mono W0.out.size)⟩
end Go.Proofs.YtajgjeialbgijaaDoor
