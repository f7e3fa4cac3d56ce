import Derived.Test.YtajgjeialbgijaaDoorSVg
import Derived.Test.YtajgjeialbgijaaDoorSVx
namespace Go.Proofs.YtajgjeialbgijaaDoor
set_option linter.unusedVariables false
set_option linter.unusedSimpArgs false
set_option maxRecDepth 100000
open Go.RowKit Vs
set_option maxRecDepth 100000 in
set_option maxHeartbeats 2000000 in
theorem vfollows_any {last v:V} (hl:Ok last) (hv:Ok v) {w:World} (hg:Gl w):Calls Tryd.prog 9 #[vval last,vval v] w fun e w'=>e = .returned (.bool (follows last v))/\Below w.heap.size w w':=by
 have HG:=Lib.hid hg
 have hsz:=hg.size
 have CC:=Lib.hid isc_any
 have CE:Hid (∀ W,Calls Tryd.prog 23 #[.int .i64 last.ep,.int .i64 v.ep] W fun e w'=>e = .returned (.bool (epF last.ep v.ep))/\W=w'):=fun W=>epf_any hl.ep W
 obtain ⟨nx,hnx⟩:∃ n,n=next last v.client:=⟨_,rfl⟩
 have CN:Hid (∀ W,Gl W->Calls Tryd.prog 8 #[vval last,.int .i64 v.client] W fun e w'=>e = .returned (vval nx)/\Below W.heap.size W w'):=fun W hW=>by rw [hnx]; exact vnext_any hl v.client hW
 have hno:Ok nx:=by rw [hnx]; exact next_ok hl _
 have h1o:Ok { nx with root:=v.root }:=⟨hno.prev,hv.root,hno.vec,hno.tag,hno.client,hno.n,hno.count,hno.ep,hno.each⟩
 have h2o:Ok { nx with root:=v.root,ep:=v.ep }:=⟨hno.prev,hv.root,hno.vec,hno.tag,hno.client,hno.n,hno.count,hv.ep,hno.each⟩
 have h3o:Ok { nx with root:=v.root,ep:=v.ep,tag:=v.tag }:=⟨hno.prev,hv.root,hno.vec,hv.tag,hno.client,hno.n,hno.count,hv.ep,hno.each⟩
 obtain ⟨res,hres⟩:∃ b,b=follows last v:=⟨_,rfl⟩
 rw [<- hres]
 rw [follows,<- hnx] at hres
 have HRS:=Lib.hid hres
 have EP:=Lib.hid (at_ep hl)
 have EV:=Lib.hid (at_ep hv)
 have LRo:=Lib.hid (lay_root hv)
 have LTg:=Lib.hid (lay_tag hv)
 have IR:=Lib.hid (hinfo hv.root)
 have IT:=Lib.hid (hinfo hv.tag)
 have OR:=Lib.hid (cells_u8 v.root)
 have OT:=Lib.hid (cells_u8 v.tag)
 have R32:Hid ((v.root.map cellOf).length=32):=by unfold Hid; rw [List.length_map,hv.root]
 have T32:Hid ((v.tag.map cellOf).length=32):=by unfold Hid; rw [List.length_map,hv.tag]
 have IV:=Lib.hid (vinfo hv)
 have IL:=Lib.hid (vinfo hl)
 have I0:=Lib.hid (vinfo hno)
 have I3:=Lib.hid (vinfo h3o)
 have O0:=Lib.hid (cells_one nx)
 have K0:=Lib.hid (cells_length hno)
 have K1:=Lib.hid (cells_length h1o)
 have K2:=Lib.hid (cells_length h2o)
 have P1:=Lib.hid (put_root hno v.root hv.root)
 have P2:=Lib.hid (set_ep h1o v.ep)
 have P3:=Lib.hid (put_tag h2o v.tag hv.tag)
 have O1:=Lib.hid (cells_one { nx with root:=v.root })
 have e0:=fun W=>vers_eq hv h3o W
 obtain ⟨b3,hb3⟩:∃ b,b=decide (v={ nx with root:=v.root,ep:=v.ep,tag:=v.tag }):=⟨_,rfl⟩
 rw [<- hb3] at e0 HRS
 dsimp only at P2 P3
 unfold vval at *
 obtain ⟨N0,hN0⟩:∃ X,X=nx.cells:=⟨_,rfl⟩
 rw [<- hN0] at CN I0 O0 K0 P1
 obtain ⟨N1,hN1⟩:∃ X,X=({ nx with root:=v.root }:V).cells:=⟨_,rfl⟩
 rw [<- hN1] at P1 K1 P2 O1
 obtain ⟨N2,hN2⟩:∃ X,X=({ nx with root:=v.root,ep:=v.ep }:V).cells:=⟨_,rfl⟩
 rw [<- hN2] at P2 K2 P3
 obtain ⟨N3,hN3⟩:∃ X,X=({ nx with root:=v.root,ep:=v.ep,tag:=v.tag }:V).cells:=⟨_,rfl⟩
 rw [<- hN3] at P3 I3 e0
 obtain ⟨C,hC⟩:∃ C,C=last.cells:=⟨_,rfl⟩
 rw [<- hC] at CN EP IL ⊢
 have HC:=Lib.hid hC
 obtain ⟨D,hD⟩:∃ C,C=v.cells:=⟨_,rfl⟩
 rw [<- hD] at EV LRo LTg IV e0 ⊢
 have HD:=Lib.hid hD
 obtain ⟨R,hR⟩:∃ R,R=v.root.map cellOf:=⟨_,rfl⟩
 rw [<- hR] at LRo IR OR R32 P1
 obtain ⟨T,hT⟩:∃ R,R=v.tag.map cellOf:=⟨_,rfl⟩
 rw [<- hT] at LTg IT OT T32 P3
 obtain ⟨w1,hw1⟩:∃ w1,w1=(w.alloc (.cells C.toArray 30)).alloc (.cells D.toArray 30):=⟨_,rfl⟩
 have B1:Hid (Blk w1 w.heap.size 30 C):=by unfold Hid; rw [hw1]; exact (Blk.new w 30 C).alloc _
 have B2:Hid (Blk w1 (w.heap.size + 1) 30 D):=by unfold Hid; rw [hw1]; exact Blk.at_new _ _ 30 _ _ rfl (by simp)
 have W1:Hid (Below w.heap.size w w1):=by unfold Hid; rw [hw1]; exact ((Below.refl _ _).alloc (Nat.le_refl _) _).alloc (by simp) _
 have hs1:=B2.out.lt
 clear hl hv hg hnx hno h1o h2o h3o hres hb3 hN0 hN1 hN2 hN3 hC hD hR hT
 go_enter Tryd.func9,Tryd.ntmps9
 go_upto_region 1 with (fail)
 change Code.wp _ _ _ _ ((w.alloc (.cells C.toArray 30)).alloc (.cells D.toArray 30))
 rw [<- hw1]
 clear hw1
 have c0:w1.cell? ⟨w.heap.size + 1,0,none⟩=some (.int .i64 v.client):=by rw [B2.out.cell,HD.out]; rfl
 have c1:w1.cell? ⟨w.heap.size,67,none⟩=some (.int .i64 last.ep):=by rw [B1.out.cell,EP.out]
 have c2:w1.cell? ⟨w.heap.size + 1,67,none⟩=some (.int .i64 v.ep):=by rw [B2.out.cell,EV.out]
 obtain ⟨b1,hb1⟩:∃ b,isC v.client=b:=⟨_,rfl⟩
 obtain ⟨b2,hb2⟩:∃ b,epF last.ep v.ep=b:=⟨_,rfl⟩
 rw [hb1,hb2] at HRS
 rw [hb2] at CE
 cases b1 with
 | false =>
  obtain rfl:res=false:=HRS.out
  clear e0
  go_wp2_with (first
   | (go_at_call 21; refine (CC.out _ _).mono ?_; rintro e w2 ⟨rfl,rfl⟩)
   | (go_at_call 23; refine (CE.out _).mono ?_; rintro e w2 ⟨rfl,rfl⟩))
  go_ret
  exact ⟨rfl,W1.out⟩
 | true =>
  cases b2 with
  | false =>
   obtain rfl:res=false:=HRS.out
   clear e0
   go_wp2_with (first
    | (go_at_call 21; refine (CC.out _ _).mono ?_; rintro e w2 ⟨rfl,rfl⟩)
    | (go_at_call 23; refine (CE.out _).mono ?_; rintro e w2 ⟨rfl,rfl⟩))
   go_ret
   exact ⟨rfl,W1.out⟩
  | true =>
   obtain rfl:res=b3:=by rw [HRS.out]; simp
   clear hb2 HRS
   go_upto_region 4 with (first
    | (go_at_call 21; refine (CC.out _ _).mono ?_; rintro e w2 ⟨rfl,rfl⟩)
    | (go_at_call 23; refine (CE.out _).mono ?_; rintro e w2 ⟨rfl,rfl⟩)
    | (with_reducible refine load_law rfl 30 (.tmp 2) rfl w.heap.size 0 rfl C _ Tryd.underlying30 rfl IL.out B1.out.cells ?_)
    | (go_at_call 8; refine (CN.out _ (HG.out.below W1.out hsz)).mono ?_; rintro e w3 ⟨rfl,hX⟩; replace B2:=Lib.hid (B2.out.below hX hs1); have hs3:=hX.size; replace W1:=Lib.hid (W1.out.trans (hX.mono (by omega))); have BN:Hid (Blk (w3.alloc (.cells zero.cells.toArray 30)) w3.heap.size 30 zero.cells):=Blk.new w3 30 _; have WA:Hid (Below w3.heap.size w3 (w3.alloc (.cells zero.cells.toArray 30))):=alloc_below w3 _; clear hX c0 c1 c2 B1)
    | ((with_reducible refine storeGen_law rfl 30 (.tmp 5) (.tmp 21) rfl w3.heap.size rfl N0 rfl 30 zero.cells I0.out (by rw [K0.out]; exact cells_length zero_ok) O0.out w3.heap.size w3 ?_ ?_ (Nat.le_refl _) ?_); (exact BN.out); (exact WA.out); intro w4 B4 W4))
   have hs4:=B4.out.lt
   replace B2:=Lib.hid (B2.out.below W4.out (by omega))
   replace W1:=Lib.hid (W1.out.trans (W4.out.mono (by omega)))
   obtain ⟨q,hq⟩:∃ q,q=w3.heap.size:=⟨_,rfl⟩
   rw [<- hq] at B4 ⊢
   have hqw:w.heap.size + 1 < q:=by omega
   clear BN WA W4 hs4 CN CE CC hq hb1
   replace B2:=Lib.hid B2.out.drew
   replace B4:=Lib.hid B4.out.drew
   replace W1:=Lib.hid W1.out.drew
   refine wp_region_any (by kernel_rfl) ?_
   change wpAny _ _ _ _ _ _ _ (World.drew _)
   generalize w4.drew=wd at *
   simp only [Act.put]
   refine wpAny_take (i:=0) (oi:=?oi1) (v:=.pointer (some ⟨w.heap.size + 1,35,none⟩)) ?hi1 (by kernel_rfl) (by kernel_rfl) (by kernel_rfl) ?hQ1 ?hy1 ?rest1
   case hi1=>simp only [zge]; rfl
   case hQ1=>exact fun _ _ _ h=>h
   case hy1=>exact Or.inl ⟨by rfl,by intro w; go_simp⟩
   try simp only [zpt]
   refine wpAny_take (i:=2) (oi:=?oi2) (v:=.pointer (some ⟨w.heap.size + 1,67,none⟩)) ?hi2 (by kernel_rfl) (by kernel_rfl) (by kernel_rfl) ?hQ2 ?hy2 ?rest2
   case hi2=>simp only [zge]; rfl
   case hQ2=>exact fun _ _ _ h=>h
   case hy2=>exact Or.inl ⟨by rfl,by intro w; go_simp⟩
   try simp only [zpt]
   refine wpAny_take (i:=4) (oi:=?oi3) (v:=.pointer (some ⟨w.heap.size + 1,72,none⟩)) ?hi3 (by kernel_rfl) (by kernel_rfl) (by kernel_rfl) ?hQ3 ?hy3 ?rest3
   case hi3=>simp only [zge]; rfl
   case hQ3=>exact fun _ _ _ h=>h
   case hy3=>exact Or.inl ⟨by rfl,by intro w; go_simp⟩
   try simp only [zpt]
   refine phaseL (fun i=>if i=6 then [1] else if i=7 then [6,1] else if i=8 then [1,3,6,7] else if i=9 then [8,3,7,1,6] else if i=10 then [1,3,5,6,7,8,9] else if i=11 then [10,5,9,1,3,6,7,8] else []) (fun d a w'=>∃ x23 x25 x27 x28 x29 x30:Value,a={ tmps:=#[.agg C.toArray,.agg D.toArray,.pointer (some ⟨w.heap.size,0,none⟩),.pointer (some ⟨w.heap.size + 1,0,none⟩),.bool false,.pointer (some ⟨q,0,none⟩),.pointer (some ⟨w.heap.size + 1,0,none⟩),.int .i64 v.client,.bool true,.bool false,.bool false,.pointer (some ⟨w.heap.size,67,none⟩),.int .i64 last.ep,.pointer (some ⟨w.heap.size + 1,67,none⟩),.int .i64 v.ep,.bool true,.bool false,.bool false,.agg C.toArray,.pointer (some ⟨w.heap.size + 1,0,none⟩),.int .i64 v.client,.agg N0.toArray,.pointer (some ⟨w.heap.size + 1,35,none⟩),x23,.pointer (some ⟨w.heap.size + 1,67,none⟩),x25,.pointer (some ⟨w.heap.size + 1,72,none⟩),x27,x28,x29,x30,undef,undef,undef],defers:=[] }/\Hid (Below w.heap.size w w')/\(Hid (Blk w' (w.heap.size + 1) 30 D))/\(d 9=true->d 7=true)/\(d 11=true->d 9=true)/\(d 7=false->Hid (Blk w' q 30 N0))/\(d 7=true->d 9=false->Hid (Blk w' q 30 N1))/\(d 9=true->d 11=false->Hid (Blk w' q 30 N2))/\(d 11=true->Hid (Blk w' q 30 N3))/\(d 1=true->x23 = .agg R.toArray)/\(d 3=true->x25 = .int .i64 v.ep)/\(d 5=true->x27 = .agg T.toArray)/\(d 6=true->x28 = .pointer (some ⟨q,35,none⟩))/\(d 8=true->x29 = .pointer (some ⟨q,67,none⟩))/\(d 10=true->x30 = .pointer (some ⟨q,72,none⟩))) [1,3,5,6,7,8,9,10,11] ?step7 0 9 [1,3,5,6,7,8,9,10,11] _ _ _ rfl (by decide) (fun _ h=>h) (Fits.of (by kernel_rfl)) ?init7 ?fin7
   case init7=>refine ⟨_,_,_,_,_,_,rfl,W1,B2,(by intro h; exact absurd h (by decide)),(by intro h; exact absurd h (by decide)),fun _=>B4,(by intro h; exact absurd h (by decide)),(by intro h; exact absurd h (by decide)),(by intro h; exact absurd h (by decide)),?_,?_,?_,?_,?_,?_⟩ <;> (intro h; exact absurd h (by decide))
   case step7 =>
    intro i hi d a v7 hI hdi hdeps
    obtain ⟨x23,x25,x27,x28,x29,x30,rfl,BW,BV,r9,r11,q0,q1,q2,q3,h1,h3,h5,h6,h8,h10⟩:=hI
    have hsw:=BW.out.size
    simp only [List.mem_cons,List.not_mem_nil,or_false] at hi
    rcases hi with rfl | rfl | rfl | rfl | rfl | rfl | rfl | rfl | rfl
    ·refine wpOp_step (o:=?os8) ?hos8 (fun K hK=>?_)
     case hos8=>simp only [zge]; rfl
     refine step_loadW rfl 27 (.tmp 22) rfl (w.heap.size + 1) 35 rfl R _ Tryd.underlying27 rfl IR.out (BV.out.at_ LRo.out) (hK _ _ ?_)
     clear hK K
     try simp only [zpt]
     exact ⟨_,_,_,_,_,_,rfl,BW,BV,fun a=>by simpa using r9 (by simpa using a),fun a=>by simpa using r11 (by simpa using a),fun a=>q0 (by simpa using a),fun a b=>q1 (by simpa using a) (by simpa using b),fun a b=>q2 (by simpa using a) (by simpa using b),fun a=>q3 (by simpa using a),fun _=>rfl,fun a=>by first | exact h3 (by simpa using a) | rfl,fun a=>by first | exact h5 (by simpa using a) | rfl,fun a=>by first | exact h6 (by simpa using a) | rfl,fun a=>by first | exact h8 (by simpa using a) | rfl,fun a=>by first | exact h10 (by simpa using a) | rfl⟩
    ·have c0:v7.cell? ⟨w.heap.size + 1,67,none⟩=some (.int .i64 v.ep):=(BV.out.cell 67).trans EV.out
     refine wpOp_step (o:=?os9) ?hos9 (fun K hK=>?_)
     case hos9=>simp only [zge]; rfl
     go_simp
     refine hK _ _ ?_
     clear hK K
     try simp only [zpt]
     exact ⟨_,_,_,_,_,_,rfl,BW,BV,fun a=>by simpa using r9 (by simpa using a),fun a=>by simpa using r11 (by simpa using a),fun a=>q0 (by simpa using a),fun a b=>q1 (by simpa using a) (by simpa using b),fun a b=>q2 (by simpa using a) (by simpa using b),fun a=>q3 (by simpa using a),fun a=>by first | exact h1 (by simpa using a) | rfl,fun _=>rfl,fun a=>by first | exact h5 (by simpa using a) | rfl,fun a=>by first | exact h6 (by simpa using a) | rfl,fun a=>by first | exact h8 (by simpa using a) | rfl,fun a=>by first | exact h10 (by simpa using a) | rfl⟩
    ·refine wpOp_step (o:=?os10) ?hos10 (fun K hK=>?_)
     case hos10=>simp only [zge]; rfl
     refine step_loadW rfl 27 (.tmp 26) rfl (w.heap.size + 1) 72 rfl T _ Tryd.underlying27 rfl IT.out (BV.out.at_ LTg.out) (hK _ _ ?_)
     clear hK K
     try simp only [zpt]
     exact ⟨_,_,_,_,_,_,rfl,BW,BV,fun a=>by simpa using r9 (by simpa using a),fun a=>by simpa using r11 (by simpa using a),fun a=>q0 (by simpa using a),fun a b=>q1 (by simpa using a) (by simpa using b),fun a b=>q2 (by simpa using a) (by simpa using b),fun a=>q3 (by simpa using a),fun a=>by first | exact h1 (by simpa using a) | rfl,fun a=>by first | exact h3 (by simpa using a) | rfl,fun _=>rfl,fun a=>by first | exact h6 (by simpa using a) | rfl,fun a=>by first | exact h8 (by simpa using a) | rfl,fun a=>by first | exact h10 (by simpa using a) | rfl⟩
    ·refine wpOp_step (o:=?os11) ?hos11 (fun K hK=>?_)
     case hos11=>simp only [zge]; rfl
     go_simp
     refine hK _ _ ?_
     clear hK K
     try simp only [zpt]
     exact ⟨_,_,_,_,_,_,rfl,BW,BV,fun a=>by simpa using r9 (by simpa using a),fun a=>by simpa using r11 (by simpa using a),fun a=>q0 (by simpa using a),fun a b=>q1 (by simpa using a) (by simpa using b),fun a b=>q2 (by simpa using a) (by simpa using b),fun a=>q3 (by simpa using a),fun a=>by first | exact h1 (by simpa using a) | rfl,fun a=>by first | exact h3 (by simpa using a) | rfl,fun a=>by first | exact h5 (by simpa using a) | rfl,fun _=>rfl,fun a=>by first | exact h8 (by simpa using a) | rfl,fun a=>by first | exact h10 (by simpa using a) | rfl⟩
    ·obtain rfl:=h1 (hdeps 1 (by simp))
     obtain rfl:=h6 (hdeps 6 (by simp))
     have Q0:=q0 hdi
     have hS:Hid (Blk (v7.setRow q N1.toArray) q 30 N1):=Blk.row (cs':=N1) Q0.out
     refine wpOp_step (o:=?os4) ?hos4 (fun K hK=>?_)
     case hos4=>simp only [zge]; rfl
     refine step_storeP rfl 27 (.tmp 28) (.tmp 23) rfl q 35 rfl R rfl 30 N0 N1 Q0.out IR.out (by rw [R32.out,K0.out]; omega) OR.out P1.out (hK _ _ ?_)
     clear hK K
     try simp only [zpt]
     exact ⟨_,_,_,_,_,_,rfl,below_setRow BW.out (by omega) _,BV.out.rowFar (by omega) _,fun _=>by simp,fun a=>by simpa using r11 (by simpa using a),fun a=>absurd a (by simp),fun _ _=>hS,fun a _=>absurd (r9 (by simpa using a)) (by simp [hdi]),fun a=>absurd (r9 (r11 (by simpa using a))) (by simp [hdi]),fun a=>by first | exact h1 (by simpa using a) | rfl,fun a=>by first | exact h3 (by simpa using a) | rfl,fun a=>by first | exact h5 (by simpa using a) | rfl,fun a=>by first | exact h6 (by simpa using a) | rfl,fun a=>by first | exact h8 (by simpa using a) | rfl,fun a=>by first | exact h10 (by simpa using a) | rfl⟩
    ·refine wpOp_step (o:=?os12) ?hos12 (fun K hK=>?_)
     case hos12=>simp only [zge]; rfl
     go_simp
     refine hK _ _ ?_
     clear hK K
     try simp only [zpt]
     exact ⟨_,_,_,_,_,_,rfl,BW,BV,fun a=>by simpa using r9 (by simpa using a),fun a=>by simpa using r11 (by simpa using a),fun a=>q0 (by simpa using a),fun a b=>q1 (by simpa using a) (by simpa using b),fun a b=>q2 (by simpa using a) (by simpa using b),fun a=>q3 (by simpa using a),fun a=>by first | exact h1 (by simpa using a) | rfl,fun a=>by first | exact h3 (by simpa using a) | rfl,fun a=>by first | exact h5 (by simpa using a) | rfl,fun a=>by first | exact h6 (by simpa using a) | rfl,fun _=>rfl,fun a=>by first | exact h10 (by simpa using a) | rfl⟩
    ·obtain rfl:=h3 (hdeps 3 (by simp))
     obtain rfl:=h8 (hdeps 8 (by simp))
     have Q1:=q1 (hdeps 7 (by simp)) hdi
     have hS:Hid (Blk (v7.setCell ⟨q,67,none⟩ (.int .i64 v.ep)) q 30 N2):=by have:=Q1.out.set_ 67 (.int .i64 v.ep); rw [P2.out] at this; exact this
     have f0:v7.frozen? ⟨q,67,none⟩=false:=Q1.out.frozen _
     have hlt:67 < N1.length:=by rw [K1.out]; omega
     have c0:v7.cell? ⟨q,67,none⟩=N1[67]?:=Q1.out.cell _
     rw [List.getElem?_eq_getElem hlt] at c0
     obtain ⟨ov,hov⟩:∃ x,x=N1[67]:=⟨_,rfl⟩
     rw [<- hov] at c0
     have hov1:ov.oneCell'=true:=by rw [hov]; exact O1.out _ (List.getElem_mem _)
     clear hov hlt
     refine wpOp_step (o:=?os5) ?hos5 (fun K hK=>?_)
     case hos5=>simp only [zge]; rfl
     go_simp
     refine hK _ (v7.setCell ⟨q,67,none⟩ (.int .i64 v.ep)) ?_
     clear hK K
     try simp only [zpt]
     exact ⟨_,_,_,_,_,_,rfl,BW.out.setCell (by show w.heap.size<=q; omega) _,BV.out.far (p:=⟨q,67,none⟩) (by show w.heap.size + 1 ≠ q; omega) _,fun _=>by simp [hdeps 7 (by simp)],fun _=>by simp,fun a=>absurd a (by simp [hdeps 7 (by simp)]),fun _ a=>absurd a (by simp),fun _ _=>hS,fun a=>absurd (r11 (by simpa using a)) (by simp [hdi]),fun a=>by first | exact h1 (by simpa using a) | rfl,fun a=>by first | exact h3 (by simpa using a) | rfl,fun a=>by first | exact h5 (by simpa using a) | rfl,fun a=>by first | exact h6 (by simpa using a) | rfl,fun a=>by first | exact h8 (by simpa using a) | rfl,fun a=>by first | exact h10 (by simpa using a) | rfl⟩
    ·refine wpOp_step (o:=?os13) ?hos13 (fun K hK=>?_)
     case hos13=>simp only [zge]; rfl
     go_simp
     refine hK _ _ ?_
     clear hK K
     try simp only [zpt]
     exact ⟨_,_,_,_,_,_,rfl,BW,BV,fun a=>by simpa using r9 (by simpa using a),fun a=>by simpa using r11 (by simpa using a),fun a=>q0 (by simpa using a),fun a b=>q1 (by simpa using a) (by simpa using b),fun a b=>q2 (by simpa using a) (by simpa using b),fun a=>q3 (by simpa using a),fun a=>by first | exact h1 (by simpa using a) | rfl,fun a=>by first | exact h3 (by simpa using a) | rfl,fun a=>by first | exact h5 (by simpa using a) | rfl,fun a=>by first | exact h6 (by simpa using a) | rfl,fun a=>by first | exact h8 (by simpa using a) | rfl,fun _=>rfl⟩
    ·obtain rfl:=h5 (hdeps 5 (by simp))
     obtain rfl:=h10 (hdeps 10 (by simp))
     have Q2:=q2 (hdeps 9 (by simp)) hdi
     have hS:Hid (Blk (v7.setRow q N3.toArray) q 30 N3):=Blk.row (cs':=N3) Q2.out
     refine wpOp_step (o:=?os6) ?hos6 (fun K hK=>?_)
     case hos6=>simp only [zge]; rfl
     refine step_storeP rfl 27 (.tmp 30) (.tmp 27) rfl q 72 rfl T rfl 30 N2 N3 Q2.out IT.out (by rw [T32.out,K2.out]; omega) OT.out P3.out (hK _ _ ?_)
     clear hK K
     try simp only [zpt]
     exact ⟨_,_,_,_,_,_,rfl,below_setRow BW.out (by omega) _,BV.out.rowFar (by omega) _,fun a=>by simpa using r9 (by simpa using a),fun _=>by simp [hdeps 9 (by simp)],fun a=>absurd a (by simp [hdeps 7 (by simp)]),fun _ a=>absurd a (by simp [hdeps 9 (by simp)]),fun _ a=>absurd a (by simp),fun _=>hS,fun a=>by first | exact h1 (by simpa using a) | rfl,fun a=>by first | exact h3 (by simpa using a) | rfl,fun a=>by first | exact h5 (by simpa using a) | rfl,fun a=>by first | exact h6 (by simpa using a) | rfl,fun a=>by first | exact h8 (by simpa using a) | rfl,fun a=>by first | exact h10 (by simpa using a) | rfl⟩
   case fin7 =>
    intro a v7 hI
    obtain ⟨x23,x25,x27,x28,x29,x30,rfl,BW,BV,r9,r11,q0,q1,q2,q3,h1,h3,h5,h6,h8,h10⟩:=hI
    obtain rfl:=h1 (by decide)
    obtain rfl:=h3 (by decide)
    obtain rfl:=h5 (by decide)
    obtain rfl:=h6 (by decide)
    obtain rfl:=h8 (by decide)
    obtain rfl:=h10 (by decide)
    have B5:=q3 (by decide)
    have W5:=Lib.hid BW.out
    clear q0 q1 q2 q3 r9 r11 h1 h3 h5 h6 h8 h10 BW B2 B4 W1
    try dsimp only
    refine wpAny_done (by kernel_rfl) ?_ _
    go_wp2_with (first
     | (with_reducible refine load_law rfl 30 (.tmp 3) rfl (w.heap.size + 1) 0 rfl D _ Tryd.underlying30 rfl IV.out BV.out.cells ?_)
     | (with_reducible refine load_law rfl 30 (.tmp 5) rfl q 0 rfl N3 _ Tryd.underlying30 rfl I3.out B5.out.cells ?_))
    go_ret
    exact ⟨rfl,W5.out⟩
end Go.Proofs.YtajgjeialbgijaaDoor
