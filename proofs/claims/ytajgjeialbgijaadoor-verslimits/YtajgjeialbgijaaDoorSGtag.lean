import Derived.Test.YtajgjeialbgijaaDoorSPhase
import Derived.Test.YtajgjeialbgijaaDoorSGpol
namespace Go.Proofs.YtajgjeialbgijaaDoor
set_option linter.unusedVariables false
set_option linter.unusedSimpArgs false
set_option maxRecDepth 100000
open Go.RowKit
def sliceLen:Value->Nat
 | .slice _ n _=>n
 | _=>0
set_option maxRecDepth 100000 in
set_option maxHeartbeats 4000000 in
theorem ptag_any (key:List UInt8) {w:World} {A:Option Addr} {n c:Nat} {b:List UInt8} (hk:key.length=32) (hr:Rd w A n c b) :
  Calls Tryd.prog 80 #[.agg (key.map cellOf).toArray,.slice A n c] w fun e w'=>e = .returned (.agg ((Pol.tag key b).map cellOf).toArray)/\Below w.heap.size w w':=by
 obtain ⟨kc,hkc⟩:∃ c,c=key.map cellOf:=⟨_,rfl⟩
 rw [<- hkc]
 have HR:=Lib.hid hr
 have LK:=Lib.hid hk
 have HK:=Lib.hid hkc
 obtain ⟨k1,hk1⟩:∃ l,l=key.take 16:=⟨_,rfl⟩
 obtain ⟨k2,hk2⟩:∃ l,l=key.drop 16:=⟨_,rfl⟩
 have L1:Hid (k1.length=16):=by unfold Hid; rw [hk1,List.length_take,hk]; rfl
 have L2:Hid (k2.length=16):=by unfold Hid; rw [hk2,List.length_drop,hk]
 obtain ⟨cl,hcl⟩:∃ l,l=Pol.clamp k1:=⟨_,rfl⟩
 have LC:Hid (cl.length=16):=by unfold Hid; rw [hcl,Pol.clamp,clampTo_length,L1.out]
 obtain ⟨rc,hrc⟩:∃ c,c=k1.map cellOf:=⟨_,rfl⟩
 obtain ⟨dr,hdr⟩:∃ d,d=(Pol.digs (Pol.whole cl 0)).map wq:=⟨_,rfl⟩
 obtain ⟨ds,hds⟩:∃ d,d=(Pol.digs (Pol.whole k2 0)).map wq:=⟨_,rfl⟩
 have CC:Hid (∀ W:World,Calls Tryd.prog 93 #[.agg rc.toArray] W fun e w'=>e = .returned (.slice (some ⟨W.heap.size,0,none⟩) 16 16)/\Rd w' (some ⟨W.heap.size,0,none⟩) 16 16 cl/\Below W.heap.size W w'):=fun W=>by rw [hrc,hcl]; exact pclamped_any k1 W L1.out
 have CR:Hid (∀ (W:World) (g:Nat),Rd W (some ⟨g,0,none⟩) 16 16 cl->Calls Tryd.prog 92 #[.slice (some ⟨g,0,none⟩) 16 16,.int .u8 0] W fun e w'=>e = .returned (.agg dr.toArray)/\Below W.heap.size W w'):=fun W g h=>by rw [hdr]; exact pread_any 0 h (by omega)
 have CS:Hid (∀ (W:World) (g:Nat),Rd W (some ⟨g,16,none⟩) 16 16 k2->Calls Tryd.prog 92 #[.slice (some ⟨g,16,none⟩) 16 16,.int .u8 0] W fun e w'=>e = .returned (.agg ds.toArray)/\Below W.heap.size W w'):=fun W g h=>by rw [hds]; exact pread_any 0 h (by omega)
 have IDR:Hid ((Tryd.prog.info? 141).map (·.size)=some dr.length):=by unfold Hid; rw [hdr,List.length_map,Pol.digs_length]; exact info_num
 have IDS:Hid ((Tryd.prog.info? 141).map (·.size)=some ds.length):=by unfold Hid; rw [hds,List.length_map,Pol.digs_length]; exact info_num
 have LDR:Hid (zq.length=dr.length):=by unfold Hid; rw [hdr,List.length_map,Pol.digs_length]; rfl
 have LDS:Hid (zq.length=ds.length):=by unfold Hid; rw [hds,List.length_map,Pol.digs_length]; rfl
 have ODR:Hid (∀ v ∈ dr,v.oneCell'=true):=by unfold Hid; rw [hdr]; exact cells_wq _
 have ODS:Hid (∀ v ∈ ds,v.oneCell'=true):=by unfold Hid; rw [hds]; exact cells_wq _
 have IR:Hid ((Tryd.prog.info? 128).map (·.size)=some rc.length):=by unfold Hid; rw [hrc,List.length_map,L1.out]; kernel_rfl
 have CB:Hid (∀ (W:World),Blk W w.heap.size 26 kc->∀ j v,rc[j]?=some v->W.cell? ⟨w.heap.size,0 + j,none⟩=some v):=fun W hB j v hv=>by
  rw [Nat.zero_add,hB.cell,hkc,<- hv,hrc,hk1]
  have hj:j < 16:=by have:=(List.getElem?_eq_some_iff.1 hv).1; rw [hrc,List.length_map,L1.out] at this; exact this
  rw [List.map_take,List.getElem?_take,if_pos hj]
 have CT:Hid (∀ (W:World),Blk W w.heap.size 26 kc->Rd W (some ⟨w.heap.size,16,none⟩) 16 16 k2):=fun W hB=>Rd.of_block hB L2.out (Nat.le_refl _) (by unfold maxLen; omega) (fun j hj=>by
  rw [hkc,hk2]
  have hj2:16 + j < key.length:=by omega
  simp [List.getD_eq_getElem?_getD,List.getElem?_drop,List.getElem?_eq_getElem hj2])
 have H1:=Lib.hid hk1
 have H2:=Lib.hid hk2
 have HCL:=Lib.hid hcl
 have HRC:=Lib.hid hrc
 have HDR:=Lib.hid hdr
 have HDS:=Lib.hid hds
 clear hkc hk hr hk1 hk2 hcl hrc hdr hds
 go_enter Tryd.func80,Tryd.ntmps80
 go_upto_region 1 with (fail)
 obtain ⟨w0,hw0⟩:∃ w0,w0=(w.alloc (Obj.cells kc.toArray 26)).alloc (Obj.cells (List.replicate 16 (.int .u8 0)).toArray 128):=⟨_,rfl⟩
 obtain ⟨gk,hgk⟩:∃ g,g=w.heap.size:=⟨_,rfl⟩
 obtain ⟨gz,hgz⟩:∃ g,g=w.heap.size + 1:=⟨_,rfl⟩
 have B0:Hid (Blk w0 gk 26 kc):=by unfold Hid; rw [hw0,hgk]; exact (Blk.new w _ _).alloc _
 have Z0:Hid (Blk w0 gz 128 (List.replicate 16 (.int .u8 0))):=by unfold Hid; rw [hw0,hgz]; exact Blk.at_new _ _ _ _ _ rfl (by simp)
 have W0:Hid (Below w.heap.size w w0):=by unfold Hid; rw [hw0]; exact ((Below.refl _ _).alloc (Nat.le_refl _) _).alloc (by simp) _
 change Code.wp _ _ _ _ ((w.alloc (Obj.cells kc.toArray 26)).alloc (Obj.cells (List.replicate 16 (.int .u8 0)).toArray 128))
 rw [<- hw0,<- hgz,<- hgk]
 rw [<- hgk] at CB CT
 have hgkz:w.heap.size<=gk/\gk < gz:=by omega
 clear hw0 hgk hgz
 have hsl0:=fun W=>sliceAt_all 26 32 Tryd.underlying26 gk 0 W
 have hap:∀ W,(Instr.arrayAt 128 (.slice (some ⟨gk,0,none⟩) 32 32)).run Tryd.prog W = .ok (.pointer (some ⟨gk,0,none⟩)) W:=fun W=>by simp [Instr.arrayAt,run_underlying Tryd.underlying128]
 have hsl5:∀ W,(Instr.sliceAt 26 (.pointer (some ⟨gk,0,none⟩)) (some (.int .i64 16)) none none).run Tryd.prog W = .ok (.slice (some ⟨gk,16,none⟩) 16 16) W:=fun W=>sliceAt_l 26 32 Tryd.underlying26 gk 0 16 (by omega) W
 refine wp_region_any (by kernel_rfl) ?_
 change wpAny _ _ _ _ _ _ _ (World.drew _)
 have B1:Hid (Blk w0.drew gk 26 kc):=B0.out.drew
 have Z1:Hid (Blk w0.drew gz 128 (List.replicate 16 (.int .u8 0))):=Z0.out.drew
 have W1:Hid (Below w.heap.size w w0.drew):=W0.out.drew
 clear B0 Z0 W0
 generalize w0.drew=w1 at *
 refine wpAny_take (i:=0) (oi:=?oi1) (v:=.slice (some ⟨gk,0,none⟩) 32 32) ?hi1 (by kernel_rfl) (by kernel_rfl) (by kernel_rfl) ?hQ1 ?hy1 ?rest1
 case hi1=>simp only [zge]; rfl
 case hQ1=>exact fun _ _ _ h=>h
 case hy1=>exact Or.inl ⟨by rfl,by intro w; go_simp⟩
 try simp only [zpt]
 refine wpAny_take (i:=1) (oi:=?oi2) (v:=.pointer (some ⟨gk,0,none⟩)) ?hi2 (by kernel_rfl) (by kernel_rfl) (by kernel_rfl) ?hQ2 ?hy2 ?rest2
 case hi2=>simp only [zge]; rfl
 case hQ2=>exact fun _ _ _ h=>h
 case hy2=>exact Or.inl ⟨by rfl,by intro w; go_simp⟩
 try simp only [zpt]
 refine wpAny_take (i:=5) (oi:=?oi3) (v:=.slice (some ⟨gk,16,none⟩) 16 16) ?hi3 (by kernel_rfl) (by kernel_rfl) (by kernel_rfl) ?hQ3 ?hy3 ?rest3
 case hi3=>simp only [zge]; rfl
 case hQ3=>exact fun _ _ _ h=>h
 case hy3=>exact Or.inl ⟨by rfl,by intro w; go_simp⟩
 try simp only [zpt]
 refine phase (fun i=>if i=3 then [2] else if i=4 then [3] else []) (fun d a w'=>∃ x5 x6 x11 x12 x13 x15:Value,a={ tmps:=#[.agg kc.toArray,.slice A n c,.pointer (some ⟨gk,0,none⟩),undef,.pointer (some ⟨gz,0,none⟩),x5,x6,undef,undef,.slice (some ⟨gk,0,none⟩) 32 32,.pointer (some ⟨gk,0,none⟩),x11,x12,x13,.slice (some ⟨gk,16,none⟩) 16 16,x15,undef,undef,undef,undef,undef,undef,undef,undef,undef,undef,undef,undef,undef,undef,undef,undef,undef,undef,undef,undef,undef,undef,undef],defers:=[] }/\Hid (Below w1.heap.size w1 w')
  /\ (d 2=true->x11 = .agg rc.toArray)/\(d 3=true->Hid (∃ g,x12 = .slice (some ⟨g,0,none⟩) 16 16/\Rd w' (some ⟨g,0,none⟩) 16 16 cl))/\(d 4=true->x13 = .agg dr.toArray)/\(d 6=true->x15 = .agg ds.toArray)
  /\ (d 7=true->Hid (∃ g,x5 = .pointer (some ⟨g,0,none⟩)/\w1.heap.size<=g/\Blk w' g 141 zq))/\(d 8=true->Hid (∃ g,x6 = .pointer (some ⟨g,0,none⟩)/\w1.heap.size<=g/\Blk w' g 141 zq))/\(d 7=true->d 8=true->x5 ≠ x6)) [2,3,4,6,7,8] ?step1 2 6 [2,3,4,6,7,8] _ _ _ rfl (by decide) (fun _ h=>h) (by kernel_rfl) ?init1 ?fin1
 case init1 =>
  refine ⟨undef,undef,undef,undef,undef,undef,rfl,Below.refl _ _,?_,?_,?_,?_,?_,?_,?_⟩ <;> (intro h; exact absurd h (by decide))
 case step1 =>
  intro i hi d a w2 hI hdi hdeps
  obtain ⟨x5,x6,x11,x12,x13,x15,rfl,BW2,h2,h3,h4,h6,h7,h8,h78⟩:=hI
  have hs2:=BW2.out.size
  have hBk:Blk w2 gk 26 kc:=B1.out.below BW2.out B1.out.lt
  simp only [List.mem_cons,List.not_mem_nil,or_false] at hi
  have h3':∀ w3,Below w2.heap.size w2 w3->(d 3=true->Hid (∃ g,x12 = .slice (some ⟨g,0,none⟩) 16 16/\Rd w3 (some ⟨g,0,none⟩) 16 16 cl)):=fun w3 hX h=>by obtain ⟨g,e,hR⟩:=(h3 h).out; exact ⟨g,e,hR.below hX⟩
  have h7':∀ w3,Below w2.heap.size w2 w3->(d 7=true->Hid (∃ g,x5 = .pointer (some ⟨g,0,none⟩)/\w1.heap.size<=g/\Blk w3 g 141 zq)):=fun w3 hX h=>by obtain ⟨g,e,hg,hB⟩:=(h7 h).out; exact ⟨g,e,hg,hB.below hX hB.lt⟩
  have h8':∀ w3,Below w2.heap.size w2 w3->(d 8=true->Hid (∃ g,x6 = .pointer (some ⟨g,0,none⟩)/\w1.heap.size<=g/\Blk w3 g 141 zq)):=fun w3 hX h=>by obtain ⟨g,e,hg,hB⟩:=(h8 h).out; exact ⟨g,e,hg,hB.below hX hB.lt⟩
  have HBk:=Lib.hid hBk
  have H3':=Lib.hid h3'
  have H7':=Lib.hid h7'
  have H8':=Lib.hid h8'
  clear hBk h3' h7' h8'
  rcases hi with rfl | rfl | rfl | rfl | rfl | rfl
  ·refine wpOp_step (o:=?os4) ?hos4 (fun K hK=>?_)
   case hos4=>simp only [zge]; rfl
   refine step_loadL rfl 128 (.tmp 10) rfl gk 0 rfl rc _ Tryd.underlying128 rfl IR.out (fun j v hv=>CB.out w2 HBk.out j v hv) (hK _ _ ?_)
   clear hK K
   try simp only [zpt]
   exact ⟨x5,x6,.agg rc.toArray,x12,x13,x15,rfl,BW2,fun _=>rfl,fun h=>h3 (by simpa using h),fun h=>h4 (by simpa using h),fun h=>h6 (by simpa using h),fun h=>h7 (by simpa using h),fun h=>h8 (by simpa using h),fun h h'=>h78 (by simpa using h) (by simpa using h')⟩
  ·obtain rfl:=h2 (hdeps 2 (by simp))
   refine wpOp_step (o:=?os5) ?hos5 (fun K hK=>?_)
   case hos5=>simp only [zge]; rfl
   clear h2 h3 h7 h8
   go_simp
   refine (CC.out w2).mono ?_
   rintro e w3 ⟨rfl,hR,hX⟩
   refine hK _ _ ?_
   clear hK K
   try simp only [zpt]
   exact ⟨x5,x6,.agg rc.toArray,_,x13,x15,rfl,BW2.out.trans (hX.mono hs2),fun _=>rfl,fun _=>⟨_,rfl,hR⟩,fun h=>h4 (by simpa using h),fun h=>h6 (by simpa using h),fun h=>H7'.out w3 hX (by simpa using h),fun h=>H8'.out w3 hX (by simpa using h),fun h h'=>h78 (by simpa using h) (by simpa using h')⟩
  ·obtain ⟨g,rfl,hRg⟩:=(h3 (hdeps 3 (by simp))).out
   have HRg:=Lib.hid hRg
   refine wpOp_step (o:=?os6) ?hos6 (fun K hK=>?_)
   case hos6=>simp only [zge]; rfl
   clear h3 h7 h8 hRg
   go_simp
   refine (CR.out w2 g HRg.out).mono ?_
   rintro e w3 ⟨rfl,hX⟩
   refine hK _ _ ?_
   clear hK K
   try simp only [zpt]
   exact ⟨x5,x6,x11,_,_,x15,rfl,BW2.out.trans (hX.mono hs2),fun h=>h2 (by simpa using h),fun h=>H3'.out w3 hX (by simpa using h),fun _=>rfl,fun h=>h6 (by simpa using h),fun h=>H7'.out w3 hX (by simpa using h),fun h=>H8'.out w3 hX (by simpa using h),fun h h'=>h78 (by simpa using h) (by simpa using h')⟩
  ·refine wpOp_step (o:=?os7) ?hos7 (fun K hK=>?_)
   case hos7=>simp only [zge]; rfl
   clear h3 h7 h8
   go_simp
   refine (CS.out w2 gk (CT.out w2 HBk.out)).mono ?_
   rintro e w3 ⟨rfl,hX⟩
   refine hK _ _ ?_
   clear hK K
   try simp only [zpt]
   exact ⟨x5,x6,x11,x12,x13,_,rfl,BW2.out.trans (hX.mono hs2),fun h=>h2 (by simpa using h),fun h=>H3'.out w3 hX (by simpa using h),fun h=>h4 (by simpa using h),fun _=>rfl,fun h=>H7'.out w3 hX (by simpa using h),fun h=>H8'.out w3 hX (by simpa using h),fun h h'=>h78 (by simpa using h) (by simpa using h')⟩
  ·have h8e:=Lib.hid h8
   refine wpOp_step (o:=?os8) ?hos8 (fun K hK=>?_)
   case hos8=>simp only [zge]; rfl
   clear h3 h7 h8
   go_simp
   refine hK _ _ ?_
   clear hK K
   try simp only [zpt]
   have hX:Below w2.heap.size w2 (w2.alloc (Obj.cells zq.toArray 141)):=(Below.refl _ _).alloc (Nat.le_refl _) _
   refine ⟨_,x6,x11,x12,x13,x15,rfl,BW2.out.trans (hX.mono hs2),fun h=>h2 (by simpa using h),fun h=>H3'.out _ hX (by simpa using h),fun h=>h4 (by simpa using h),fun h=>h6 (by simpa using h),fun _=>⟨_,rfl,hs2,Blk.at_new _ _ _ _ _ (by rfl) rfl⟩,fun h=>H8'.out _ hX (by simpa using h),fun _ h'=>?_⟩
   obtain ⟨g,rfl,_,hB⟩:=(h8e.out (by simpa using h')).out
   intro e
   have hlt:=hB.lt
   simp only [Value.pointer.injEq,Option.some.injEq,Addr.mk.injEq,and_true] at e
   omega
  ·have h7e:=Lib.hid h7
   refine wpOp_step (o:=?os9) ?hos9 (fun K hK=>?_)
   case hos9=>simp only [zge]; rfl
   clear h3 h7 h8
   go_simp
   refine hK _ _ ?_
   clear hK K
   try simp only [zpt]
   have hX:Below w2.heap.size w2 (w2.alloc (Obj.cells zq.toArray 141)):=(Below.refl _ _).alloc (Nat.le_refl _) _
   refine ⟨x5,_,x11,x12,x13,x15,rfl,BW2.out.trans (hX.mono hs2),fun h=>h2 (by simpa using h),fun h=>H3'.out _ hX (by simpa using h),fun h=>h4 (by simpa using h),fun h=>h6 (by simpa using h),fun h=>H7'.out _ hX (by simpa using h),fun _=>⟨_,rfl,hs2,Blk.at_new _ _ _ _ _ (by rfl) rfl⟩,fun h _=>?_⟩
   obtain ⟨g,rfl,_,hB⟩:=(h7e.out (by simpa using h)).out
   intro e
   have hlt:=hB.lt
   simp only [Value.pointer.injEq,Option.some.injEq,Addr.mk.injEq,and_true] at e
   omega
 case fin1 =>
  intro a w2 hI
  obtain ⟨x5,x6,x11,x12,x13,x15,rfl,BW2,h2,h3,h4,h6,h7,h8,h78⟩:=hI
  have hne:=h78 (by decide) (by decide)
  obtain ⟨g5,rfl,hg5,hB5⟩:=(h7 (by decide)).out
  obtain ⟨g6,rfl,hg6,hB6⟩:=(h8 (by decide)).out
  obtain rfl:=h4 (by decide)
  obtain rfl:=h6 (by decide)
  have hne':g5 ≠ g6:=fun e=>hne (by rw [e])
  clear h2 h3 h4 h6 h7 h8 h78 hne
  dsimp only
  refine wpAny_ready (rs:=[9]) (by kernel_rfl) (by simp) ?_
  refine AllReady.cons (o:=?p1) ?q1 (fun K hK=>?_) AllReady.nil
  case q1=>simp only [zge]; rfl
  refine step_storeAll rfl 141 (.tmp 5) (.tmp 13) rfl g5 rfl dr rfl 141 zq hB5 IDR.out LDR.out ODR.out (hK _ _ ?_)
  clear hK K
  try simp only [zpt]
  refine wpAny_ready (rs:=[10]) (by kernel_rfl) (by simp) ?_
  refine AllReady.cons (o:=?p2) ?q2 (fun K hK=>?_) AllReady.nil
  case q2=>simp only [zge]; rfl
  refine step_storeAll rfl 141 (.tmp 6) (.tmp 15) rfl g6 rfl ds rfl 141 zq (hB6.rowFar (Ne.symm hne') _) IDS.out LDS.out ODS.out (hK _ _ ?_)
  clear hK K
  try simp only [zpt]
  refine wpAny_done (by kernel_rfl) ?_ _
  have D5:Hid (Blk ((w2.setRow g5 dr.toArray).setRow g6 ds.toArray) g5 141 dr):=(Blk.row hB5).rowFar hne' _
  have D6:Hid (Blk ((w2.setRow g5 dr.toArray).setRow g6 ds.toArray) g6 141 ds):=Blk.row (hB6.rowFar (Ne.symm hne') _)
  have W3:Hid (Below w.heap.size w ((w2.setRow g5 dr.toArray).setRow g6 ds.toArray)):=below_setRow (below_setRow (W1.out.trans (BW2.out.mono W1.out.size)) (Nat.le_trans W1.out.size hg5) _) (Nat.le_trans W1.out.size hg6) _
  have X3:Below w1.heap.size w1 ((w2.setRow g5 dr.toArray).setRow g6 ds.toArray):=below_setRow (below_setRow BW2.out hg5 _) hg6 _
  have Z3:=Lib.hid (Z1.out.below X3 Z1.out.lt)
  have hz5:gz < g5:=Nat.lt_of_lt_of_le Z1.out.lt hg5
  have hz6:gz < g6:=Nat.lt_of_lt_of_le Z1.out.lt hg6
  clear X3 Z1 B1 W1 BW2 hB5 hB6 hg5 hg6 hsl0 hsl5 hap CC CR CS
  generalize (w2.setRow g5 dr.toArray).setRow g6 ds.toArray=w3 at *
  go_upto_region 3 with (fail)
  obtain ⟨ga,hga⟩:∃ g,g=w3.heap.size:=⟨_,rfl⟩
  obtain ⟨w4,hw4⟩:∃ w4,w4=w3.alloc (Obj.cells zq.toArray 141):=⟨_,rfl⟩
  change Code.wp _ _ _ _ (w3.alloc (Obj.cells zq.toArray 141))
  have E5:Hid (Blk w4 g5 141 dr):=by unfold Hid; rw [hw4]; exact D5.out.alloc _
  have E6:Hid (Blk w4 g6 141 ds):=by unfold Hid; rw [hw4]; exact D6.out.alloc _
  have EZ:Hid (Blk w4 gz 128 (List.replicate 16 (Value.int .u8 0))):=by unfold Hid; rw [hw4]; exact Z3.out.alloc _
  have EA:Hid (Blk w4 ga 141 (([0,0,0,0,0]:List Int).map wq)):=by unfold Hid; rw [hw4]; exact Blk.at_new _ _ _ _ _ rfl hga
  have EW:Hid (Below w.heap.size w w4):=by unfold Hid; rw [hw4]; exact W3.out.alloc W3.out.size _
  have ha5:g5 < ga:=by rw [hga]; exact D5.out.lt
  have ha6:g6 < ga:=by rw [hga]; exact D6.out.lt
  have haz:gz < ga:=by rw [hga]; exact Z3.out.lt
  rw [<- hw4,<- hga]
  obtain ⟨r,hr⟩:∃ r,r=Pol.le cl:=⟨_,rfl⟩
  have HRR:=Lib.hid hr
  clear hw4 hga hr D5 D6 Z3 W3
  go_loopw [1] (fun s wr=>∃ (k:Nat) (A':Option Addr) (n' c':Nat) (acc:List Int),s = .slice A' n' c'/\Hid (n'=n - 16 * k)/\Hid (k<=Pol.count n)/\Hid (Rd w A' n' c' (b.drop (16 * k)))/\Hid (Pol.Set5 acc)/\Hid (Pol.val acc % Pol.p=Pol.steps r b k)
   /\ Hid (Blk wr ga 141 (acc.map wq))/\Hid (Blk wr g5 141 dr)/\Hid (Blk wr g6 141 ds)/\Hid (Blk wr gz 128 (List.replicate 16 (Value.int .u8 0)))/\Hid (Below w.heap.size w wr)) (fun s _=>sliceLen s)
  case atStart=>exact ⟨0,A,n,c,[0,0,0,0,0],rfl,by unfold Hid; omega,by unfold Hid; omega,HR,⟨rfl,by simp,by simp,by simp,by simp,by simp⟩,by unfold Hid; simp [Pol.val,Pol.steps],EA,E5,E6,EZ,EW⟩
  case round =>
   clear E5 E6 EZ EA EW
   obtain ⟨k,A',n',c',acc,rfl,HN',HKC,HRD,HS5,HVAL,BA,B5,B6,BZ,BW⟩:=hrel
   by_cases hn0:0 < n'
   ·have hgt:decide ((n':Int) > 0)=true:=by simp; omega
    obtain ⟨m,hm⟩:∃ m:Nat,m=min n' 16:=⟨_,rfl⟩
    have hmi:(if (16:Int) < (n':Int) then (16:Int) else (n':Int))=(m:Int):=by split <;> omega
    have hm1:m<=n':=by omega
    have hm2:m<=16:=by omega
    have hm0:0 < m:=by omega
    have HM:=Lib.hid hm
    clear hm
    go_upto_region 5 with (fail)
    clear hmi hgt
    have hln:=HRD.out.len
    have hcap:=HRD.out.cap
    obtain ⟨pl,hpl⟩:∃ l,l=(b.drop (16 * k)).take m:=⟨_,rfl⟩
    have HP16:Hid (pl=(b.drop (16 * k)).take 16):=by
     unfold Hid
     rw [hpl,List.take_eq_take_iff]
     have:=HM.out
     omega
    have LP:Hid (pl.length=m):=by unfold Hid; rw [hpl,List.length_take,hln]; omega
    have RP:Hid (∀ W,Rd W A' n' c' (b.drop (16 * k))->Rd W (cutA A' c' 0) m c' pl):=fun W h=>by
     have:=h.cut (k:=0) (e:=m) (by omega) (by omega)
     rw [List.drop_zero,Nat.sub_zero,Nat.sub_zero,<- hpl] at this
     exact this
    obtain ⟨D1,hD1⟩:∃ D,D=Pol.digs (Pol.whole pl 1):=⟨_,rfl⟩
    obtain ⟨S1,hS1⟩:∃ S,S=Pol.plusTo acc D1 5:=⟨_,rfl⟩
    obtain ⟨S2,hS2⟩:∃ S,S=Pol.tall S1 (Pol.digs (Pol.whole cl 0)) 5:=⟨_,rfl⟩
    obtain ⟨S3,hS3⟩:∃ S,S=Pol.settled S2:=⟨_,rfl⟩
    have hst:=Pol.step_of acc cl pl (Pol.steps r b k) HS5.out LC.out (by rw [LP.out]; exact hm2) (by rw [HVAL.out,Int.emod_eq_of_lt (Pol.steps_bound r b k).1 (Pol.steps_bound r b k).2])
    rw [<- hD1,<- hS1,<- hS2,<- hS3] at hst
    have LS1:S1.length=5:=by rw [hS1,plus_length]; exact HS5.out.len
    have LS2:S2.length=5:=by rw [hS2,tall_length]
    have HS3:=Lib.hid hst.1
    have HV3:Hid (Pol.val S3 % Pol.p=Pol.steps r b (k + 1)):=by
     unfold Hid
     rw [hst.2,Pol.steps,Pol.piece,<- HP16.out,<- HRR.out]
    obtain ⟨ac,hac⟩:∃ c,c=acc.map wq:=⟨_,rfl⟩
    obtain ⟨d1,hd1⟩:∃ c,c=D1.map wq:=⟨_,rfl⟩
    obtain ⟨s1,hs1⟩:∃ c,c=S1.map wq:=⟨_,rfl⟩
    obtain ⟨s2,hs2⟩:∃ c,c=S2.map wq:=⟨_,rfl⟩
    obtain ⟨s3,hs3⟩:∃ c,c=S3.map wq:=⟨_,rfl⟩
    have C4:Hid (∀ W,Rd W (cutA A' c' 0) m c' pl->Calls Tryd.prog 92 #[.slice (cutA A' c' 0) m c',.int .u8 1] W fun e w'=>e = .returned (.agg d1.toArray)/\Below W.heap.size W w'):=fun W h=>by rw [hd1,hD1]; exact pread_any 1 h hm2
    have C5:Hid (∀ W:World,Calls Tryd.prog 96 #[.agg ac.toArray,.agg d1.toArray] W fun e w'=>e = .returned (.agg s1.toArray)/\Below W.heap.size W w'):=fun W=>by rw [hac,hd1,hs1,hS1]; exact pplus_any acc D1 W HS5.out.len (by rw [hD1]; rfl)
    have C7:Hid (∀ W:World,Calls Tryd.prog 95 #[.agg s1.toArray,.agg dr.toArray] W fun e w'=>e = .returned (.agg s2.toArray)/\Below W.heap.size W w'):=fun W=>by rw [hs1,HDR.out,hs2,hS2]; exact ptimes_any S1 (Pol.digs (Pol.whole cl 0)) W LS1 rfl
    have C8:Hid (∀ W:World,Calls Tryd.prog 94 #[.agg s2.toArray] W fun e w'=>e = .returned (.agg s3.toArray)/\Below W.heap.size W w'):=fun W=>by rw [hs2,hs3,hS3]; exact psettled_any S2 W LS2
    have IAC:Hid ((Tryd.prog.info? 141).map (·.size)=some ac.length):=by unfold Hid; rw [hac,List.length_map,HS5.out.len]; exact info_num
    have IS3:Hid ((Tryd.prog.info? 141).map (·.size)=some s3.length):=by unfold Hid; rw [hs3,List.length_map,HS3.out.len]; exact info_num
    have LAS:Hid (ac.length=s3.length):=by unfold Hid; rw [hac,hs3,List.length_map,List.length_map,HS5.out.len,HS3.out.len]
    have OS3:Hid (∀ v ∈ s3,v.oneCell'=true):=by unfold Hid; rw [hs3]; exact cells_wq _
    rw [<- hac] at BA
    have HS3E:=Lib.hid hs3
    have hcut:=fun W=>slice_h A' n' c' m (by omega) W
    clear hst hpl hD1 hS1 hS2 hS3 hac hd1 hs1 hs2 hs3 LS1 LS2 hln
    refine wp_region_any (by kernel_rfl) ?_
    change wpAny _ _ _ _ _ _ _ (World.drew _)
    have DA:Hid (Blk wr.drew ga 141 ac):=BA.out.drew
    have D5:Hid (Blk wr.drew g5 141 dr):=B5.out.drew
    have D6:Hid (Blk wr.drew g6 141 ds):=B6.out.drew
    have DZ:Hid (Blk wr.drew gz 128 (List.replicate 16 (Value.int .u8 0))):=BZ.out.drew
    have DW:Hid (Below w.heap.size w wr.drew):=BW.out.drew
    clear BA B5 B6 BZ BW
    generalize wr.drew=w5 at *
    have DR:=Lib.hid (HRD.out.below DW.out)
    refine wpAny_take (i:=1) (oi:=?oi21) (v:=.slice A' n' c') ?hi21 (by kernel_rfl) (by kernel_rfl) (by kernel_rfl) ?hQ21 ?hy21 ?rest21
    case hi21=>simp only [zge]; rfl
    case hQ21=>exact fun _ _ _ h=>h
    case hy21=>exact Or.inl ⟨by rfl,by intro w; go_simp⟩
    try simp only [zpt]
    refine wpAny_take (i:=2) (oi:=?oi22) (v:=.int .i64 (m:Int)) ?hi22 (by kernel_rfl) (by kernel_rfl) (by kernel_rfl) ?hQ22 ?hy22 ?rest22
    case hi22=>simp only [zge]; rfl
    case hQ22=>exact fun _ _ _ h=>h
    case hy22=>exact Or.inl ⟨by rfl,by intro w; go_simp⟩
    try simp only [zpt]
    refine wpAny_take (i:=3) (oi:=?oi23) (v:=.slice (cutA A' c' 0) m c') ?hi23 (by kernel_rfl) (by kernel_rfl) (by kernel_rfl) ?hQ23 ?hy23 ?rest23
    case hi23=>simp only [zge]; rfl
    case hQ23=>exact fun _ _ _ h=>h
    case hy23=>exact Or.inl ⟨by rfl,by intro w; go_simp⟩
    try simp only [zpt]
    refine phase (fun i=>if i=5 then [0,4] else if i=7 then [5,6] else if i=8 then [7] else []) (fun d a w'=>∃ x22 x26 x27 x28 x29 x30:Value,a={ tmps:=#[.agg kc.toArray,.slice A' n' c',.pointer (some ⟨gk,0,none⟩),undef,.pointer (some ⟨gz,0,none⟩),.pointer (some ⟨g5,0,none⟩),.pointer (some ⟨g6,0,none⟩),.pointer (some ⟨ga,0,none⟩),.int .i64 (m:Int),.slice (some ⟨gk,0,none⟩) 32 32,.pointer (some ⟨gk,0,none⟩),x11,x12,.agg dr.toArray,.slice (some ⟨gk,16,none⟩) 16 16,.agg ds.toArray,.slice A' n' c',.int .i64 (n':Int),.bool true,.slice A' n' c',.int .i64 (n':Int),.int .i64 (m:Int),x22,.slice A' n' c',.int .i64 (m:Int),.slice (cutA A' c' 0) m c',x26,x27,x28,x29,x30,u31,u32,u33,undef,undef,undef,undef,undef],defers:=[] }/\Hid (Below w5.heap.size w5 w')
     /\ (d 0=true->x22 = .agg ac.toArray)/\(d 4=true->x26 = .agg d1.toArray)/\(d 5=true->x27 = .agg s1.toArray)/\(d 6=true->x28 = .agg dr.toArray)/\(d 7=true->x29 = .agg s2.toArray)/\(d 8=true->x30 = .agg s3.toArray)) [0,4,5,6,7,8] ?step5 1 6 [0,4,5,6,7,8] _ _ _ rfl (by decide) (fun _ h=>h) (by kernel_rfl) ?init5 ?fin5
    case init5 =>
     refine ⟨_,_,_,_,_,_,rfl,Below.refl _ _,?_,?_,?_,?_,?_,?_⟩ <;> (intro h; exact absurd h (by decide))
    case step5 =>
     intro i hi d a w6 hI hdi hdeps
     obtain ⟨x22,x26,x27,x28,x29,x30,rfl,BW6,h0,h4,h5,h6,h7,h8⟩:=hI
     have hs6:=BW6.out.size
     simp only [List.mem_cons,List.not_mem_nil,or_false] at hi
     rcases hi with rfl | rfl | rfl | rfl | rfl | rfl
     ·refine wpOp_step (o:=?os10) ?hos10 (fun K hK=>?_)
      case hos10=>simp only [zge]; rfl
      refine step_loadL rfl 141 (.tmp 7) rfl ga 0 rfl ac _ Tryd.underlying141 rfl IAC.out (DA.out.below BW6.out DA.out.lt).cells (hK _ _ ?_)
      clear hK K
      try simp only [zpt]
      exact ⟨_,x26,x27,x28,x29,x30,rfl,BW6,fun _=>rfl,fun h=>h4 (by simpa using h),fun h=>h5 (by simpa using h),fun h=>h6 (by simpa using h),fun h=>h7 (by simpa using h),fun h=>h8 (by simpa using h)⟩
     ·refine wpOp_step (o:=?os11) ?hos11 (fun K hK=>?_)
      case hos11=>simp only [zge]; rfl
      go_simp
      refine (C4.out w6 (RP.out w6 (DR.out.below BW6.out))).mono ?_
      rintro e w7 ⟨rfl,hX⟩
      refine hK _ _ ?_
      clear hK K
      try simp only [zpt]
      exact ⟨x22,_,x27,x28,x29,x30,rfl,BW6.out.trans (hX.mono hs6),fun h=>h0 (by simpa using h),fun _=>rfl,fun h=>h5 (by simpa using h),fun h=>h6 (by simpa using h),fun h=>h7 (by simpa using h),fun h=>h8 (by simpa using h)⟩
     ·obtain rfl:=h0 (hdeps 0 (by simp))
      obtain rfl:=h4 (hdeps 4 (by simp))
      refine wpOp_step (o:=?os12) ?hos12 (fun K hK=>?_)
      case hos12=>simp only [zge]; rfl
      go_simp
      refine (C5.out w6).mono ?_
      rintro e w7 ⟨rfl,hX⟩
      refine hK _ _ ?_
      clear hK K
      try simp only [zpt]
      exact ⟨_,_,_,x28,x29,x30,rfl,BW6.out.trans (hX.mono hs6),fun _=>rfl,fun _=>rfl,fun _=>rfl,fun h=>h6 (by simpa using h),fun h=>h7 (by simpa using h),fun h=>h8 (by simpa using h)⟩
     ·refine wpOp_step (o:=?os13) ?hos13 (fun K hK=>?_)
      case hos13=>simp only [zge]; rfl
      refine step_loadL rfl 141 (.tmp 5) rfl g5 0 rfl dr _ Tryd.underlying141 rfl IDR.out (D5.out.below BW6.out D5.out.lt).cells (hK _ _ ?_)
      clear hK K
      try simp only [zpt]
      exact ⟨x22,x26,x27,_,x29,x30,rfl,BW6,fun h=>h0 (by simpa using h),fun h=>h4 (by simpa using h),fun h=>h5 (by simpa using h),fun _=>rfl,fun h=>h7 (by simpa using h),fun h=>h8 (by simpa using h)⟩
     ·obtain rfl:=h5 (hdeps 5 (by simp))
      obtain rfl:=h6 (hdeps 6 (by simp))
      refine wpOp_step (o:=?os14) ?hos14 (fun K hK=>?_)
      case hos14=>simp only [zge]; rfl
      go_simp
      refine (C7.out w6).mono ?_
      rintro e w7 ⟨rfl,hX⟩
      refine hK _ _ ?_
      clear hK K
      try simp only [zpt]
      exact ⟨x22,x26,_,_,_,x30,rfl,BW6.out.trans (hX.mono hs6),fun h=>h0 (by simpa using h),fun h=>h4 (by simpa using h),fun _=>rfl,fun _=>rfl,fun _=>rfl,fun h=>h8 (by simpa using h)⟩
     ·obtain rfl:=h7 (hdeps 7 (by simp))
      refine wpOp_step (o:=?os15) ?hos15 (fun K hK=>?_)
      case hos15=>simp only [zge]; rfl
      go_simp
      refine (C8.out w6).mono ?_
      rintro e w7 ⟨rfl,hX⟩
      refine hK _ _ ?_
      clear hK K
      try simp only [zpt]
      exact ⟨x22,x26,x27,x28,_,_,rfl,BW6.out.trans (hX.mono hs6),fun h=>h0 (by simpa using h),fun h=>h4 (by simpa using h),fun h=>h5 (by simpa using h),fun h=>h6 (by simpa using h),fun _=>rfl,fun _=>rfl⟩
    case fin5 =>
     intro a w6 hI
     obtain ⟨x22,x26,x27,x28,x29,x30,rfl,BW6,h0,h4,h5,h6,h7,h8⟩:=hI
     obtain rfl:=h8 (by decide)
     clear h0 h4 h5 h6 h7 h8 C4 C5 C7 C8 hcut
     have FA:=DA.out.below BW6.out DA.out.lt
     have F5:=D5.out.below BW6.out D5.out.lt
     have F6:=D6.out.below BW6.out D6.out.lt
     have FZ:=DZ.out.below BW6.out DZ.out.lt
     have FW:=DW.out.trans (BW6.out.mono DW.out.size)
     dsimp only
     refine wpAny_ready (rs:=[9]) (by kernel_rfl) (by simp) ?_
     refine AllReady.cons (o:=?p5) ?q5 (fun K hK=>?_) AllReady.nil
     case q5=>simp only [zge]; rfl
     refine step_storeAll rfl 141 (.tmp 7) (.tmp 30) rfl ga rfl s3 rfl 141 ac FA IS3.out LAS.out OS3.out (hK _ _ ?_)
     clear hK K
     try simp only [zpt]
     refine wpAny_done (by kernel_rfl) ?_ _
     have GA:Hid (Blk (w6.setRow ga s3.toArray) ga 141 (S3.map wq)):=by unfold Hid; rw [<- HS3E.out]; exact Blk.row FA
     have G5:=Lib.hid (F5.rowFar (k:=ga) (by omega) s3.toArray)
     have G6:=Lib.hid (F6.rowFar (k:=ga) (by omega) s3.toArray)
     have GZ:=Lib.hid (FZ.rowFar (k:=ga) (by omega) s3.toArray)
     have GW:=Lib.hid (below_setRow FW (g:=ga) (by omega) s3.toArray)
     have hsl:=fun W=>slice_l A' n' c' m (by omega) W
     have GR:Hid (Rd w (cutA A' c' m) (n' - m) (c' - m) (b.drop (16 * (k + 1)))):=by
      unfold Hid
      have hc:=HRD.out.cut (k:=m) (e:=n') (by omega) (Nat.le_refl _)
      have hln:=HRD.out.len
      have e:((b.drop (16 * k)).drop m).take (n' - m)=b.drop (16 * (k + 1)):=by
       rw [List.take_of_length_le (by rw [List.length_drop,hln]; omega),List.drop_drop]
       have hm:=HM.out
       rw [List.length_drop] at hln
       by_cases h16:16<=n'
       ·rw [show 16 * k + m=16 * (k + 1) by omega]
       ·rw [List.drop_of_length_le (by omega),List.drop_of_length_le (by omega)]
      rw [e] at hc
      exact hc
     have GN:Hid (n' - m=n - 16 * (k + 1)):=by unfold Hid; have:=HN'.out; have:=HM.out; omega
     have GK:Hid (k + 1<=Pol.count n):=by unfold Hid Pol.count; have:=HN'.out; omega
     clear F5 F6 FZ FW FA
     generalize w6.setRow ga s3.toArray=w7 at *
     go_wp2_with fail
     go_roundw
     case rel=>exact ⟨k + 1,_,_,_,S3,rfl,GN,GK,GR,HS3,HV3,GA,G5,G6,GZ,GW⟩
     case measure=>simp [sliceLen]; omega
   ·have hgt:decide ((n':Int) > 0)=false:=by simp; omega
    go_upto_region 7 with (fail)
    clear hgt
    have hkc:k=Pol.count n:=by
     have h1:=HN'.out
     have h2:=HKC.out
     unfold Pol.count at h2 ⊢
     omega
    obtain ⟨A1,hA1⟩:∃ a,a=Pol.reduced acc:=⟨_,rfl⟩
    obtain ⟨A2,hA2⟩:∃ a,a=Pol.plusTo A1 (Pol.digs (Pol.whole k2 0)) 5:=⟨_,rfl⟩
    obtain ⟨T,hT⟩:∃ T,T=(Pol.bytesN 16 (Pol.val A2)).map cellOf:=⟨_,rfl⟩
    have hend:=Pol.end_of acc k2 (Pol.steps r b k) HS5.out L2.out HVAL.out
    rw [<- hA1,<- hA2] at hend
    have LA1:A1.length=5:=by rw [hA1,Pol.reduced,List.length_set]; exact HS5.out.len
    have HTAG:Hid (T=(Pol.tag key b).map cellOf):=by
     unfold Hid
     have hbl:b.length=n:=HR.out.len
     rw [hT,hend.2.2,Pol.tag,<- H1.out,<- H2.out,<- HCL.out,<- HRR.out,hbl,<- hkc]
    obtain ⟨ac,hac⟩:∃ c,c=acc.map wq:=⟨_,rfl⟩
    obtain ⟨a1,ha1⟩:∃ c,c=A1.map wq:=⟨_,rfl⟩
    obtain ⟨a2,ha2⟩:∃ c,c=A2.map wq:=⟨_,rfl⟩
    have C1:Hid (∀ W:World,Calls Tryd.prog 98 #[.agg ac.toArray] W fun e w'=>e = .returned (.agg a1.toArray)/\Below W.heap.size W w'):=fun W=>by rw [hac,ha1,hA1]; exact preduced_any acc W HS5.out.len
    have C3:Hid (∀ W:World,Calls Tryd.prog 96 #[.agg a1.toArray,.agg ds.toArray] W fun e w'=>e = .returned (.agg a2.toArray)/\Below W.heap.size W w'):=fun W=>by rw [ha1,HDS.out,ha2,hA2]; exact pplus_any A1 (Pol.digs (Pol.whole k2 0)) W LA1 rfl
    have C4:Hid (∀ W:World,Calls Tryd.prog 97 #[.agg a2.toArray] W fun e w'=>e = .returned (.agg T.toArray)/\Below W.heap.size W w'):=fun W=>by rw [ha2,hT]; exact plow_any A2 W hend.1 hend.2.1
    have IAC:Hid ((Tryd.prog.info? 141).map (·.size)=some ac.length):=by unfold Hid; rw [hac,List.length_map,HS5.out.len]; exact info_num
    have hTl:T.length=16:=by rw [hT,List.length_map,Pol.bytesN_length]
    have IT:Hid ((Tryd.prog.info? 128).map (·.size)=some T.length):=by unfold Hid; rw [hTl]; kernel_rfl
    have LT:Hid ((List.replicate 16 (Value.int .u8 0)).length=T.length):=by unfold Hid; rw [hTl]; rfl
    have OT:Hid (∀ v ∈ T,v.oneCell'=true):=by unfold Hid; rw [hT]; exact cells_u8 _
    rw [<- hac] at BA
    clear hend hkc hA1 hA2 hT hac ha1 ha2 hTl LA1
    refine wp_region_any (by kernel_rfl) ?_
    change wpAny _ _ _ _ _ _ _ (World.drew _)
    have DA:Hid (Blk wr.drew ga 141 ac):=BA.out.drew
    have D6:Hid (Blk wr.drew g6 141 ds):=B6.out.drew
    have DZ:Hid (Blk wr.drew gz 128 (List.replicate 16 (Value.int .u8 0))):=BZ.out.drew
    have DW:Hid (Below w.heap.size w wr.drew):=BW.out.drew
    clear BA B5 B6 BZ BW
    generalize wr.drew=w5 at *
    refine phase (fun i=>if i=1 then [0] else if i=3 then [1,2] else if i=4 then [3] else []) (fun d a w'=>∃ x34 x35 x36 x37 x38:Value,a={ tmps:=#[.agg kc.toArray,.slice A' n' c',.pointer (some ⟨gk,0,none⟩),undef,.pointer (some ⟨gz,0,none⟩),.pointer (some ⟨g5,0,none⟩),.pointer (some ⟨g6,0,none⟩),.pointer (some ⟨ga,0,none⟩),u8,.slice (some ⟨gk,0,none⟩) 32 32,.pointer (some ⟨gk,0,none⟩),x11,x12,.agg dr.toArray,.slice (some ⟨gk,16,none⟩) 16 16,.agg ds.toArray,.slice A' n' c',.int .i64 (n':Int),.bool false,u19,u20,u21,u22,u23,u24,u25,u26,u27,u28,u29,u30,u31,u32,u33,x34,x35,x36,x37,x38],defers:=[] }/\Hid (Below w5.heap.size w5 w')
     /\ (d 0=true->x34 = .agg ac.toArray)/\(d 1=true->x35 = .agg a1.toArray)/\(d 2=true->x36 = .agg ds.toArray)/\(d 3=true->x37 = .agg a2.toArray)/\(d 4=true->x38 = .agg T.toArray)) [0,1,2,3,4] ?step7 1 5 [0,1,2,3,4] _ _ _ rfl (by decide) (fun _ h=>h) (by kernel_rfl) ?init7 ?fin7
    case init7 =>
     refine ⟨_,_,_,_,_,rfl,Below.refl _ _,?_,?_,?_,?_,?_⟩ <;> (intro h; exact absurd h (by decide))
    case step7 =>
     intro i hi d a w6 hI hdi hdeps
     obtain ⟨x34,x35,x36,x37,x38,rfl,BW6,h0,h1,h2,h3,h4⟩:=hI
     have hs6:=BW6.out.size
     simp only [List.mem_cons,List.not_mem_nil,or_false] at hi
     rcases hi with rfl | rfl | rfl | rfl | rfl
     ·refine wpOp_step (o:=?os16) ?hos16 (fun K hK=>?_)
      case hos16=>simp only [zge]; rfl
      refine step_loadL rfl 141 (.tmp 7) rfl ga 0 rfl ac _ Tryd.underlying141 rfl IAC.out (DA.out.below BW6.out DA.out.lt).cells (hK _ _ ?_)
      clear hK K
      try simp only [zpt]
      exact ⟨_,x35,x36,x37,x38,rfl,BW6,fun _=>rfl,fun h=>h1 (by simpa using h),fun h=>h2 (by simpa using h),fun h=>h3 (by simpa using h),fun h=>h4 (by simpa using h)⟩
     ·obtain rfl:=h0 (hdeps 0 (by simp))
      refine wpOp_step (o:=?os17) ?hos17 (fun K hK=>?_)
      case hos17=>simp only [zge]; rfl
      go_simp
      refine (C1.out w6).mono ?_
      rintro e w7 ⟨rfl,hX⟩
      refine hK _ _ ?_
      clear hK K
      try simp only [zpt]
      exact ⟨_,_,x36,x37,x38,rfl,BW6.out.trans (hX.mono hs6),fun _=>rfl,fun _=>rfl,fun h=>h2 (by simpa using h),fun h=>h3 (by simpa using h),fun h=>h4 (by simpa using h)⟩
     ·refine wpOp_step (o:=?os18) ?hos18 (fun K hK=>?_)
      case hos18=>simp only [zge]; rfl
      refine step_loadL rfl 141 (.tmp 6) rfl g6 0 rfl ds _ Tryd.underlying141 rfl IDS.out (D6.out.below BW6.out D6.out.lt).cells (hK _ _ ?_)
      clear hK K
      try simp only [zpt]
      exact ⟨x34,x35,_,x37,x38,rfl,BW6,fun h=>h0 (by simpa using h),fun h=>h1 (by simpa using h),fun _=>rfl,fun h=>h3 (by simpa using h),fun h=>h4 (by simpa using h)⟩
     ·obtain rfl:=h1 (hdeps 1 (by simp))
      obtain rfl:=h2 (hdeps 2 (by simp))
      refine wpOp_step (o:=?os19) ?hos19 (fun K hK=>?_)
      case hos19=>simp only [zge]; rfl
      go_simp
      refine (C3.out w6).mono ?_
      rintro e w7 ⟨rfl,hX⟩
      refine hK _ _ ?_
      clear hK K
      try simp only [zpt]
      exact ⟨x34,_,_,_,x38,rfl,BW6.out.trans (hX.mono hs6),fun h=>h0 (by simpa using h),fun _=>rfl,fun _=>rfl,fun _=>rfl,fun h=>h4 (by simpa using h)⟩
     ·obtain rfl:=h3 (hdeps 3 (by simp))
      refine wpOp_step (o:=?os20) ?hos20 (fun K hK=>?_)
      case hos20=>simp only [zge]; rfl
      go_simp
      refine (C4.out w6).mono ?_
      rintro e w7 ⟨rfl,hX⟩
      refine hK _ _ ?_
      clear hK K
      try simp only [zpt]
      exact ⟨x34,x35,x36,_,_,rfl,BW6.out.trans (hX.mono hs6),fun h=>h0 (by simpa using h),fun h=>h1 (by simpa using h),fun h=>h2 (by simpa using h),fun _=>rfl,fun _=>rfl⟩
    case fin7 =>
     intro a w6 hI
     obtain ⟨x34,x35,x36,x37,x38,rfl,BW6,h0,h1,h2,h3,h4⟩:=hI
     obtain rfl:=h4 (by decide)
     clear h0 h1 h2 h3 h4 C1 C3 C4
     have FZ:=DZ.out.below BW6.out DZ.out.lt
     have FW:=DW.out.trans (BW6.out.mono DW.out.size)
     dsimp only
     refine wpAny_ready (rs:=[5]) (by kernel_rfl) (by simp) ?_
     refine AllReady.cons (o:=?p7) ?q7 (fun K hK=>?_) AllReady.nil
     case q7=>simp only [zge]; rfl
     refine step_storeAll rfl 128 (.tmp 4) (.tmp 38) rfl gz rfl T rfl 128 (List.replicate 16 (Value.int .u8 0)) FZ IT.out LT.out OT.out (hK _ _ ?_)
     clear hK K
     try simp only [zpt]
     refine wpAny_done (by kernel_rfl) ?_ _
     have GZ:Hid (Blk (w6.setRow gz T.toArray) gz 128 T):=Blk.row FZ
     have GW:=Lib.hid (below_setRow FW (g:=gz) (by omega) T.toArray)
     clear FZ FW
     generalize w6.setRow gz T.toArray=w7 at *
     go_wp2_with fail
     exact bodyPost_ret (results_cell_row rfl _ _ gz 128 T.toArray (0,0) _ rfl GZ.out Tryd.underlying128 rfl (by rw [IT.out]; simp)) rfl ⟨by rw [HTAG.out],GW.out⟩
end Go.Proofs.YtajgjeialbgijaaDoor
