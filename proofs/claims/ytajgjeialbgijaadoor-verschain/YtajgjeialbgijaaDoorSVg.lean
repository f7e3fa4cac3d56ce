import Derived.Test.YtajgjeialbgijaaDoorSBox
import Derived.Test.YtajgjeialbgijaaDoorSVh
namespace Go.Proofs.YtajgjeialbgijaaDoor
set_option linter.unusedVariables false
set_option linter.unusedSimpArgs false
set_option maxRecDepth 100000
open Go.RowKit Vs
theorem step_storeP {P:Program} {ops:Array Oper} {op:Oper} {a:Act} {w:World} {K:Act->World->Prop} {Q:Exit->Act->World->Prop} {E:Prop} (hgd:op.guard=none) (ty:TypeId) (x y:Operand) (ho:op.op = .store ty x y)
  (g off:Nat) (hx:a.eval x = .pointer (some ⟨g,off,none⟩)) (vs:List Value) (hy:a.eval y = .agg vs.toArray) (t:TypeId) (cs cs':List Value) (hb:Blk w g t cs) (hi:(P.info? ty).map (·.size)=some vs.length)
  (hfit:off + vs.length<=cs.length) (h1:∀ v ∈ vs,v.oneCell'=true) (he:cs.take off ++ vs ++ cs.drop (off + vs.length)=cs') (h:K (a.put op.dst undef) (w.setRow g cs'.toArray)):if Region.wanted op (yielded ops a.tmps)=true then op.wp P a w K Q else E:=by
 rw [if_pos (by simp [Region.wanted,hgd])]
 have hs:=run_storeVar_part (P:=P) w ty g off t cs vs hb hi hfit h1
 rw [he] at hs
 unfold Oper.wp execOp
 simp only [ho,hx,hy,Instr.storeAt,Instr.sureAddr,Sem.run_bind,Sem.run_pure,Result.andThen_ok,hs]
 exact h
theorem setRow_below (w:World) {B q:Nat} (h:B<=q) (c:Array Value):Below B w (w.setRow q c):=below_setRow (Below.refl B w) h c
theorem RetH.retM {P:BxP} (hB:BoxOk P) {w:World} {g:Nat} {st:Bx.St} {M:Nat->Prop} {out:List UInt8} (hp:P w g st M) {e:Ending} {w':World} (h:RetH w out e w'):RetM P w g M out st e w' :=
 ⟨M,h.1,hB.below hp h.2,Fr.of_below h.2,fun b hb=>.inl hb⟩
theorem signed_ok {v:V} (h:Ok v) {out:List UInt8} (ho:out.length=32):Ok { v with tag:=out }:=⟨h.prev,h.root,h.vec,ho,h.client,h.n,h.count,h.ep,h.each⟩
set_option maxRecDepth 100000 in
set_option maxHeartbeats 4000000 in
theorem vsign_gen {P:BxP} (hB:BoxOk P) {v:V} (h:Ok v) {w:World} {g:Nat} {st st':Bx.St} {M:Nat->Prop} {key out:List UInt8} (hg:Gl w) (hp:P w g st M) (hk:key.length=32) (hout:out.length=32)
  (HM:∀ (W:World) (A:Option Addr) (n c:Nat),Gl W->P W g st M->Rd W A n c (vbytes v)->Off M A n->n<=200->Calls Tryd.prog 25 #[.pointer (some ⟨g,0,none⟩),.agg (key.map cellOf).toArray,.slice A n c] W (RetM P W g M out st')) :
  Calls Tryd.prog 12 #[.pointer (some ⟨g,0,none⟩),.agg (key.map cellOf).toArray,vval v] w fun e w'=>∃ M',e = .returned (vval { v with tag:=out })/\P w' g st' M'/\Fr M w w'/\∀ b,M' b->M b ∨ w.heap.size<=b:=by
 have HV:=Lib.hid h
 have HG:=Lib.hid hg
 have hsz:=hg.size
 have HB:=Lib.hid hB
 have HP:=Lib.hid hp
 have HMl:Hid (∀ b,M b->b < w.heap.size):=fun b hb=>hB.lt hp hb
 have HMK:=Lib.hid HM
 have HBL:=Lib.hid (bytes_len h)
 have CB:=Lib.hid (fun W=>vbytes_any h W)
 have IV:=Lib.hid (vinfo h)
 have LV:=Lib.hid (cells_length h)
 have IK:=Lib.hid (hinfo hk)
 have IO:=Lib.hid (hinfo hout)
 have OO:=Lib.hid (cells_u8 out)
 have LO:Hid ((out.map cellOf).length=32):=by unfold Hid; rw [List.length_map,hout]
 have PT:=Lib.hid (put_tag h out hout)
 have h':=signed_ok h hout
 have IR:=Lib.hid (vinfo h')
 have OR:=Lib.hid (cells_one { v with tag:=out })
 have LR:Hid (zero.cells.length=({ v with tag:=out }:V).cells.length):=by unfold Hid; rw [cells_length h',cells_length zero_ok]
 unfold vval at *
 obtain ⟨R,hR⟩:∃ R,R=({ v with tag:=out }:V).cells:=⟨_,rfl⟩
 rw [<- hR] at PT IR OR LR ⊢
 obtain ⟨C,hC⟩:∃ C,C=v.cells:=⟨_,rfl⟩
 rw [<- hC] at CB IV LV PT ⊢
 obtain ⟨kc,hkc⟩:∃ c,c=key.map cellOf:=⟨_,rfl⟩
 rw [<- hkc] at IK ⊢
 replace HMK:Hid (∀ (W:World) (A:Option Addr) (n c:Nat),Gl W->P W g st M->Rd W A n c (vbytes v)->Off M A n->n<=200->Calls Tryd.prog 25 #[.pointer (some ⟨g,0,none⟩),.agg kc.toArray,.slice A n c] W (RetM P W g M out st')):=by rw [hkc]; exact HMK
 obtain ⟨D,hD⟩:∃ D,D=out.map cellOf:=⟨_,rfl⟩
 have HD:=Lib.hid hD
 rw [<- hD] at IO OO LO PT
 obtain ⟨Z,hZ⟩:∃ Z,Z=zero.cells:=⟨_,rfl⟩
 rw [<- hZ] at LR
 obtain ⟨w1,hw1⟩:∃ w1,w1=((w.alloc (.cells kc.toArray 27)).alloc (.cells C.toArray 30)).alloc (.cells zero.cells.toArray 30):=⟨_,rfl⟩
 have B1:Hid (Blk w1.drew w.heap.size 27 kc):=by unfold Hid; rw [hw1]; exact (((Blk.new w 27 kc).alloc _).alloc _).drew
 have B2:Hid (Blk w1.drew (w.heap.size + 1) 30 C):=by unfold Hid; rw [hw1]; exact ((Blk.at_new _ _ 30 _ _ rfl (by simp)).alloc _).drew
 have B3:Hid (Blk w1.drew (w.heap.size + 2) 30 Z):=by unfold Hid; rw [hw1,hZ]; exact (Blk.at_new _ _ 30 _ _ rfl (by simp)).drew
 have W1:Hid (Below w.heap.size w w1.drew):=by unfold Hid; rw [hw1]; exact ((((Below.refl _ _).alloc (Nat.le_refl _) _).alloc (by simp) _).alloc (by simp; omega) _).drew
 have hs1:=B3.out.lt
 clear h hg hB hp HM hR hC hkc hD hZ h' hk hout
 go_enter Tryd.func12,Tryd.ntmps12
 go_upto_region 1 with (fail)
 change Code.wp _ _ _ _ (((w.alloc (.cells kc.toArray 27)).alloc (.cells C.toArray 30)).alloc (.cells zero.cells.toArray 30))
 rw [<- hw1]
 clear hw1
 refine wp_region_any (by kernel_rfl) ?_
 change wpAny _ _ _ _ _ _ _ (World.drew _)
 generalize w1.drew=wd at *
 refine wpAny_take (i:=0) (oi:=?oi1) (v:=.pointer (some ⟨g,0,none⟩)) ?hi1 (by kernel_rfl) (by kernel_rfl) (by kernel_rfl) ?hQ1 ?hy1 ?rest1
 case hi1=>simp only [zge]; rfl
 case hQ1=>exact fun _ _ _ h=>h
 case hy1=>exact Or.inl ⟨by rfl,by intro w; go_simp⟩
 try simp only [zpt]
 refine phaseL (fun i=>if i=3 then [2] else []) (fun d a w'=>∃ x8 x9 x10:Value,a={ tmps:=#[.pointer (some ⟨g,0,none⟩),.agg kc.toArray,.agg C.toArray,undef,.pointer (some ⟨w.heap.size,0,none⟩),.pointer (some ⟨w.heap.size + 1,0,none⟩),.pointer (some ⟨w.heap.size + 2,0,none⟩),.pointer (some ⟨g,0,none⟩),x8,x9,x10,undef,undef,undef],defers:=[] }/\Hid (Below wd.heap.size wd w')/\(d 1=true->x8 = .agg kc.toArray)/\(d 2=true->x9 = .agg C.toArray)/\(d 3=true->Hid (Nw w' wd.heap.size x10 (vbytes v)))) [1,2,3] ?step2 3 3 [1,2,3] _ _ _ rfl (by decide) (fun _ h=>h) (Fits.of (by kernel_rfl)) ?init2 ?fin2
 case init2=>refine ⟨_,_,_,rfl,Below.refl _ _,?_,?_,?_⟩ <;> (intro h; exact absurd h (by decide))
 case step2 =>
  intro i hi d a v2 hI hdi hdeps
  obtain ⟨x8,x9,x10,rfl,BW,h1,h2,h3⟩:=hI
  have hsw:=BW.out.size
  simp only [List.mem_cons,List.not_mem_nil,or_false] at hi
  rcases hi with rfl | rfl | rfl
  ·refine wpOp_step (o:=?os3) ?hos3 (fun K hK=>?_)
   case hos3=>simp only [zge]; rfl
   refine step_loadW rfl 27 (.tmp 4) rfl w.heap.size 0 rfl kc _ Tryd.underlying27 rfl IK.out (B1.out.below BW.out B1.out.lt).cells (hK _ _ ?_)
   clear hK K
   try simp only [zpt]
   exact ⟨_,_,_,rfl,BW,fun _=>rfl,fun a=>by first | exact h2 (by simpa using a) | rfl,fun a=>h3 (by simpa using a)⟩
  ·refine wpOp_step (o:=?os4) ?hos4 (fun K hK=>?_)
   case hos4=>simp only [zge]; rfl
   refine step_loadW rfl 30 (.tmp 5) rfl (w.heap.size + 1) 0 rfl C _ Tryd.underlying30 rfl IV.out (B2.out.below BW.out B2.out.lt).cells (hK _ _ ?_)
   clear hK K
   try simp only [zpt]
   exact ⟨_,_,_,rfl,BW,fun a=>by first | exact h1 (by simpa using a) | rfl,fun _=>rfl,fun a=>h3 (by simpa using a)⟩
  ·obtain rfl:=h2 (hdeps 2 (by simp))
   refine wpOp_step (o:=?os5) ?hos5 (fun K hK=>?_)
   case hos5=>simp only [zge]; rfl
   go_simp
   refine (CB.out v2).mono ?_
   rintro e u2 ⟨x,rfl,hO,hX⟩
   refine hK _ _ ?_
   clear hK K
   try simp only [zpt]
   exact ⟨_,_,_,rfl,BW.out.trans (hX.mono hsw),fun a=>by first | exact h1 (by simpa using a) | rfl,fun a=>by first | exact h2 (by simpa using a) | rfl,fun _=>hO.nw hsw⟩
 case fin2 =>
  intro a v2 hI
  obtain ⟨x8,x9,x10,rfl,BW,h1,h2,h3⟩:=hI
  obtain rfl:=h1 (by decide)
  obtain rfl:=h2 (by decide)
  obtain ⟨A,c,rfl,hRd,hAp⟩:=(h3 (by decide)).out
  obtain ⟨m,hm⟩:∃ m,m=(vbytes v).length:=⟨_,rfl⟩
  rw [<- hm] at hRd hAp ⊢
  have W2:=Lib.hid (W1.out.trans (BW.out.mono W1.out.size))
  replace B2:=Lib.hid (B2.out.below BW.out B2.out.lt)
  replace B3:=Lib.hid (B3.out.below BW.out B3.out.lt)
  have hs2:=BW.out.size
  have hs0:=W1.out.size
  have P2:=Lib.hid (HB.out.below HP.out W2.out)
  have CM:=Lib.hid (HMK.out v2 A m c (HG.out.below W2.out hsz) P2.out hRd (fun y hy h0 hM=>by have h1:=HMl.out _ hM; have h2:=hAp y hy h0; omega) (by rw [hm]; exact HBL.out))
  clear hRd hAp hm BW W1 B1 h1 h2 h3 HP CB HMK P2
  try dsimp only
  refine wpAny_ready (rs:=[4]) (by kernel_rfl) (by simp) ?_
  refine AllReady.cons (o:=?p6) ?q6 (fun K hK=>?_) AllReady.nil
  case q6=>simp only [zge]; rfl
  go_simp
  refine CM.out.mono ?_
  rintro e w3 ⟨M',rfl,hP,hF,hM'⟩
  rw [<- HD.out]
  have hn1:¬ M (w.heap.size + 1):=fun h=>by have:=HMl.out _ h; omega
  have hn2:¬ M (w.heap.size + 2):=fun h=>by have:=HMl.out _ h; omega
  have F3:Hid (Fr M w w3):=(Fr.of_below W2.out).trans hF
  have P3:=Lib.hid hP
  have HM3:Hid (∀ b,M' b->M b ∨ w.heap.size + 3<=b):=fun b hb=>by
   rcases hM' b hb with h | h
   ·exact .inl h
   ·right; omega
  replace B2:=Lib.hid (hF.blk B2.out hn1)
  replace B3:=Lib.hid (hF.blk B3.out hn2)
  clear hP hF hM' CM W2
  refine hK _ _ ?_
  clear hK K
  try simp only [zpt]
  refine wpAny_take (i:=5) (oi:=?oi7) (v:=.pointer (some ⟨w.heap.size + 1,72,none⟩)) ?hi7 (by kernel_rfl) (by kernel_rfl) (by kernel_rfl) ?hQ7 ?hy7 ?rest7
  case hi7=>simp only [zge]; rfl
  case hQ7=>exact fun _ _ _ h=>h
  case hy7=>exact Or.inl ⟨by rfl,by intro w; go_simp⟩
  try simp only [zpt]
  refine wpAny_ready (rs:=[6]) (by kernel_rfl) (by simp) ?_
  refine AllReady.cons (o:=?p8) ?q8 (fun K hK=>?_) AllReady.nil
  case q8=>simp only [zge]; rfl
  refine step_storeP rfl 27 (.tmp 12) (.tmp 11) rfl (w.heap.size + 1) 72 rfl D rfl 30 C R B2.out IO.out (by rw [LO.out,LV.out]; omega) OO.out PT.out (hK _ _ ?_)
  clear hK K
  try simp only [zpt]
  have hq1:¬ M' (w.heap.size + 1):=fun h=>by
   rcases HM3.out _ h with h | h
   ·exact hn1 h
   ·omega
  have hq2:¬ M' (w.heap.size + 2):=fun h=>by
   rcases HM3.out _ h with h | h
   ·exact hn2 h
   ·omega
  have B5:=Lib.hid (Blk.row (cs':=R) B2.out)
  have B6:Hid (Blk (w3.setRow (w.heap.size + 1) R.toArray) (w.heap.size + 2) 30 Z):=B3.out.rowFar (by omega) _
  have P5:Hid (P (w3.setRow (w.heap.size + 1) R.toArray) g st' M'):=HB.out.keep P3.out (setRow_below w3 (Nat.le_refl _) _).size fun b hb=>setRow_other w3 _ _ _ (fun e=>by subst e; exact hq1 hb)
  have F5:Hid (Fr M w (w3.setRow (w.heap.size + 1) R.toArray)):=F3.out.cut (setRow_below w3 (Nat.le_succ _) _) (Nat.le_refl _)
  clear B2 B3 P3 F3
  generalize w3.setRow (w.heap.size + 1) R.toArray=w5 at *
  refine wpAny_done (by kernel_rfl) ?_ _
  go_wp2_with (first
   | (with_reducible refine load_law rfl 30 (.tmp 5) rfl (w.heap.size + 1) 0 rfl R _ Tryd.underlying30 rfl IR.out B5.out.cells ?_)
   | (with_reducible refine storeAll_law rfl 30 (.tmp 6) (.tmp 13) rfl (w.heap.size + 2) rfl R rfl 30 Z B6.out IR.out LR.out OR.out ?_))
  have B7:=Lib.hid (Blk.row (cs':=R) B6.out)
  have P7:Hid (P (w5.setRow (w.heap.size + 2) R.toArray) g st' M'):=HB.out.keep P5.out (setRow_below w5 (Nat.le_refl _) _).size fun b hb=>setRow_other w5 _ _ _ (fun e=>by subst e; exact hq2 hb)
  have F7:Hid (Fr M w (w5.setRow (w.heap.size + 2) R.toArray)):=F5.out.cut (setRow_below w5 (show w.heap.size<=w.heap.size + 2 by omega) _) (Nat.le_refl _)
  generalize w5.setRow (w.heap.size + 2) R.toArray=w7 at *
  exact bodyPost_ret (results_cell_row rfl _ _ (w.heap.size + 2) 30 R.toArray (0,0) _ rfl B7.out Tryd.underlying30 rfl (by rw [IR.out]; simp)) rfl ⟨M',rfl,P7.out,F7.out,fun b hb=>by rcases HM3.out b hb with h | h; exact .inl h; right; omega⟩
set_option maxRecDepth 100000 in
set_option maxHeartbeats 4000000 in
theorem vis_gen {P:BxP} (hB:BoxOk P) {v:V} (h:Ok v) {w:World} {g:Nat} {st:Bx.St} {M:Nat->Prop} {key:List UInt8} {res:Bool} (hg:Gl w) (hp:P w g st M) (hk:key.length=32)
  (HI:∀ (W:World) (A:Option Addr) (n c:Nat),Gl W->P W g st M->Rd W A n c (vbytes v)->n<=200->Calls Tryd.prog 30 #[.pointer (some ⟨g,0,none⟩),.agg (key.map cellOf).toArray,.slice A n c,.agg (v.tag.map cellOf).toArray] W fun e w'=>e = .returned (.bool res)/\Below W.heap.size W w') :
  Calls Tryd.prog 15 #[.pointer (some ⟨g,0,none⟩),.agg (key.map cellOf).toArray,vval v] w fun e w'=>e = .returned (.bool res)/\Below w.heap.size w w':=by
 have HV:=Lib.hid h
 have HG:=Lib.hid hg
 have hsz:=hg.size
 have HB:=Lib.hid hB
 have HP:=Lib.hid hp
 have HBL:=Lib.hid (bytes_len h)
 have CB:=Lib.hid (fun W=>vbytes_any h W)
 have IV:=Lib.hid (vinfo h)
 have IK:=Lib.hid (hinfo hk)
 have IT:=Lib.hid (hinfo h.tag)
 have LT:=Lib.hid (lay_tag h)
 unfold vval at *
 obtain ⟨C,hC⟩:∃ C,C=v.cells:=⟨_,rfl⟩
 rw [<- hC] at CB IV LT ⊢
 obtain ⟨T,hT⟩:∃ T,T=v.tag.map cellOf:=⟨_,rfl⟩
 rw [<- hT] at IT LT
 obtain ⟨kc,hkc⟩:∃ c,c=key.map cellOf:=⟨_,rfl⟩
 have HIS:Hid (∀ (W:World) (A:Option Addr) (n c:Nat),Gl W->P W g st M->Rd W A n c (vbytes v)->n<=200->Calls Tryd.prog 30 #[.pointer (some ⟨g,0,none⟩),.agg kc.toArray,.slice A n c,.agg T.toArray] W fun e w'=>e = .returned (.bool res)/\Below W.heap.size W w'):=by rw [hkc,hT]; exact HI
 rw [<- hkc] at IK ⊢
 obtain ⟨w1,hw1⟩:∃ w1,w1=(w.alloc (.cells kc.toArray 27)).alloc (.cells C.toArray 30):=⟨_,rfl⟩
 have B1:Hid (Blk w1.drew w.heap.size 27 kc):=by unfold Hid; rw [hw1]; exact ((Blk.new w 27 kc).alloc _).drew
 have B2:Hid (Blk w1.drew (w.heap.size + 1) 30 C):=by unfold Hid; rw [hw1]; exact (Blk.at_new _ _ 30 _ _ rfl (by simp)).drew
 have W1:Hid (Below w.heap.size w w1.drew):=by unfold Hid; rw [hw1]; exact (((Below.refl _ _).alloc (Nat.le_refl _) _).alloc (by simp) _).drew
 clear h hg hB hp HI hC hT hkc hk
 go_enter Tryd.func15,Tryd.ntmps15
 go_upto_region 1 with (fail)
 change Code.wp _ _ _ _ ((w.alloc (.cells kc.toArray 27)).alloc (.cells C.toArray 30))
 rw [<- hw1]
 clear hw1
 refine wp_region_any (by kernel_rfl) ?_
 change wpAny _ _ _ _ _ _ _ (World.drew _)
 generalize w1.drew=wd at *
 refine wpAny_take (i:=0) (oi:=?oi9) (v:=.pointer (some ⟨g,0,none⟩)) ?hi9 (by kernel_rfl) (by kernel_rfl) (by kernel_rfl) ?hQ9 ?hy9 ?rest9
 case hi9=>simp only [zge]; rfl
 case hQ9=>exact fun _ _ _ h=>h
 case hy9=>exact Or.inl ⟨by rfl,by intro w; go_simp⟩
 try simp only [zpt]
 refine wpAny_take (i:=4) (oi:=?oi10) (v:=.pointer (some ⟨w.heap.size + 1,72,none⟩)) ?hi10 (by kernel_rfl) (by kernel_rfl) (by kernel_rfl) ?hQ10 ?hy10 ?rest10
 case hi10=>simp only [zge]; rfl
 case hQ10=>exact fun _ _ _ h=>h
 case hy10=>exact Or.inl ⟨by rfl,by intro w; go_simp⟩
 try simp only [zpt]
 refine phaseL (fun i=>if i=3 then [2] else []) (fun d a w'=>∃ x8 x9 x10 x12:Value,a={ tmps:=#[.pointer (some ⟨g,0,none⟩),.agg kc.toArray,.agg C.toArray,undef,.pointer (some ⟨w.heap.size,0,none⟩),.pointer (some ⟨w.heap.size + 1,0,none⟩),.bool false,.pointer (some ⟨g,0,none⟩),x8,x9,x10,.pointer (some ⟨w.heap.size + 1,72,none⟩),x12,undef],defers:=[] }/\Hid (Below wd.heap.size wd w')/\(d 1=true->x8 = .agg kc.toArray)/\(d 2=true->x9 = .agg C.toArray)/\(d 3=true->Hid (Nw w' wd.heap.size x10 (vbytes v)))/\(d 5=true->x12 = .agg T.toArray)) [1,2,3,5] ?step11 2 4 [1,2,3,5] _ _ _ rfl (by decide) (fun _ h=>h) (Fits.of (by kernel_rfl)) ?init11 ?fin11
 case init11=>refine ⟨_,_,_,_,rfl,Below.refl _ _,?_,?_,?_,?_⟩ <;> (intro h; exact absurd h (by decide))
 case step11 =>
  intro i hi d a v11 hI hdi hdeps
  obtain ⟨x8,x9,x10,x12,rfl,BW,h1,h2,h3,h5⟩:=hI
  have hsw:=BW.out.size
  simp only [List.mem_cons,List.not_mem_nil,or_false] at hi
  rcases hi with rfl | rfl | rfl | rfl
  ·refine wpOp_step (o:=?os12) ?hos12 (fun K hK=>?_)
   case hos12=>simp only [zge]; rfl
   refine step_loadW rfl 27 (.tmp 4) rfl w.heap.size 0 rfl kc _ Tryd.underlying27 rfl IK.out (B1.out.below BW.out B1.out.lt).cells (hK _ _ ?_)
   clear hK K
   try simp only [zpt]
   exact ⟨_,_,_,_,rfl,BW,fun _=>rfl,fun a=>by first | exact h2 (by simpa using a) | rfl,fun a=>h3 (by simpa using a),fun a=>by first | exact h5 (by simpa using a) | rfl⟩
  ·refine wpOp_step (o:=?os13) ?hos13 (fun K hK=>?_)
   case hos13=>simp only [zge]; rfl
   refine step_loadW rfl 30 (.tmp 5) rfl (w.heap.size + 1) 0 rfl C _ Tryd.underlying30 rfl IV.out (B2.out.below BW.out B2.out.lt).cells (hK _ _ ?_)
   clear hK K
   try simp only [zpt]
   exact ⟨_,_,_,_,rfl,BW,fun a=>by first | exact h1 (by simpa using a) | rfl,fun _=>rfl,fun a=>h3 (by simpa using a),fun a=>by first | exact h5 (by simpa using a) | rfl⟩
  ·obtain rfl:=h2 (hdeps 2 (by simp))
   refine wpOp_step (o:=?os14) ?hos14 (fun K hK=>?_)
   case hos14=>simp only [zge]; rfl
   go_simp
   refine (CB.out v11).mono ?_
   rintro e u11 ⟨x,rfl,hO,hX⟩
   refine hK _ _ ?_
   clear hK K
   try simp only [zpt]
   exact ⟨_,_,_,_,rfl,BW.out.trans (hX.mono hsw),fun a=>by first | exact h1 (by simpa using a) | rfl,fun a=>by first | exact h2 (by simpa using a) | rfl,fun _=>hO.nw hsw,fun a=>by first | exact h5 (by simpa using a) | rfl⟩
  ·refine wpOp_step (o:=?os15) ?hos15 (fun K hK=>?_)
   case hos15=>simp only [zge]; rfl
   refine step_loadW rfl 27 (.tmp 11) rfl (w.heap.size + 1) 72 rfl T _ Tryd.underlying27 rfl IT.out ((B2.out.below BW.out B2.out.lt).at_ LT.out) (hK _ _ ?_)
   clear hK K
   try simp only [zpt]
   exact ⟨_,_,_,_,rfl,BW,fun a=>by first | exact h1 (by simpa using a) | rfl,fun a=>by first | exact h2 (by simpa using a) | rfl,fun a=>h3 (by simpa using a),fun _=>rfl⟩
 case fin11 =>
  intro a v11 hI
  obtain ⟨x8,x9,x10,x12,rfl,BW,h1,h2,h3,h5⟩:=hI
  obtain rfl:=h1 (by decide)
  obtain rfl:=h2 (by decide)
  obtain rfl:=h5 (by decide)
  obtain ⟨A,c,rfl,hRd,hAp⟩:=(h3 (by decide)).out
  obtain ⟨m,hm⟩:∃ m,m=(vbytes v).length:=⟨_,rfl⟩
  rw [<- hm] at hRd ⊢
  have W2:=Lib.hid (W1.out.trans (BW.out.mono W1.out.size))
  have P2:=Lib.hid (HB.out.below HP.out W2.out)
  have CI:=Lib.hid (HIS.out v11 A m c (HG.out.below W2.out hsz) P2.out hRd (by rw [hm]; exact HBL.out))
  clear hRd hAp hm BW W1 B1 B2 h1 h2 h3 h5 HP CB HIS P2
  try dsimp only
  refine wpAny_ready (rs:=[6]) (by kernel_rfl) (by simp) ?_
  refine AllReady.cons (o:=?p16) ?q16 (fun K hK=>?_) AllReady.nil
  case q16=>simp only [zge]; rfl
  go_simp
  refine CI.out.mono ?_
  rintro e w3 ⟨rfl,hX⟩
  have W3:=Lib.hid (W2.out.trans (hX.mono W2.out.size))
  clear hX CI W2
  refine hK _ _ ?_
  clear hK K
  try simp only [zpt]
  refine wpAny_take (i:=7) (oi:=?oi17) (v:=.bool res) ?hi17 (by kernel_rfl) (by kernel_rfl) (by kernel_rfl) ?hQ17 ?hy17 ?rest17
  case hi17=>simp only [zge]; rfl
  case hQ17=>exact fun _ _ _ h=>h
  case hy17=>exact Or.inl ⟨by rfl,by intro w; go_simp⟩
  try simp only [zpt]
  refine wpAny_done (by kernel_rfl) ?_ _
  go_wp2_with fail
  go_ret
  exact ⟨rfl,W3.out⟩
theorem vsign_real {P:BxP} (hB:BoxOk P) {v:V} (h:Ok v) {w:World} {g:Nat} {M:Nat->Prop} {key:List UInt8} (hg:Gl w) (hp:P w g .real M) (hk:key.length=32) :
  Calls Tryd.prog 12 #[.pointer (some ⟨g,0,none⟩),.agg (key.map cellOf).toArray,vval v] w fun e w'=>∃ M',e = .returned (vval { v with tag:=Sha.hmac key (vbytes v) })/\P w' g .real M'/\Fr M w w'/\∀ b,M' b->M b ∨ w.heap.size<=b :=
 vsign_gen hB h hg hp hk (Sha.hmac_length _ _) fun W A n c h1 h2 h3 h4 h5=>(hB.mkR key h1 h2 hk h3 (by omega)).mono fun e w' h'=>RetH.retM hB h2 h'
theorem vsign_ideal {P:BxP} (hB:BoxOk P) {v:V} (h:Ok v) {w:World} {g:Nat} {M:Nat->Prop} {s:Int} {a:Nat} {S:List Bx.SNote} {B L:List Bx.BNote} {key:List UInt8} (hg:Gl w) (hM:∀ b,M b->2<=b) (hp:P w g (.ideal s a S B L) M) (ha:a<=900000) (hk:key.length=32) :
  Calls Tryd.prog 12 #[.pointer (some ⟨g,0,none⟩),.agg (key.map cellOf).toArray,vval v] w fun e w'=>∃ M',e = .returned (vval { v with tag:=Bx.bookOut s a key (vbytes v) B })/\P w' g (.ideal s (Bx.bookAt a key (vbytes v) B) S (Bx.bookNext s a key (vbytes v) B) L) M'/\Fr M w w'/\∀ b,M' b->M b ∨ w.heap.size<=b :=
 vsign_gen hB h hg hp hk (Bx.bookOut_length _ _ _ _ _ (hB.good hp).1) fun W A n c h1 h2 h3 h4 h5=>hB.mkI key h1 hM h2 ha hk h3 h4 (by omega)
theorem vis_real {P:BxP} (hB:BoxOk P) {v:V} (h:Ok v) {w:World} {g:Nat} {M:Nat->Prop} {key:List UInt8} (hg:Gl w) (hp:P w g .real M) (hk:key.length=32) :
  Calls Tryd.prog 15 #[.pointer (some ⟨g,0,none⟩),.agg (key.map cellOf).toArray,vval v] w fun e w'=>e = .returned (.bool (decide (Sha.hmac key (vbytes v)=v.tag)))/\Below w.heap.size w w' :=
 vis_gen hB h hg hp hk fun W A n c h1 h2 h3 h5=>hB.isR key v.tag h1 h2 hk h.tag h3 (by omega)
theorem vis_ideal {P:BxP} (hB:BoxOk P) {v:V} (h:Ok v) {w:World} {g:Nat} {M:Nat->Prop} {s:Int} {a:Nat} {S:List Bx.SNote} {B L:List Bx.BNote} {key:List UInt8} (hg:Gl w) (hp:P w g (.ideal s a S B L) M) (hk:key.length=32) :
  Calls Tryd.prog 15 #[.pointer (some ⟨g,0,none⟩),.agg (key.map cellOf).toArray,vval v] w fun e w'=>e = .returned (.bool (decide (Bx.lookB key (vbytes v) B=some v.tag)))/\Below w.heap.size w w' :=
 vis_gen hB h hg hp hk fun W A n c h1 h2 h3 h5=>hB.isI key v.tag h1 h2 hk h.tag h3 (by omega)
end Go.Proofs.YtajgjeialbgijaaDoor
