import Derived.Test.YtajgjeialbgijaaDoorSBox
import Derived.Test.YtajgjeialbgijaaDoorSVk
namespace Go.Proofs.YtajgjeialbgijaaDoor
set_option linter.unusedVariables false
set_option linter.unusedSimpArgs false
set_option maxRecDepth 100000
open Go.RowKit Vs
theorem built_of {P:Program} {t:TypeId} {ps qs:List (Nat × Value)} {r:Array Value} (h:P.built t qs=some r) (e:ps=qs):P.built t ps=some r:=by rw [e]; exact h
theorem build_when {P:Program} {ops:Array Oper} {rest:List Oper} {o:Oper} {a:Act} {w:World} {Q:Exit->Act->World->Prop} (hgd:Region.wanted o (yielded ops a.tmps)=true) (t:TypeId) (parts:Array (Nat × Operand)) (ho:o.op = .build t parts) (vs:List Value)
  (hb:P.built t (parts.map fun (i,x)=>(i,a.eval x)).toList=some vs.toArray) (hk:wpList P ops Q rest (a.put o.dst (.agg vs.toArray)) w):wpList P ops Q (o :: rest) a w :=
 wpList_step fun K hK=>step_build hgd t parts ho vs hb (hK _ _ hk)
theorem key1_built (x:UInt8):Tryd.prog.built 27 [(0,.int .u8 (x.toNat:Int))]=some ((key1 x).map cellOf).toArray:=by kernel_rfl
theorem setCell_size (w:World) (p:Addr) (u:Value):w.heap.size<=(w.setCell p u).heap.size:=(Below.refl 0 w).setCell (Nat.zero_le _) u |>.size
theorem book_out (s:Int) (a:Nat) (k b:List UInt8):Bx.bookOut s a k b []=Tap.tape s a 32:=by simp [Bx.bookOut,Bx.lookB]
theorem book_at (a:Nat) (k b:List UInt8):Bx.bookAt a k b []=a + 32:=by simp [Bx.bookAt,Bx.lookB]
theorem book_next (s:Int) (a:Nat) (k b:List UInt8):Bx.bookNext s a k b []=[⟨k,b,Tap.tape s a 32⟩]:=by simp [Bx.bookNext,Bx.lookB]
theorem zero_blk (W:World):Blk (W.alloc (.cells zero.cells.toArray 30)) W.heap.size 30 zero.cells:=Blk.new W 30 _
set_option maxRecDepth 100000 in
theorem begun8C_any {P:BxP} (hB:BoxOk P) {w:World} (hg:Gl w):Calls Tryd.prog 19 #[] w fun e w'=>e = .returned (.bool true)/\Below w.heap.size w w':=by
 have HG:=Lib.hid hg
 have HB:=Lib.hid hB
 clear hg hB
 go_enter Tryd.func19,Tryd.ntmps19
 go_wp2_with fail
 refine (begun8_any HB.out HG.out).mono ?_
 rintro e w1 ⟨rfl,hX⟩
 have X1:=Lib.hid hX
 clear hX
 go_wp2_with fail
 go_ret
 exact ⟨rfl,X1.out⟩
set_option maxRecDepth 100000 in
set_option maxHeartbeats 4000000 in
theorem begun14_any {P:BxP} (hB:BoxOk P) {w:World} (hg:Gl w):Calls Tryd.prog 7 #[] w fun e w'=>e = .returned (.bool true)/\Below w.heap.size w w':=by
 have HG:=Lib.hid hg
 have HB:=Lib.hid hB
 have hsz:=hg.size
 have ZB:=Lib.hid zero_blk
 have LZ:=Lib.hid (cells_length zero_ok)
 have C8:Hid (∀ W,Gl W->Calls Tryd.prog 19 #[] W fun e w'=>e = .returned (.bool true)/\Below W.heap.size W w'):=fun W hW=>begun8C_any hB hW
 have CN0:Hid (∀ W,Gl W->Calls Tryd.prog 8 #[vval zero,.int .i64 2] W fun e w'=>e = .returned (vval va0)/\Below W.heap.size W w'):=fun W hW=>by rw [<- next_zero]; exact vnext_any zero_ok 2 hW
 have CN1:Hid (∀ W,Gl W->Calls Tryd.prog 8 #[vval va,.int .i64 2] W fun e w'=>e = .returned (vval vb)/\Below W.heap.size W w'):=fun W hW=>by rw [<- next_va]; exact vnext_any va_ok 2 hW
 have CM1:Hid (∀ W,Calls Tryd.prog 10 #[vval va] W fun e w'=>e = .returned (.bool true)/\Below W.heap.size W w'):=fun W=>by rw [<- may_va]; exact vmay_any va_ok W
 have CM0:Hid (∀ W,Calls Tryd.prog 10 #[vval zero] W fun e w'=>e = .returned (.bool false)/\Below W.heap.size W w'):=fun W=>by rw [<- may_zero]; exact vmay_any zero_ok W
 have CH1:Hid (∀ W,Gl W->Calls Tryd.prog 20 #[vval va] W fun e w'=>e = .returned (.agg ((vhash va).map cellOf).toArray)/\Below W.heap.size W w'):=fun W hW=>vhash_any va_ok hW
 have CH0:Hid (∀ W,Gl W->Calls Tryd.prog 20 #[vval zero] W fun e w'=>e = .returned (.agg (no32.map cellOf).toArray)/\Below W.heap.size W w'):=fun W hW=>by rw [<- hash_zero]; exact vhash_any zero_ok hW
 have CF1:Hid (∀ W,Gl W->Calls Tryd.prog 9 #[vval zero,vval va] W fun e w'=>e = .returned (.bool true)/\Below W.heap.size W w'):=fun W hW=>by rw [<- fzero_va]; exact vfollows_any zero_ok va_ok hW
 have CF2:Hid (∀ W,Gl W->Calls Tryd.prog 9 #[vval va,vval vb] W fun e w'=>e = .returned (.bool true)/\Below W.heap.size W w'):=fun W hW=>by rw [<- fva_vb]; exact vfollows_any va_ok vb_ok hW
 have CF3:Hid (∀ W,Gl W->Calls Tryd.prog 9 #[vval va,vval vc] W fun e w'=>e = .returned (.bool true)/\Below W.heap.size W w'):=fun W hW=>by rw [<- fva_vc]; exact vfollows_any va_ok vc_ok hW
 have CF4:Hid (∀ W,Gl W->Calls Tryd.prog 9 #[vval va,vval vd] W fun e w'=>e = .returned (.bool false)/\Below W.heap.size W w'):=fun W hW=>by rw [<- fva_vd]; exact vfollows_any va_ok vd_ok hW
 obtain ⟨st,hst⟩:∃ s,s=Bx.St.ideal 1 (0 + 32) [] [⟨key1 1,vbytes va0,Tap.tape 1 0 32⟩] []:=⟨_,rfl⟩
 have CS:Hid (∀ (W:World) (g:Nat) (M:Nat->Prop),Gl W->(∀ b,M b->2<=b)->P W g (.ideal 1 0 [] [] []) M->Calls Tryd.prog 12 #[.pointer (some ⟨g,0,none⟩),.agg ((key1 1).map cellOf).toArray,vval va0] W fun e w'=>∃ M',e = .returned (vval va)/\P w' g st M'/\Fr M W w'/\∀ b,M' b->M b ∨ W.heap.size<=b):=fun W g M h1 h2 h3=>by
  rw [hst]
  have:=vsign_ideal hB va0_ok h1 h2 h3 (by omega) (key1_length 1)
  rw [book_out,book_at,book_next] at this
  exact this
 have CI1:Hid (∀ (W:World) (g:Nat) (M:Nat->Prop),Gl W->P W g st M->Calls Tryd.prog 15 #[.pointer (some ⟨g,0,none⟩),.agg ((key1 1).map cellOf).toArray,vval va] W fun e w'=>e = .returned (.bool true)/\Below W.heap.size W w'):=fun W g M h1 h2=>by
  rw [hst] at h2
  have:=vis_ideal hB va_ok h1 h2 (key1_length 1)
  have hd:decide (Bx.lookB (key1 1) (vbytes va) [⟨key1 1,vbytes va0,Tap.tape 1 0 32⟩]=some va.tag)=true:=decide_eq_true (by
   show Bx.lookB (key1 1) (vbytes va0) _=_
   rw [look_one,if_pos rfl]
   rfl)
  rw [hd] at this
  exact this
 have CI2:Hid (∀ (W:World) (g:Nat) (M:Nat->Prop),Gl W->P W g st M->Calls Tryd.prog 15 #[.pointer (some ⟨g,0,none⟩),.agg ((key1 2).map cellOf).toArray,vval va] W fun e w'=>e = .returned (.bool false)/\Below W.heap.size W w'):=fun W g M h1 h2=>by
  rw [hst] at h2
  have:=vis_ideal hB va_ok h1 h2 (key1_length 2)
  have hd:decide (Bx.lookB (key1 2) (vbytes va) [⟨key1 1,vbytes va0,Tap.tape 1 0 32⟩]=some va.tag)=false:=decide_eq_false (by
   show Bx.lookB (key1 2) (vbytes va0) _ ≠ _
   rw [look_one,if_neg (key1_ne (by decide))]
   exact fun h=>by cases h)
  rw [hd] at this
  exact this
 clear hst hB
 unfold vval at *
 have IA0:=Lib.hid (vinfo va0_ok)
 have OA0:=Lib.hid (cells_one va0)
 have ZA0:Hid (zero.cells.length=va0.cells.length):=by unfold Hid; rw [LZ.out,cells_length va0_ok]
 have IA:=Lib.hid (vinfo va_ok)
 have OA:=Lib.hid (cells_one va)
 have ZA:Hid (zero.cells.length=va.cells.length):=by unfold Hid; rw [LZ.out,cells_length va_ok]
 have IB:=Lib.hid (vinfo vb_ok)
 have OB:=Lib.hid (cells_one vb)
 have ZB1:Hid (zero.cells.length=vb.cells.length):=by unfold Hid; rw [LZ.out,cells_length vb_ok]
 have ICc:=Lib.hid (vinfo vc_ok)
 have OCc:=Lib.hid (cells_one vc)
 have ZCc:Hid (zero.cells.length=vc.cells.length):=by unfold Hid; rw [LZ.out,cells_length vc_ok]
 have IDc:=Lib.hid (vinfo vd_ok)
 have ODc:=Lib.hid (cells_one vd)
 have ZDc:Hid (zero.cells.length=vd.cells.length):=by unfold Hid; rw [LZ.out,cells_length vd_ok]
 have BZ0:=Lib.hid vbuilt0
 have BH0:=Lib.hid no32_built
 have BK1:Hid (Tryd.prog.built 27 [(0,.int .u8 1)]=some ((key1 1).map cellOf).toArray):=key1_built 1
 have BK2:Hid (Tryd.prog.built 27 [(0,.int .u8 2)]=some ((key1 2).map cellOf).toArray):=key1_built 2
 have eHH:=fun W=>equalH 9998 (vhash va) (vhash va) (hash_length _) (hash_length _) W
 have eH0:=fun W=>equalH 9998 (vhash va) no32 (hash_length _) rfl W
 have e00:=fun W=>equalH 9998 no32 no32 rfl rfl W
 rw [decide_eq_true rfl] at eHH e00
 rw [decide_eq_false hash_va_ne] at eH0
 have IH:=Lib.hid (hinfo (hash_length va))
 have LPB:Hid (∀ j x,((vhash va).map cellOf)[j]?=some x->vb.cells[3 + j]?=some x):=fun j x hx=>lay_prev vb_ok j x hx
 have EB:Hid (vb.cells[67]?=some (.int .i64 0)):=at_ep vb_ok
 have SE:Hid (vb.cells.set 67 (.int .i64 1)=vc.cells):=set_ep vb_ok 1
 have SD:Hid (vb.cells.set 2 (.int .i64 3)=vd.cells):=rfl
 have A0:Hid (va.cells[0]?=some (.int .i64 2)):=rfl
 have A1:Hid (va.cells[1]?=some (.int .i64 1)):=rfl
 have A2:Hid (va.cells[2]?=some (.int .i64 1)):=rfl
 have A69:Hid (va.cells[69]?=some (.int .i64 1)):=lay_vec va_ok 1 _ rfl
 have D2:Hid (vb.cells[2]?=some (.int .i64 2)):=rfl
 generalize va0=a0 at *
 generalize va=a1 at *
 generalize vb=b1 at *
 generalize vc=c1 at *
 generalize vd=d1 at *
 obtain ⟨HC,hHC⟩:∃ X,X=(vhash a1).map cellOf:=⟨_,rfl⟩
 rw [<- hHC] at CH1 eHH eH0 IH LPB
 obtain ⟨ZH,hZH⟩:∃ X,X=no32.map cellOf:=⟨_,rfl⟩
 rw [<- hZH] at CH0 eH0 e00 BH0
 obtain ⟨K1,hK1⟩:∃ X,X=(key1 1).map cellOf:=⟨_,rfl⟩
 rw [<- hK1] at CS CI1 BK1
 obtain ⟨K2,hK2⟩:∃ X,X=(key1 2).map cellOf:=⟨_,rfl⟩
 rw [<- hK2] at CI2 BK2
 obtain ⟨Av,hAv⟩:∃ X,X=a0.cells:=⟨_,rfl⟩
 rw [<- hAv] at CN0 CS IA0 OA0 ZA0
 obtain ⟨A,hA⟩:∃ X,X=a1.cells:=⟨_,rfl⟩
 rw [<- hA] at CN1 CM1 CH1 CF1 CF2 CF3 CF4 CS CI1 CI2 IA OA ZA A0 A1 A2 A69
 obtain ⟨B,hB⟩:∃ X,X=b1.cells:=⟨_,rfl⟩
 rw [<- hB] at CN1 CF2 IB OB ZB1 LPB EB SE SD D2
 obtain ⟨Cc,hCc⟩:∃ X,X=c1.cells:=⟨_,rfl⟩
 rw [<- hCc] at CF3 ICc OCc ZCc SE
 obtain ⟨Dc,hDc⟩:∃ X,X=d1.cells:=⟨_,rfl⟩
 rw [<- hDc] at CF4 IDc ODc ZDc SD
 obtain ⟨Z,hZ⟩:∃ X,X=zero.cells:=⟨_,rfl⟩
 have HZ:=Lib.hid hZ
 rw [<- hZ] at CN0 CM0 CH0 CF1 BZ0
 have W:=Lib.hid (Below.refl w.heap.size w)
 clear hg hHC hZH hK1 hK2 hAv hA hB hCc hDc hZ
 go_enter Tryd.func7,Tryd.ntmps7
 go_upto_region 2 with (first
  | (go_at_call 18; refine (tnew_any 1 _ (by omega) (by omega)).mono ?_; rintro e w2 ⟨tp,rfl,ht,hT,hX⟩; have TP:=Lib.hid hT; have HT2:Hid (w.heap.size<=tp):=ht; clear hT ht; replace W:=Lib.hid (W.out.trans (hX.mono W.out.size)); clear hX)
  | (go_at_call 17; refine (HB.out.newI TP.out).mono ?_; rintro e w3 ⟨g,M,rfl,hM,hP,hX⟩; have PB:=Lib.hid hP; have MB:Hid (∀ b,M b->w.heap.size<=b):=(fun b hb=>by have:=HT2.out; have:=W.out.size; rcases hM b hb with h | h <;> omega); have MG:Hid (∀ b,M b->2<=b):=(fun b hb=>by have:=MB.out b hb; omega); clear hM hP; replace W:=Lib.hid (W.out.trans (hX.mono W.out.size)); clear hX TP HT2))
 go_upto_region 3 with (first
  | (refine build_law rfl 27 #[(0,.const (.int .u8 1))] rfl K1 (by simp only [List.map_toArray,List.map_cons,List.map_nil]; with_unfolding_all exact BK1.out) ?_)
  | (with_reducible refine build_law rfl 30 #[] rfl Z (by simp only [List.map_toArray,List.map_cons,List.map_nil]; with_unfolding_all exact BZ0.out) ?_)
  | (go_at_call 8; (with_reducible refine (CN0.out _ (HG.out.below W.out hsz)).mono ?_); rintro e w4 ⟨rfl,hX⟩; replace PB:=Lib.hid (HB.out.below PB.out hX); replace W:=Lib.hid (W.out.trans (hX.mono W.out.size)); clear hX)
  | (go_at_call 12; (with_reducible refine (CS.out _ _ _ (HG.out.below W.out hsz) MG.out PB.out).mono ?_); rintro e w5 ⟨M',rfl,hP,hF,hM⟩; have hs4:=W.out.size; have W5:=Lib.hid (hF.below W.out MB.out hs4); have P5:=Lib.hid hP; have ML:Hid (∀ b,M' b->b < w5.heap.size):=(fun b hb=>HB.out.lt P5.out hb); clear W PB MB MG hP hF hM CS hs4; have W:=W5; have PB:=P5; have W5s:Hid (w.heap.size<=w5.heap.size):=W5.out.size; clear W5 P5)
  | ((with_reducible refine storeGen_law rfl 30 (.tmp 2) (.tmp 12) rfl w5.heap.size rfl A rfl 30 zero.cells IA.out ZA.out OA.out w5.heap.size w5 ?_ ?_ (Nat.le_refl _) ?_); (exact ZB.out w5); (exact alloc_below w5 _); intro w6 BA hX'; have hX:=hX'.out; clear hX'; replace PB:=Lib.hid (HB.out.below PB.out hX); replace W:=Lib.hid (W.out.trans (hX.mono W.out.size)); clear hX))
 obtain ⟨q,hq⟩:∃ q,q=w5.heap.size:=⟨_,rfl⟩
 rw [<- hq] at BA ML W5s ⊢
 have hq0:=W5s.out
 have hM6:=ML.out
 clear hq W5s ML
 try simp only [Act.put]
 go_upto_region 4 with (first
  | (with_reducible refine load_law rfl 30 (.tmp 2) rfl q 0 rfl A _ Tryd.underlying30 rfl IA.out BA.out.cells ?_)
  | (go_at_call 8; (with_reducible refine (CN1.out _ (HG.out.below W.out hsz)).mono ?_); rintro e w7 ⟨rfl,hX⟩; replace PB:=Lib.hid (HB.out.below PB.out hX); replace BA:=Lib.hid (BA.out.below hX BA.out.lt); replace W:=Lib.hid (W.out.trans (hX.mono W.out.size)); have Q7:Hid (q < w7.heap.size):=BA.out.lt; clear hX)
  | ((with_reducible refine storeGen_law rfl 30 (.tmp 3) (.tmp 14) rfl w7.heap.size rfl B rfl 30 zero.cells IB.out ZB1.out OB.out w7.heap.size w7 ?_ ?_ (Nat.le_refl _) ?_); (exact ZB.out w7); (exact alloc_below w7 _); intro w8 BB hX'; have hX:=hX'.out; clear hX'; replace PB:=Lib.hid (HB.out.below PB.out hX); replace BA:=Lib.hid (BA.out.below hX BA.out.lt); replace W:=Lib.hid (W.out.trans (hX.mono W.out.size)); clear hX))
 obtain ⟨q3,hq3⟩:∃ q,q=w7.heap.size:=⟨_,rfl⟩
 rw [<- hq3] at BB Q7 ⊢
 have h30:=Q7.out
 have H8:Hid (q3 < w8.heap.size):=BB.out.lt
 clear hq3 Q7
 try simp only [Act.put]
 go_upto_region 5 with (first
  | (with_reducible refine load_law rfl 30 (.tmp 3) rfl q3 0 rfl B _ Tryd.underlying30 rfl IB.out BB.out.cells ?_)
  | ((with_reducible refine storeGen_law rfl 30 (.tmp 4) (.tmp 15) rfl w8.heap.size rfl B rfl 30 zero.cells IB.out ZB1.out OB.out w8.heap.size w8 ?_ ?_ (Nat.le_refl _) ?_); (exact ZB.out w8); (exact alloc_below w8 _); intro w9 BC hX'; have hX:=hX'.out; clear hX'; replace PB:=Lib.hid (HB.out.below PB.out hX); replace BA:=Lib.hid (BA.out.below hX BA.out.lt); replace BB:=Lib.hid (BB.out.below hX BB.out.lt); replace W:=Lib.hid (W.out.trans (hX.mono W.out.size)); clear hX))
 obtain ⟨q4,hq4⟩:∃ q,q=w8.heap.size:=⟨_,rfl⟩
 rw [<- hq4] at BC H8 ⊢
 have h40:=H8.out
 clear hq4 H8
 try simp only [Act.put]
 have c4:w9.cell? ⟨q4,67,none⟩=some (.int .i64 0):=(BC.out.cell 67).trans EB.out
 have f4:w9.frozen? ⟨q4,67,none⟩=false:=BC.out.frozen _
 have NQ:¬ M' q4:=fun h=>by have:=hM6 _ h; omega
 go_upto_region 6 with (fail)
 clear c4 f4
 have BCn:Hid (Blk (w9.setCell ⟨q4,67,none⟩ (.int .i64 1)) q4 30 Cc):=by have:=BC.out.set_ 67 (.int .i64 1); rw [SE.out] at this; exact this
 replace BA:Hid (Blk (w9.setCell ⟨q4,67,none⟩ (.int .i64 1)) q 30 A):=BA.out.far (p:=⟨q4,67,none⟩) (by show q ≠ q4; omega) _
 replace BB:Hid (Blk (w9.setCell ⟨q4,67,none⟩ (.int .i64 1)) q3 30 B):=BB.out.far (p:=⟨q4,67,none⟩) (by show q3 ≠ q4; omega) _
 replace PB:Hid (P (w9.setCell ⟨q4,67,none⟩ (.int .i64 1)) g st M'):=HB.out.keep PB.out (setCell_size _ _ _) fun b hb=>Below.heap_setCell _ _ _ _ (by show b ≠ q4; intro h; subst h; exact NQ hb)
 replace W:Hid (Below w.heap.size w (w9.setCell ⟨q4,67,none⟩ (.int .i64 1))):=W.out.setCell (by show w.heap.size<=q4; omega) _
 generalize w9.setCell ⟨q4,67,none⟩ (.int .i64 1)=w10 at *
 have H10:Hid (q4 < w10.heap.size):=BCn.out.lt
 clear BC NQ
 try simp only [Act.put]
 go_upto_region 7 with (first
  | (with_reducible refine load_law rfl 30 (.tmp 3) rfl q3 0 rfl B _ Tryd.underlying30 rfl IB.out BB.out.cells ?_)
  | ((with_reducible refine storeGen_law rfl 30 (.tmp 5) (.tmp 20) rfl w10.heap.size rfl B rfl 30 zero.cells IB.out ZB1.out OB.out w10.heap.size w10 ?_ ?_ (Nat.le_refl _) ?_); (exact ZB.out w10); (exact alloc_below w10 _); intro w11 BD hX'; have hX:=hX'.out; clear hX'; replace PB:=Lib.hid (HB.out.below PB.out hX); replace BA:=Lib.hid (BA.out.below hX BA.out.lt); replace BB:=Lib.hid (BB.out.below hX BB.out.lt); replace BCn:=Lib.hid (BCn.out.below hX BCn.out.lt); replace W:=Lib.hid (W.out.trans (hX.mono W.out.size)); clear hX))
 obtain ⟨q5,hq5⟩:∃ q,q=w10.heap.size:=⟨_,rfl⟩
 rw [<- hq5] at BD H10 ⊢
 have h50:=H10.out
 clear hq5 H10
 try simp only [Act.put]
 have c5:w11.cell? ⟨q5,2,none⟩=some (.int .i64 2):=(BD.out.cell 2).trans D2.out
 have f5:w11.frozen? ⟨q5,2,none⟩=false:=BD.out.frozen _
 have NQ:¬ M' q5:=fun h=>by have:=hM6 _ h; omega
 have BDn:Hid (Blk (w11.setCell ⟨q5,2,none⟩ (.int .i64 3)) q5 30 Dc):=by have:=BD.out.set_ 2 (.int .i64 3); rw [SD.out] at this; exact this
 replace BA:Hid (Blk (w11.setCell ⟨q5,2,none⟩ (.int .i64 3)) q 30 A):=BA.out.far (p:=⟨q5,2,none⟩) (by show q ≠ q5; omega) _
 replace BB:Hid (Blk (w11.setCell ⟨q5,2,none⟩ (.int .i64 3)) q3 30 B):=BB.out.far (p:=⟨q5,2,none⟩) (by show q3 ≠ q5; omega) _
 replace BCn:Hid (Blk (w11.setCell ⟨q5,2,none⟩ (.int .i64 3)) q4 30 Cc):=BCn.out.far (p:=⟨q5,2,none⟩) (by show q4 ≠ q5; omega) _
 replace PB:Hid (P (w11.setCell ⟨q5,2,none⟩ (.int .i64 3)) g st M'):=HB.out.keep PB.out (setCell_size _ _ _) fun b hb=>Below.heap_setCell _ _ _ _ (by show b ≠ q5; intro h; subst h; exact NQ hb)
 replace W:Hid (Below w.heap.size w (w11.setCell ⟨q5,2,none⟩ (.int .i64 3))):=W.out.setCell (by show w.heap.size<=q5; omega) _
 clear BD NQ
 go_upto_region 8 with (fail)
 clear c5 f5
 replace BA:=Lib.hid BA.out.drew
 replace BB:=Lib.hid BB.out.drew
 replace BCn:=Lib.hid BCn.out.drew
 replace BDn:=Lib.hid BDn.out.drew
 replace W:=Lib.hid W.out.drew
 replace PB:Hid (P (w11.setCell ⟨q5,2,none⟩ (.int .i64 3)).drew g st M'):=HB.out.keep PB.out (Nat.le_refl _) (fun _ _=>rfl)
 refine wp_region_any (by kernel_rfl) ?_
 change wpAny _ _ _ _ _ _ _ (World.drew _)
 generalize (w11.setCell ⟨q5,2,none⟩ (.int .i64 3)).drew=w12 at *
 simp only [List.append_eq,List.cons_append,List.nil_append]
 refine wpAny_ready (rs:=[0]) (by kernel_rfl) (by simp) ?_
 refine AllReady.cons (o:=?p1) ?q1 (fun K hK=>?_) AllReady.nil
 case q1=>simp only [zge]; rfl
 go_simp
 refine (C8.out _ (HG.out.below W.out hsz)).mono ?_
 rintro e w13 ⟨rfl,hX⟩
 replace PB:=Lib.hid (HB.out.below PB.out hX)
 replace BA:=Lib.hid (BA.out.below hX BA.out.lt)
 replace BB:=Lib.hid (BB.out.below hX BB.out.lt)
 replace BCn:=Lib.hid (BCn.out.below hX BCn.out.lt)
 replace BDn:=Lib.hid (BDn.out.below hX BDn.out.lt)
 replace W:=Lib.hid (W.out.trans (hX.mono W.out.size))
 clear hX
 refine hK _ _ ?_
 clear hK K
 try simp only [zpt]
 refine wpAny_take (i:=1) (oi:=?oi2) (v:=.bool true) ?hi2 (by kernel_rfl) (by kernel_rfl) (by kernel_rfl) ?hQ2 ?hy2 ?rest2
 case hi2=>simp only [zge]; rfl
 case hQ2=>exact fun _ _ _ h=>h
 case hy2=>exact Or.inl ⟨by rfl,by intro w; go_simp⟩
 try simp only [zpt]
 refine wpAny_take (i:=2) (oi:=?oi3) (v:=.pointer (some ⟨q,0,none⟩)) ?hi3 (by kernel_rfl) (by kernel_rfl) (by kernel_rfl) ?hQ3 ?hy3 ?rest3
 case hi3=>simp only [zge]; rfl
 case hQ3=>exact fun _ _ _ h=>h
 case hy3=>exact Or.inl ⟨by rfl,by intro w; go_simp⟩
 try simp only [zpt]
 have a0:=(BA.out.cell 0).trans A0.out
 refine wpAny_ready (rs:=[3]) (by kernel_rfl) (by simp) ?_
 refine AllReady.cons (o:=?p4) ?q4 (fun K hK=>?_) AllReady.nil
 case q4=>simp only [zge]; rfl
 go_simp
 refine hK _ _ ?_
 clear hK K
 try simp only [zpt]
 clear a0
 refine wpAny_take (i:=4) (oi:=?oi5) (v:=.bool true) ?hi5 (by kernel_rfl) (by kernel_rfl) (by kernel_rfl) ?hQ5 ?hy5 ?rest5
 case hi5=>simp only [zge]; rfl
 case hQ5=>exact fun _ _ _ h=>h
 case hy5=>exact Or.inl ⟨by rfl,by intro w; go_simp⟩
 try simp only [zpt]
 refine wpAny_take (i:=5) (oi:=?oi6) (v:=.bool true) ?hi6 (by kernel_rfl) (by kernel_rfl) (by kernel_rfl) ?hQ6 ?hy6 ?rest6
 case hi6=>simp only [zge]; rfl
 case hQ6=>exact fun _ _ _ h=>h
 case hy6=>exact Or.inl ⟨by rfl,by intro w; go_simp⟩
 try simp only [zpt]
 refine wpAny_take (i:=6) (oi:=?oi7) (v:=.bool true) ?hi7 (by kernel_rfl) (by kernel_rfl) (by kernel_rfl) ?hQ7 ?hy7 ?rest7
 case hi7=>simp only [zge]; rfl
 case hQ7=>exact fun _ _ _ h=>h
 case hy7=>exact Or.inl ⟨by rfl,by intro w; go_simp⟩
 try simp only [zpt]
 refine wpAny_take (i:=7) (oi:=?oi8) (v:=.pointer (some ⟨q,1,none⟩)) ?hi8 (by kernel_rfl) (by kernel_rfl) (by kernel_rfl) ?hQ8 ?hy8 ?rest8
 case hi8=>simp only [zge]; rfl
 case hQ8=>exact fun _ _ _ h=>h
 case hy8=>exact Or.inl ⟨by rfl,by intro w; go_simp⟩
 try simp only [zpt]
 have a1:=(BA.out.cell 1).trans A1.out
 refine wpAny_ready (rs:=[8]) (by kernel_rfl) (by simp) ?_
 refine AllReady.cons (o:=?p9) ?q9 (fun K hK=>?_) AllReady.nil
 case q9=>simp only [zge]; rfl
 go_simp
 refine hK _ _ ?_
 clear hK K
 try simp only [zpt]
 clear a1
 refine wpAny_take (i:=9) (oi:=?oi10) (v:=.bool true) ?hi10 (by kernel_rfl) (by kernel_rfl) (by kernel_rfl) ?hQ10 ?hy10 ?rest10
 case hi10=>simp only [zge]; rfl
 case hQ10=>exact fun _ _ _ h=>h
 case hy10=>exact Or.inl ⟨by rfl,by intro w; go_simp⟩
 try simp only [zpt]
 refine wpAny_take (i:=10) (oi:=?oi11) (v:=.bool true) ?hi11 (by kernel_rfl) (by kernel_rfl) (by kernel_rfl) ?hQ11 ?hy11 ?rest11
 case hi11=>simp only [zge]; rfl
 case hQ11=>exact fun _ _ _ h=>h
 case hy11=>exact Or.inl ⟨by rfl,by intro w; go_simp⟩
 try simp only [zpt]
 refine wpAny_take (i:=11) (oi:=?oi12) (v:=.bool true) ?hi12 (by kernel_rfl) (by kernel_rfl) (by kernel_rfl) ?hQ12 ?hy12 ?rest12
 case hi12=>simp only [zge]; rfl
 case hQ12=>exact fun _ _ _ h=>h
 case hy12=>exact Or.inl ⟨by rfl,by intro w; go_simp⟩
 try simp only [zpt]
 refine wpAny_take (i:=12) (oi:=?oi13) (v:=.pointer (some ⟨q,2,none⟩)) ?hi13 (by kernel_rfl) (by kernel_rfl) (by kernel_rfl) ?hQ13 ?hy13 ?rest13
 case hi13=>simp only [zge]; rfl
 case hQ13=>exact fun _ _ _ h=>h
 case hy13=>exact Or.inl ⟨by rfl,by intro w; go_simp⟩
 try simp only [zpt]
 have a2:=(BA.out.cell 2).trans A2.out
 refine wpAny_ready (rs:=[13]) (by kernel_rfl) (by simp) ?_
 refine AllReady.cons (o:=?p14) ?q14 (fun K hK=>?_) AllReady.nil
 case q14=>simp only [zge]; rfl
 go_simp
 refine hK _ _ ?_
 clear hK K
 try simp only [zpt]
 clear a2
 refine wpAny_take (i:=14) (oi:=?oi15) (v:=.bool true) ?hi15 (by kernel_rfl) (by kernel_rfl) (by kernel_rfl) ?hQ15 ?hy15 ?rest15
 case hi15=>simp only [zge]; rfl
 case hQ15=>exact fun _ _ _ h=>h
 case hy15=>exact Or.inl ⟨by rfl,by intro w; go_simp⟩
 try simp only [zpt]
 refine wpAny_take (i:=15) (oi:=?oi16) (v:=.bool true) ?hi16 (by kernel_rfl) (by kernel_rfl) (by kernel_rfl) ?hQ16 ?hy16 ?rest16
 case hi16=>simp only [zge]; rfl
 case hQ16=>exact fun _ _ _ h=>h
 case hy16=>exact Or.inl ⟨by rfl,by intro w; go_simp⟩
 try simp only [zpt]
 refine wpAny_take (i:=16) (oi:=?oi17) (v:=.bool true) ?hi17 (by kernel_rfl) (by kernel_rfl) (by kernel_rfl) ?hQ17 ?hy17 ?rest17
 case hi17=>simp only [zge]; rfl
 case hQ17=>exact fun _ _ _ h=>h
 case hy17=>exact Or.inl ⟨by rfl,by intro w; go_simp⟩
 try simp only [zpt]
 refine wpAny_take (i:=17) (oi:=?oi18) (v:=.pointer (some ⟨q,68,none⟩)) ?hi18 (by kernel_rfl) (by kernel_rfl) (by kernel_rfl) ?hQ18 ?hy18 ?rest18
 case hi18=>simp only [zge]; rfl
 case hQ18=>exact fun _ _ _ h=>h
 case hy18=>exact Or.inl ⟨by rfl,by intro w; go_simp⟩
 try simp only [zpt]
 refine wpAny_take (i:=18) (oi:=?oi19) (v:=.pointer (some ⟨q,69,none⟩)) ?hi19 (by kernel_rfl) (by kernel_rfl) (by kernel_rfl) ?hQ19 ?hy19 ?rest19
 case hi19=>simp only [zge]; rfl
 case hQ19=>exact fun _ _ _ h=>h
 case hy19=>exact Or.inl ⟨by rfl,by intro w; go_simp⟩
 try simp only [zpt]
 have a69:=(BA.out.cell 69).trans A69.out
 refine wpAny_ready (rs:=[19]) (by kernel_rfl) (by simp) ?_
 refine AllReady.cons (o:=?p20) ?q20 (fun K hK=>?_) AllReady.nil
 case q20=>simp only [zge]; rfl
 go_simp
 refine hK _ _ ?_
 clear hK K
 try simp only [zpt]
 clear a69
 refine wpAny_take (i:=20) (oi:=?oi21) (v:=.bool true) ?hi21 (by kernel_rfl) (by kernel_rfl) (by kernel_rfl) ?hQ21 ?hy21 ?rest21
 case hi21=>simp only [zge]; rfl
 case hQ21=>exact fun _ _ _ h=>h
 case hy21=>exact Or.inl ⟨by rfl,by intro w; go_simp⟩
 try simp only [zpt]
 refine wpAny_take (i:=21) (oi:=?oi22) (v:=.bool true) ?hi22 (by kernel_rfl) (by kernel_rfl) (by kernel_rfl) ?hQ22 ?hy22 ?rest22
 case hi22=>simp only [zge]; rfl
 case hQ22=>exact fun _ _ _ h=>h
 case hy22=>exact Or.inl ⟨by rfl,by intro w; go_simp⟩
 try simp only [zpt]
 refine wpAny_take (i:=22) (oi:=?oi23) (v:=.bool true) ?hi23 (by kernel_rfl) (by kernel_rfl) (by kernel_rfl) ?hQ23 ?hy23 ?rest23
 case hi23=>simp only [zge]; rfl
 case hQ23=>exact fun _ _ _ h=>h
 case hy23=>exact Or.inl ⟨by rfl,by intro w; go_simp⟩
 try simp only [zpt]
 refine wpAny_ready (rs:=[23]) (by kernel_rfl) (by simp) ?_
 refine AllReady.cons (o:=?p24) ?q24 (fun K hK=>?_) AllReady.nil
 case q24=>simp only [zge]; rfl
 refine step_loadW (by kernel_rfl) 30 (.tmp 2) rfl q 0 rfl A _ Tryd.underlying30 rfl IA.out BA.out.cells (hK _ _ ?_)
 clear hK K
 try simp only [zpt]
 refine wpAny_ready (rs:=[24]) (by kernel_rfl) (by simp) ?_
 refine AllReady.cons (o:=?p25) ?q25 (fun K hK=>?_) AllReady.nil
 case q25=>simp only [zge]; rfl
 go_simp
 refine (CM1.out _).mono ?_
 rintro e w14 ⟨rfl,hX⟩
 replace PB:=Lib.hid (HB.out.below PB.out hX)
 replace BA:=Lib.hid (BA.out.below hX BA.out.lt)
 replace BB:=Lib.hid (BB.out.below hX BB.out.lt)
 replace BCn:=Lib.hid (BCn.out.below hX BCn.out.lt)
 replace BDn:=Lib.hid (BDn.out.below hX BDn.out.lt)
 replace W:=Lib.hid (W.out.trans (hX.mono W.out.size))
 clear hX
 refine hK _ _ ?_
 clear hK K
 try simp only [zpt]
 refine wpAny_take (i:=25) (oi:=?oi26) (v:=.bool true) ?hi26 (by kernel_rfl) (by kernel_rfl) (by kernel_rfl) ?hQ26 ?hy26 ?rest26
 case hi26=>simp only [zge]; rfl
 case hQ26=>exact fun _ _ _ h=>h
 case hy26=>exact Or.inl ⟨by rfl,by intro w; go_simp⟩
 try simp only [zpt]
 refine wpAny_take (i:=26) (oi:=?oi27) (v:=.bool true) ?hi27 (by kernel_rfl) (by kernel_rfl) (by kernel_rfl) ?hQ27 ?hy27 ?rest27
 case hi27=>simp only [zge]; rfl
 case hQ27=>exact fun _ _ _ h=>h
 case hy27=>exact Or.inl ⟨by rfl,by intro w; go_simp⟩
 try simp only [zpt]
 refine wpAny_take (i:=27) (oi:=?oi28) (v:=.pointer (some ⟨g,0,none⟩)) ?hi28 (by kernel_rfl) (by kernel_rfl) (by kernel_rfl) ?hQ28 ?hy28 ?rest28
 case hi28=>simp only [zge]; rfl
 case hQ28=>exact fun _ _ _ h=>h
 case hy28=>exact Or.inl ⟨by rfl,by intro w; go_simp⟩
 try simp only [zpt]
 refine phaseL (fun i=>[]) (fun d a w'=>∃ x53 x54:Value,a={ tmps:=#[.bool false,.pointer (some ⟨g,0,none⟩),.pointer (some ⟨q,0,none⟩),.pointer (some ⟨q3,0,none⟩),.pointer (some ⟨q4,0,none⟩),.pointer (some ⟨q5,0,none⟩),.pointer (some ⟨tp,0,none⟩),.pointer (some ⟨g,0,none⟩),.pointer (some ⟨g,0,none⟩),.agg K1.toArray,.agg Z.toArray,.agg Av.toArray,.agg A.toArray,.agg A.toArray,.agg B.toArray,.agg B.toArray,.pointer (some ⟨q4,67,none⟩),.int .i64 0,.int .i64 1,.pointer (some ⟨q4,67,none⟩),.agg B.toArray,.pointer (some ⟨q5,2,none⟩),.int .i64 2,.int .i64 3,.pointer (some ⟨q5,2,none⟩),.bool true,.bool true,.pointer (some ⟨q,0,none⟩),.int .i64 2,.bool true,.bool true,.bool true,.pointer (some ⟨q,1,none⟩),.int .i64 1,.bool true,.bool true,.bool true,.pointer (some ⟨q,2,none⟩),.int .i64 1,.bool true,.bool true,.bool true,.pointer (some ⟨q,68,none⟩),.pointer (some ⟨q,69,none⟩),.int .i64 1,.bool true,.bool true,.bool true,.agg A.toArray,.bool true,.bool true,.bool true,.pointer (some ⟨g,0,none⟩),x53,x54,undef,undef,undef,undef,undef,undef,undef,undef,undef,undef,undef,undef,undef,undef,undef,undef,undef,undef,undef,undef,undef,undef,undef,undef,undef,undef,undef,undef,undef,undef,undef,undef,undef,undef,undef,undef,undef,undef,undef,undef,undef,undef,undef,undef,undef,undef,undef,undef,undef,undef,undef,undef,undef,undef],defers:=[] }/\Hid (Below w14.heap.size w14 w')/\(d 28=true->x53 = .agg K1.toArray)/\(d 29=true->x54 = .agg A.toArray)) [28,29] ?step29 55 2 [28,29] _ _ _ rfl (by decide) (fun _ h=>h) (Fits.of (by kernel_rfl)) ?init29 ?fin29
 case init29=>refine ⟨_,_,rfl,Below.refl _ _,?_,?_⟩ <;> (intro h; exact absurd h (by decide))
 case step29 =>
  intro i hi d a v29 hI hdi hdeps
  obtain ⟨x53,x54,rfl,BW,h28,h29⟩:=hI
  have hsw:=BW.out.size
  simp only [List.mem_cons,List.not_mem_nil,or_false] at hi
  rcases hi with rfl | rfl
  ·refine wpOp_step (o:=?os30) ?hos30 (fun K hK=>?_)
   case hos30=>simp only [zge]; rfl
   refine step_build (by kernel_rfl) 27 #[(0,.const (.int .u8 1))] rfl K1 (by simp only [List.map_toArray,List.map_cons,List.map_nil]; with_unfolding_all exact BK1.out) (hK _ _ ?_)
   clear hK K
   try simp only [zpt]
   exact ⟨_,_,rfl,BW,fun _=>rfl,fun a=>by first | exact h29 (by simpa using a) | rfl⟩
  ·refine wpOp_step (o:=?os31) ?hos31 (fun K hK=>?_)
   case hos31=>simp only [zge]; rfl
   refine step_loadW (by kernel_rfl) 30 (.tmp 2) rfl q 0 rfl A _ Tryd.underlying30 rfl IA.out (BA.out.below BW.out BA.out.lt).cells (hK _ _ ?_)
   clear hK K
   try simp only [zpt]
   exact ⟨_,_,rfl,BW,fun a=>by first | exact h28 (by simpa using a) | rfl,fun _=>rfl⟩
 case fin29 =>
  intro a v29 hI
  obtain ⟨x53,x54,rfl,BW,h28,h29⟩:=hI
  obtain rfl:=h28 (by decide)
  obtain rfl:=h29 (by decide)
  have hX:=BW.out
  replace PB:=Lib.hid (HB.out.below PB.out hX)
  replace BA:=Lib.hid (BA.out.below hX BA.out.lt)
  replace BB:=Lib.hid (BB.out.below hX BB.out.lt)
  replace BCn:=Lib.hid (BCn.out.below hX BCn.out.lt)
  replace BDn:=Lib.hid (BDn.out.below hX BDn.out.lt)
  replace W:=Lib.hid (W.out.trans (hX.mono W.out.size))
  clear hX BW h28 h29
  try dsimp only
  refine wpAny_ready (rs:=[30]) (by kernel_rfl) (by simp) ?_
  refine AllReady.cons (o:=?p32) ?q32 (fun K hK=>?_) AllReady.nil
  case q32=>simp only [zge]; rfl
  go_simp
  refine (CI1.out _ _ _ (HG.out.below W.out hsz) PB.out).mono ?_
  rintro e w15 ⟨rfl,hX⟩
  replace PB:=Lib.hid (HB.out.below PB.out hX)
  replace BA:=Lib.hid (BA.out.below hX BA.out.lt)
  replace BB:=Lib.hid (BB.out.below hX BB.out.lt)
  replace BCn:=Lib.hid (BCn.out.below hX BCn.out.lt)
  replace BDn:=Lib.hid (BDn.out.below hX BDn.out.lt)
  replace W:=Lib.hid (W.out.trans (hX.mono W.out.size))
  clear hX
  refine hK _ _ ?_
  clear hK K
  try simp only [zpt]
  refine wpAny_take (i:=31) (oi:=?oi33) (v:=.bool true) ?hi33 (by kernel_rfl) (by kernel_rfl) (by kernel_rfl) ?hQ33 ?hy33 ?rest33
  case hi33=>simp only [zge]; rfl
  case hQ33=>exact fun _ _ _ h=>h
  case hy33=>exact Or.inl ⟨by rfl,by intro w; go_simp⟩
  try simp only [zpt]
  refine wpAny_take (i:=32) (oi:=?oi34) (v:=.bool true) ?hi34 (by kernel_rfl) (by kernel_rfl) (by kernel_rfl) ?hQ34 ?hy34 ?rest34
  case hi34=>simp only [zge]; rfl
  case hQ34=>exact fun _ _ _ h=>h
  case hy34=>exact Or.inl ⟨by rfl,by intro w; go_simp⟩
  try simp only [zpt]
  refine wpAny_take (i:=33) (oi:=?oi35) (v:=.pointer (some ⟨g,0,none⟩)) ?hi35 (by kernel_rfl) (by kernel_rfl) (by kernel_rfl) ?hQ35 ?hy35 ?rest35
  case hi35=>simp only [zge]; rfl
  case hQ35=>exact fun _ _ _ h=>h
  case hy35=>exact Or.inl ⟨by rfl,by intro w; go_simp⟩
  try simp only [zpt]
  refine phaseL (fun i=>[]) (fun d a w'=>∃ x59 x60:Value,a={ tmps:=#[.bool false,.pointer (some ⟨g,0,none⟩),.pointer (some ⟨q,0,none⟩),.pointer (some ⟨q3,0,none⟩),.pointer (some ⟨q4,0,none⟩),.pointer (some ⟨q5,0,none⟩),.pointer (some ⟨tp,0,none⟩),.pointer (some ⟨g,0,none⟩),.pointer (some ⟨g,0,none⟩),.agg K1.toArray,.agg Z.toArray,.agg Av.toArray,.agg A.toArray,.agg A.toArray,.agg B.toArray,.agg B.toArray,.pointer (some ⟨q4,67,none⟩),.int .i64 0,.int .i64 1,.pointer (some ⟨q4,67,none⟩),.agg B.toArray,.pointer (some ⟨q5,2,none⟩),.int .i64 2,.int .i64 3,.pointer (some ⟨q5,2,none⟩),.bool true,.bool true,.pointer (some ⟨q,0,none⟩),.int .i64 2,.bool true,.bool true,.bool true,.pointer (some ⟨q,1,none⟩),.int .i64 1,.bool true,.bool true,.bool true,.pointer (some ⟨q,2,none⟩),.int .i64 1,.bool true,.bool true,.bool true,.pointer (some ⟨q,68,none⟩),.pointer (some ⟨q,69,none⟩),.int .i64 1,.bool true,.bool true,.bool true,.agg A.toArray,.bool true,.bool true,.bool true,.pointer (some ⟨g,0,none⟩),.agg K1.toArray,.agg A.toArray,.bool true,.bool true,.bool true,.pointer (some ⟨g,0,none⟩),x59,x60,undef,undef,undef,undef,undef,undef,undef,undef,undef,undef,undef,undef,undef,undef,undef,undef,undef,undef,undef,undef,undef,undef,undef,undef,undef,undef,undef,undef,undef,undef,undef,undef,undef,undef,undef,undef,undef,undef,undef,undef,undef,undef,undef,undef,undef,undef,undef,undef],defers:=[] }/\Hid (Below w15.heap.size w15 w')/\(d 34=true->x59 = .agg K2.toArray)/\(d 35=true->x60 = .agg A.toArray)) [34,35] ?step36 49 2 [34,35] _ _ _ rfl (by decide) (fun _ h=>h) (Fits.of (by kernel_rfl)) ?init36 ?fin36
  case init36=>refine ⟨_,_,rfl,Below.refl _ _,?_,?_⟩ <;> (intro h; exact absurd h (by decide))
  case step36 =>
   intro i hi d a v36 hI hdi hdeps
   obtain ⟨x59,x60,rfl,BW,h34,h35⟩:=hI
   have hsw:=BW.out.size
   simp only [List.mem_cons,List.not_mem_nil,or_false] at hi
   rcases hi with rfl | rfl
   ·refine wpOp_step (o:=?os37) ?hos37 (fun K hK=>?_)
    case hos37=>simp only [zge]; rfl
    refine step_build (by kernel_rfl) 27 #[(0,.const (.int .u8 2))] rfl K2 (by simp only [List.map_toArray,List.map_cons,List.map_nil]; with_unfolding_all exact BK2.out) (hK _ _ ?_)
    clear hK K
    try simp only [zpt]
    exact ⟨_,_,rfl,BW,fun _=>rfl,fun a=>by first | exact h35 (by simpa using a) | rfl⟩
   ·refine wpOp_step (o:=?os38) ?hos38 (fun K hK=>?_)
    case hos38=>simp only [zge]; rfl
    refine step_loadW (by kernel_rfl) 30 (.tmp 2) rfl q 0 rfl A _ Tryd.underlying30 rfl IA.out (BA.out.below BW.out BA.out.lt).cells (hK _ _ ?_)
    clear hK K
    try simp only [zpt]
    exact ⟨_,_,rfl,BW,fun a=>by first | exact h34 (by simpa using a) | rfl,fun _=>rfl⟩
  case fin36 =>
   intro a v36 hI
   obtain ⟨x59,x60,rfl,BW,h34,h35⟩:=hI
   obtain rfl:=h34 (by decide)
   obtain rfl:=h35 (by decide)
   have hX:=BW.out
   replace PB:=Lib.hid (HB.out.below PB.out hX)
   replace BA:=Lib.hid (BA.out.below hX BA.out.lt)
   replace BB:=Lib.hid (BB.out.below hX BB.out.lt)
   replace BCn:=Lib.hid (BCn.out.below hX BCn.out.lt)
   replace BDn:=Lib.hid (BDn.out.below hX BDn.out.lt)
   replace W:=Lib.hid (W.out.trans (hX.mono W.out.size))
   clear hX BW h34 h35
   try dsimp only
   refine wpAny_ready (rs:=[36]) (by kernel_rfl) (by simp) ?_
   refine AllReady.cons (o:=?p39) ?q39 (fun K hK=>?_) AllReady.nil
   case q39=>simp only [zge]; rfl
   go_simp
   refine (CI2.out _ _ _ (HG.out.below W.out hsz) PB.out).mono ?_
   rintro e w16 ⟨rfl,hX⟩
   replace PB:=Lib.hid (HB.out.below PB.out hX)
   replace BA:=Lib.hid (BA.out.below hX BA.out.lt)
   replace BB:=Lib.hid (BB.out.below hX BB.out.lt)
   replace BCn:=Lib.hid (BCn.out.below hX BCn.out.lt)
   replace BDn:=Lib.hid (BDn.out.below hX BDn.out.lt)
   replace W:=Lib.hid (W.out.trans (hX.mono W.out.size))
   clear hX
   refine hK _ _ ?_
   clear hK K
   try simp only [zpt]
   refine wpAny_take (i:=37) (oi:=?oi40) (v:=.bool true) ?hi40 (by kernel_rfl) (by kernel_rfl) (by kernel_rfl) ?hQ40 ?hy40 ?rest40
   case hi40=>simp only [zge]; rfl
   case hQ40=>exact fun _ _ _ h=>h
   case hy40=>exact Or.inl ⟨by rfl,by intro w; go_simp⟩
   try simp only [zpt]
   refine wpAny_take (i:=38) (oi:=?oi41) (v:=.bool true) ?hi41 (by kernel_rfl) (by kernel_rfl) (by kernel_rfl) ?hQ41 ?hy41 ?rest41
   case hi41=>simp only [zge]; rfl
   case hQ41=>exact fun _ _ _ h=>h
   case hy41=>exact Or.inl ⟨by rfl,by intro w; go_simp⟩
   try simp only [zpt]
   refine wpAny_take (i:=39) (oi:=?oi42) (v:=.bool true) ?hi42 (by kernel_rfl) (by kernel_rfl) (by kernel_rfl) ?hQ42 ?hy42 ?rest42
   case hi42=>simp only [zge]; rfl
   case hQ42=>exact fun _ _ _ h=>h
   case hy42=>exact Or.inl ⟨by rfl,by intro w; go_simp⟩
   try simp only [zpt]
   refine wpAny_take (i:=40) (oi:=?oi43) (v:=.pointer (some ⟨q3,3,none⟩)) ?hi43 (by kernel_rfl) (by kernel_rfl) (by kernel_rfl) ?hQ43 ?hy43 ?rest43
   case hi43=>simp only [zge]; rfl
   case hQ43=>exact fun _ _ _ h=>h
   case hy43=>exact Or.inl ⟨by rfl,by intro w; go_simp⟩
   try simp only [zpt]
   refine phaseL (fun i=>if i=43 then [42] else []) (fun d a w'=>∃ x66 x67 x68:Value,a={ tmps:=#[.bool false,.pointer (some ⟨g,0,none⟩),.pointer (some ⟨q,0,none⟩),.pointer (some ⟨q3,0,none⟩),.pointer (some ⟨q4,0,none⟩),.pointer (some ⟨q5,0,none⟩),.pointer (some ⟨tp,0,none⟩),.pointer (some ⟨g,0,none⟩),.pointer (some ⟨g,0,none⟩),.agg K1.toArray,.agg Z.toArray,.agg Av.toArray,.agg A.toArray,.agg A.toArray,.agg B.toArray,.agg B.toArray,.pointer (some ⟨q4,67,none⟩),.int .i64 0,.int .i64 1,.pointer (some ⟨q4,67,none⟩),.agg B.toArray,.pointer (some ⟨q5,2,none⟩),.int .i64 2,.int .i64 3,.pointer (some ⟨q5,2,none⟩),.bool true,.bool true,.pointer (some ⟨q,0,none⟩),.int .i64 2,.bool true,.bool true,.bool true,.pointer (some ⟨q,1,none⟩),.int .i64 1,.bool true,.bool true,.bool true,.pointer (some ⟨q,2,none⟩),.int .i64 1,.bool true,.bool true,.bool true,.pointer (some ⟨q,68,none⟩),.pointer (some ⟨q,69,none⟩),.int .i64 1,.bool true,.bool true,.bool true,.agg A.toArray,.bool true,.bool true,.bool true,.pointer (some ⟨g,0,none⟩),.agg K1.toArray,.agg A.toArray,.bool true,.bool true,.bool true,.pointer (some ⟨g,0,none⟩),.agg K2.toArray,.agg A.toArray,.bool false,.bool true,.bool true,.bool true,.pointer (some ⟨q3,3,none⟩),x66,x67,x68,undef,undef,undef,undef,undef,undef,undef,undef,undef,undef,undef,undef,undef,undef,undef,undef,undef,undef,undef,undef,undef,undef,undef,undef,undef,undef,undef,undef,undef,undef,undef,undef,undef,undef,undef,undef,undef,undef,undef,undef],defers:=[] }/\Hid (Below w16.heap.size w16 w')/\(d 41=true->x66 = .agg HC.toArray)/\(d 42=true->x67 = .agg A.toArray)/\(d 43=true->x68 = .agg HC.toArray)) [41,42,43] ?step44 41 3 [41,42,43] _ _ _ rfl (by decide) (fun _ h=>h) (Fits.of (by kernel_rfl)) ?init44 ?fin44
   case init44=>refine ⟨_,_,_,rfl,Below.refl _ _,?_,?_,?_⟩ <;> (intro h; exact absurd h (by decide))
   case step44 =>
    intro i hi d a v44 hI hdi hdeps
    obtain ⟨x66,x67,x68,rfl,BW,h41,h42,h43⟩:=hI
    have hsw:=BW.out.size
    simp only [List.mem_cons,List.not_mem_nil,or_false] at hi
    rcases hi with rfl | rfl | rfl
    ·refine wpOp_step (o:=?os45) ?hos45 (fun K hK=>?_)
     case hos45=>simp only [zge]; rfl
     refine step_loadW (by kernel_rfl) 27 (.tmp 65) rfl q3 3 rfl HC _ Tryd.underlying27 rfl IH.out ((BB.out.below BW.out BB.out.lt).at_ LPB.out) (hK _ _ ?_)
     clear hK K
     try simp only [zpt]
     exact ⟨_,_,_,rfl,BW,fun _=>rfl,fun a=>by first | exact h42 (by simpa using a) | rfl,fun a=>by first | exact h43 (by simpa using a) | rfl⟩
    ·refine wpOp_step (o:=?os46) ?hos46 (fun K hK=>?_)
     case hos46=>simp only [zge]; rfl
     refine step_loadW (by kernel_rfl) 30 (.tmp 2) rfl q 0 rfl A _ Tryd.underlying30 rfl IA.out (BA.out.below BW.out BA.out.lt).cells (hK _ _ ?_)
     clear hK K
     try simp only [zpt]
     exact ⟨_,_,_,rfl,BW,fun a=>by first | exact h41 (by simpa using a) | rfl,fun _=>rfl,fun a=>by first | exact h43 (by simpa using a) | rfl⟩
    ·obtain rfl:=h42 (hdeps 42 (by simp))
     refine wpOp_step (o:=?os47) ?hos47 (fun K hK=>?_)
     case hos47=>simp only [zge]; rfl
     go_simp
     refine (CH1.out v44 (HG.out.below (W.out.trans (BW.out.mono W.out.size)) hsz)).mono ?_
     rintro e u44 ⟨rfl,hX⟩
     refine hK _ _ ?_
     clear hK K
     try simp only [zpt]
     exact ⟨_,_,_,rfl,BW.out.trans (hX.mono hsw),fun a=>by first | exact h41 (by simpa using a) | rfl,fun a=>by first | exact h42 (by simpa using a) | rfl,fun _=>rfl⟩
   case fin44 =>
    intro a v44 hI
    obtain ⟨x66,x67,x68,rfl,BW,h41,h42,h43⟩:=hI
    obtain rfl:=h41 (by decide)
    obtain rfl:=h42 (by decide)
    obtain rfl:=h43 (by decide)
    have hX:=BW.out
    replace PB:=Lib.hid (HB.out.below PB.out hX)
    replace BA:=Lib.hid (BA.out.below hX BA.out.lt)
    replace BB:=Lib.hid (BB.out.below hX BB.out.lt)
    replace BCn:=Lib.hid (BCn.out.below hX BCn.out.lt)
    replace BDn:=Lib.hid (BDn.out.below hX BDn.out.lt)
    replace W:=Lib.hid (W.out.trans (hX.mono W.out.size))
    clear hX BW h41 h42 h43
    try dsimp only
    refine wpAny_take (i:=44) (oi:=?oi48) (v:=.bool true) ?hi48 (by kernel_rfl) (by kernel_rfl) (by kernel_rfl) ?hQ48 ?hy48 ?rest48
    case hi48=>simp only [zge]; rfl
    case hQ48=>exact fun _ _ _ h=>h
    case hy48=>exact Or.inl ⟨by rfl,by intro w; go_simp⟩
    try simp only [zpt]
    refine wpAny_take (i:=45) (oi:=?oi49) (v:=.bool true) ?hi49 (by kernel_rfl) (by kernel_rfl) (by kernel_rfl) ?hQ49 ?hy49 ?rest49
    case hi49=>simp only [zge]; rfl
    case hQ49=>exact fun _ _ _ h=>h
    case hy49=>exact Or.inl ⟨by rfl,by intro w; go_simp⟩
    try simp only [zpt]
    refine wpAny_take (i:=46) (oi:=?oi50) (v:=.bool true) ?hi50 (by kernel_rfl) (by kernel_rfl) (by kernel_rfl) ?hQ50 ?hy50 ?rest50
    case hi50=>simp only [zge]; rfl
    case hQ50=>exact fun _ _ _ h=>h
    case hy50=>exact Or.inl ⟨by rfl,by intro w; go_simp⟩
    try simp only [zpt]
    refine phaseL (fun i=>if i=48 then [47] else []) (fun d a w'=>∃ x72 x73 x74:Value,a={ tmps:=#[.bool false,.pointer (some ⟨g,0,none⟩),.pointer (some ⟨q,0,none⟩),.pointer (some ⟨q3,0,none⟩),.pointer (some ⟨q4,0,none⟩),.pointer (some ⟨q5,0,none⟩),.pointer (some ⟨tp,0,none⟩),.pointer (some ⟨g,0,none⟩),.pointer (some ⟨g,0,none⟩),.agg K1.toArray,.agg Z.toArray,.agg Av.toArray,.agg A.toArray,.agg A.toArray,.agg B.toArray,.agg B.toArray,.pointer (some ⟨q4,67,none⟩),.int .i64 0,.int .i64 1,.pointer (some ⟨q4,67,none⟩),.agg B.toArray,.pointer (some ⟨q5,2,none⟩),.int .i64 2,.int .i64 3,.pointer (some ⟨q5,2,none⟩),.bool true,.bool true,.pointer (some ⟨q,0,none⟩),.int .i64 2,.bool true,.bool true,.bool true,.pointer (some ⟨q,1,none⟩),.int .i64 1,.bool true,.bool true,.bool true,.pointer (some ⟨q,2,none⟩),.int .i64 1,.bool true,.bool true,.bool true,.pointer (some ⟨q,68,none⟩),.pointer (some ⟨q,69,none⟩),.int .i64 1,.bool true,.bool true,.bool true,.agg A.toArray,.bool true,.bool true,.bool true,.pointer (some ⟨g,0,none⟩),.agg K1.toArray,.agg A.toArray,.bool true,.bool true,.bool true,.pointer (some ⟨g,0,none⟩),.agg K2.toArray,.agg A.toArray,.bool false,.bool true,.bool true,.bool true,.pointer (some ⟨q3,3,none⟩),.agg HC.toArray,.agg A.toArray,.agg HC.toArray,.bool true,.bool true,.bool true,x72,x73,x74,undef,undef,undef,undef,undef,undef,undef,undef,undef,undef,undef,undef,undef,undef,undef,undef,undef,undef,undef,undef,undef,undef,undef,undef,undef,undef,undef,undef,undef,undef,undef,undef,undef,undef],defers:=[] }/\Hid (Below v44.heap.size v44 w')/\(d 47=true->x72 = .agg A.toArray)/\(d 48=true->x73 = .agg HC.toArray)/\(d 49=true->x74 = .agg ZH.toArray)) [47,48,49] ?step51 35 3 [47,48,49] _ _ _ rfl (by decide) (fun _ h=>h) (Fits.of (by kernel_rfl)) ?init51 ?fin51
    case init51=>refine ⟨_,_,_,rfl,Below.refl _ _,?_,?_,?_⟩ <;> (intro h; exact absurd h (by decide))
    case step51 =>
     intro i hi d a v51 hI hdi hdeps
     obtain ⟨x72,x73,x74,rfl,BW,h47,h48,h49⟩:=hI
     have hsw:=BW.out.size
     simp only [List.mem_cons,List.not_mem_nil,or_false] at hi
     rcases hi with rfl | rfl | rfl
     ·refine wpOp_step (o:=?os52) ?hos52 (fun K hK=>?_)
      case hos52=>simp only [zge]; rfl
      refine step_loadW (by kernel_rfl) 30 (.tmp 2) rfl q 0 rfl A _ Tryd.underlying30 rfl IA.out (BA.out.below BW.out BA.out.lt).cells (hK _ _ ?_)
      clear hK K
      try simp only [zpt]
      exact ⟨_,_,_,rfl,BW,fun _=>rfl,fun a=>by first | exact h48 (by simpa using a) | rfl,fun a=>by first | exact h49 (by simpa using a) | rfl⟩
     ·obtain rfl:=h47 (hdeps 47 (by simp))
      refine wpOp_step (o:=?os53) ?hos53 (fun K hK=>?_)
      case hos53=>simp only [zge]; rfl
      go_simp
      refine (CH1.out v51 (HG.out.below (W.out.trans (BW.out.mono W.out.size)) hsz)).mono ?_
      rintro e u51 ⟨rfl,hX⟩
      refine hK _ _ ?_
      clear hK K
      try simp only [zpt]
      exact ⟨_,_,_,rfl,BW.out.trans (hX.mono hsw),fun a=>by first | exact h47 (by simpa using a) | rfl,fun _=>rfl,fun a=>by first | exact h49 (by simpa using a) | rfl⟩
     ·refine wpOp_step (o:=?os54) ?hos54 (fun K hK=>?_)
      case hos54=>simp only [zge]; rfl
      refine step_build (by kernel_rfl) 27 #[] rfl ZH (by simp only [List.map_toArray,List.map_cons,List.map_nil]; with_unfolding_all exact BH0.out) (hK _ _ ?_)
      clear hK K
      try simp only [zpt]
      exact ⟨_,_,_,rfl,BW,fun a=>by first | exact h47 (by simpa using a) | rfl,fun a=>by first | exact h48 (by simpa using a) | rfl,fun _=>rfl⟩
    case fin51 =>
     intro a v51 hI
     obtain ⟨x72,x73,x74,rfl,BW,h47,h48,h49⟩:=hI
     obtain rfl:=h47 (by decide)
     obtain rfl:=h48 (by decide)
     obtain rfl:=h49 (by decide)
     have hX:=BW.out
     replace PB:=Lib.hid (HB.out.below PB.out hX)
     replace BA:=Lib.hid (BA.out.below hX BA.out.lt)
     replace BB:=Lib.hid (BB.out.below hX BB.out.lt)
     replace BCn:=Lib.hid (BCn.out.below hX BCn.out.lt)
     replace BDn:=Lib.hid (BDn.out.below hX BDn.out.lt)
     replace W:=Lib.hid (W.out.trans (hX.mono W.out.size))
     clear hX BW h47 h48 h49
     try dsimp only
     refine wpAny_take (i:=50) (oi:=?oi55) (v:=.bool true) ?hi55 (by kernel_rfl) (by kernel_rfl) (by kernel_rfl) ?hQ55 ?hy55 ?rest55
     case hi55=>simp only [zge]; rfl
     case hQ55=>exact fun _ _ _ h=>h
     case hy55=>exact Or.inl ⟨by rfl,by intro w; go_simp⟩
     try simp only [zpt]
     refine wpAny_take (i:=51) (oi:=?oi56) (v:=.bool true) ?hi56 (by kernel_rfl) (by kernel_rfl) (by kernel_rfl) ?hQ56 ?hy56 ?rest56
     case hi56=>simp only [zge]; rfl
     case hQ56=>exact fun _ _ _ h=>h
     case hy56=>exact Or.inl ⟨by rfl,by intro w; go_simp⟩
     try simp only [zpt]
     refine wpAny_take (i:=52) (oi:=?oi57) (v:=.bool true) ?hi57 (by kernel_rfl) (by kernel_rfl) (by kernel_rfl) ?hQ57 ?hy57 ?rest57
     case hi57=>simp only [zge]; rfl
     case hQ57=>exact fun _ _ _ h=>h
     case hy57=>exact Or.inl ⟨by rfl,by intro w; go_simp⟩
     try simp only [zpt]
     refine phaseL (fun i=>if i=54 then [53] else []) (fun d a w'=>∃ x78 x79 x80:Value,a={ tmps:=#[.bool false,.pointer (some ⟨g,0,none⟩),.pointer (some ⟨q,0,none⟩),.pointer (some ⟨q3,0,none⟩),.pointer (some ⟨q4,0,none⟩),.pointer (some ⟨q5,0,none⟩),.pointer (some ⟨tp,0,none⟩),.pointer (some ⟨g,0,none⟩),.pointer (some ⟨g,0,none⟩),.agg K1.toArray,.agg Z.toArray,.agg Av.toArray,.agg A.toArray,.agg A.toArray,.agg B.toArray,.agg B.toArray,.pointer (some ⟨q4,67,none⟩),.int .i64 0,.int .i64 1,.pointer (some ⟨q4,67,none⟩),.agg B.toArray,.pointer (some ⟨q5,2,none⟩),.int .i64 2,.int .i64 3,.pointer (some ⟨q5,2,none⟩),.bool true,.bool true,.pointer (some ⟨q,0,none⟩),.int .i64 2,.bool true,.bool true,.bool true,.pointer (some ⟨q,1,none⟩),.int .i64 1,.bool true,.bool true,.bool true,.pointer (some ⟨q,2,none⟩),.int .i64 1,.bool true,.bool true,.bool true,.pointer (some ⟨q,68,none⟩),.pointer (some ⟨q,69,none⟩),.int .i64 1,.bool true,.bool true,.bool true,.agg A.toArray,.bool true,.bool true,.bool true,.pointer (some ⟨g,0,none⟩),.agg K1.toArray,.agg A.toArray,.bool true,.bool true,.bool true,.pointer (some ⟨g,0,none⟩),.agg K2.toArray,.agg A.toArray,.bool false,.bool true,.bool true,.bool true,.pointer (some ⟨q3,3,none⟩),.agg HC.toArray,.agg A.toArray,.agg HC.toArray,.bool true,.bool true,.bool true,.agg A.toArray,.agg HC.toArray,.agg ZH.toArray,.bool true,.bool true,.bool true,x78,x79,x80,undef,undef,undef,undef,undef,undef,undef,undef,undef,undef,undef,undef,undef,undef,undef,undef,undef,undef,undef,undef,undef,undef,undef,undef,undef,undef,undef,undef],defers:=[] }/\Hid (Below v51.heap.size v51 w')/\(d 53=true->x78 = .agg Z.toArray)/\(d 54=true->x79 = .agg ZH.toArray)/\(d 55=true->x80 = .agg ZH.toArray)) [53,54,55] ?step58 29 3 [53,54,55] _ _ _ rfl (by decide) (fun _ h=>h) (Fits.of (by kernel_rfl)) ?init58 ?fin58
     case init58=>refine ⟨_,_,_,rfl,Below.refl _ _,?_,?_,?_⟩ <;> (intro h; exact absurd h (by decide))
     case step58 =>
      intro i hi d a v58 hI hdi hdeps
      obtain ⟨x78,x79,x80,rfl,BW,h53,h54,h55⟩:=hI
      have hsw:=BW.out.size
      simp only [List.mem_cons,List.not_mem_nil,or_false] at hi
      rcases hi with rfl | rfl | rfl
      ·refine wpOp_step (o:=?os59) ?hos59 (fun K hK=>?_)
       case hos59=>simp only [zge]; rfl
       refine step_build (by kernel_rfl) 30 #[] rfl Z (by simp only [List.map_toArray,List.map_cons,List.map_nil]; with_unfolding_all exact BZ0.out) (hK _ _ ?_)
       clear hK K
       try simp only [zpt]
       exact ⟨_,_,_,rfl,BW,fun _=>rfl,fun a=>by first | exact h54 (by simpa using a) | rfl,fun a=>by first | exact h55 (by simpa using a) | rfl⟩
      ·obtain rfl:=h53 (hdeps 53 (by simp))
       refine wpOp_step (o:=?os60) ?hos60 (fun K hK=>?_)
       case hos60=>simp only [zge]; rfl
       go_simp
       refine (CH0.out v58 (HG.out.below (W.out.trans (BW.out.mono W.out.size)) hsz)).mono ?_
       rintro e u58 ⟨rfl,hX⟩
       refine hK _ _ ?_
       clear hK K
       try simp only [zpt]
       exact ⟨_,_,_,rfl,BW.out.trans (hX.mono hsw),fun a=>by first | exact h53 (by simpa using a) | rfl,fun _=>rfl,fun a=>by first | exact h55 (by simpa using a) | rfl⟩
      ·refine wpOp_step (o:=?os61) ?hos61 (fun K hK=>?_)
       case hos61=>simp only [zge]; rfl
       refine step_build (by kernel_rfl) 27 #[] rfl ZH (by simp only [List.map_toArray,List.map_cons,List.map_nil]; with_unfolding_all exact BH0.out) (hK _ _ ?_)
       clear hK K
       try simp only [zpt]
       exact ⟨_,_,_,rfl,BW,fun a=>by first | exact h53 (by simpa using a) | rfl,fun a=>by first | exact h54 (by simpa using a) | rfl,fun _=>rfl⟩
     case fin58 =>
      intro a v58 hI
      obtain ⟨x78,x79,x80,rfl,BW,h53,h54,h55⟩:=hI
      obtain rfl:=h53 (by decide)
      obtain rfl:=h54 (by decide)
      obtain rfl:=h55 (by decide)
      have hX:=BW.out
      replace PB:=Lib.hid (HB.out.below PB.out hX)
      replace BA:=Lib.hid (BA.out.below hX BA.out.lt)
      replace BB:=Lib.hid (BB.out.below hX BB.out.lt)
      replace BCn:=Lib.hid (BCn.out.below hX BCn.out.lt)
      replace BDn:=Lib.hid (BDn.out.below hX BDn.out.lt)
      replace W:=Lib.hid (W.out.trans (hX.mono W.out.size))
      clear hX BW h53 h54 h55
      try dsimp only
      refine wpAny_take (i:=56) (oi:=?oi62) (v:=.bool true) ?hi62 (by kernel_rfl) (by kernel_rfl) (by kernel_rfl) ?hQ62 ?hy62 ?rest62
      case hi62=>simp only [zge]; rfl
      case hQ62=>exact fun _ _ _ h=>h
      case hy62=>exact Or.inl ⟨by rfl,by intro w; go_simp⟩
      try simp only [zpt]
      refine wpAny_take (i:=57) (oi:=?oi63) (v:=.bool true) ?hi63 (by kernel_rfl) (by kernel_rfl) (by kernel_rfl) ?hQ63 ?hy63 ?rest63
      case hi63=>simp only [zge]; rfl
      case hQ63=>exact fun _ _ _ h=>h
      case hy63=>exact Or.inl ⟨by rfl,by intro w; go_simp⟩
      try simp only [zpt]
      refine wpAny_take (i:=58) (oi:=?oi64) (v:=.bool true) ?hi64 (by kernel_rfl) (by kernel_rfl) (by kernel_rfl) ?hQ64 ?hy64 ?rest64
      case hi64=>simp only [zge]; rfl
      case hQ64=>exact fun _ _ _ h=>h
      case hy64=>exact Or.inl ⟨by rfl,by intro w; go_simp⟩
      try simp only [zpt]
      refine phaseL (fun i=>[]) (fun d a w'=>∃ x84 x85:Value,a={ tmps:=#[.bool false,.pointer (some ⟨g,0,none⟩),.pointer (some ⟨q,0,none⟩),.pointer (some ⟨q3,0,none⟩),.pointer (some ⟨q4,0,none⟩),.pointer (some ⟨q5,0,none⟩),.pointer (some ⟨tp,0,none⟩),.pointer (some ⟨g,0,none⟩),.pointer (some ⟨g,0,none⟩),.agg K1.toArray,.agg Z.toArray,.agg Av.toArray,.agg A.toArray,.agg A.toArray,.agg B.toArray,.agg B.toArray,.pointer (some ⟨q4,67,none⟩),.int .i64 0,.int .i64 1,.pointer (some ⟨q4,67,none⟩),.agg B.toArray,.pointer (some ⟨q5,2,none⟩),.int .i64 2,.int .i64 3,.pointer (some ⟨q5,2,none⟩),.bool true,.bool true,.pointer (some ⟨q,0,none⟩),.int .i64 2,.bool true,.bool true,.bool true,.pointer (some ⟨q,1,none⟩),.int .i64 1,.bool true,.bool true,.bool true,.pointer (some ⟨q,2,none⟩),.int .i64 1,.bool true,.bool true,.bool true,.pointer (some ⟨q,68,none⟩),.pointer (some ⟨q,69,none⟩),.int .i64 1,.bool true,.bool true,.bool true,.agg A.toArray,.bool true,.bool true,.bool true,.pointer (some ⟨g,0,none⟩),.agg K1.toArray,.agg A.toArray,.bool true,.bool true,.bool true,.pointer (some ⟨g,0,none⟩),.agg K2.toArray,.agg A.toArray,.bool false,.bool true,.bool true,.bool true,.pointer (some ⟨q3,3,none⟩),.agg HC.toArray,.agg A.toArray,.agg HC.toArray,.bool true,.bool true,.bool true,.agg A.toArray,.agg HC.toArray,.agg ZH.toArray,.bool true,.bool true,.bool true,.agg Z.toArray,.agg ZH.toArray,.agg ZH.toArray,.bool true,.bool true,.bool true,x84,x85,undef,undef,undef,undef,undef,undef,undef,undef,undef,undef,undef,undef,undef,undef,undef,undef,undef,undef,undef,undef,undef,undef,undef],defers:=[] }/\Hid (Below v58.heap.size v58 w')/\(d 59=true->x84 = .agg Z.toArray)/\(d 60=true->x85 = .agg A.toArray)) [59,60] ?step65 24 2 [59,60] _ _ _ rfl (by decide) (fun _ h=>h) (Fits.of (by kernel_rfl)) ?init65 ?fin65
      case init65=>refine ⟨_,_,rfl,Below.refl _ _,?_,?_⟩ <;> (intro h; exact absurd h (by decide))
      case step65 =>
       intro i hi d a v65 hI hdi hdeps
       obtain ⟨x84,x85,rfl,BW,h59,h60⟩:=hI
       have hsw:=BW.out.size
       simp only [List.mem_cons,List.not_mem_nil,or_false] at hi
       rcases hi with rfl | rfl
       ·refine wpOp_step (o:=?os66) ?hos66 (fun K hK=>?_)
        case hos66=>simp only [zge]; rfl
        refine step_build (by kernel_rfl) 30 #[] rfl Z (by simp only [List.map_toArray,List.map_cons,List.map_nil]; with_unfolding_all exact BZ0.out) (hK _ _ ?_)
        clear hK K
        try simp only [zpt]
        exact ⟨_,_,rfl,BW,fun _=>rfl,fun a=>by first | exact h60 (by simpa using a) | rfl⟩
       ·refine wpOp_step (o:=?os67) ?hos67 (fun K hK=>?_)
        case hos67=>simp only [zge]; rfl
        refine step_loadW (by kernel_rfl) 30 (.tmp 2) rfl q 0 rfl A _ Tryd.underlying30 rfl IA.out (BA.out.below BW.out BA.out.lt).cells (hK _ _ ?_)
        clear hK K
        try simp only [zpt]
        exact ⟨_,_,rfl,BW,fun a=>by first | exact h59 (by simpa using a) | rfl,fun _=>rfl⟩
      case fin65 =>
       intro a v65 hI
       obtain ⟨x84,x85,rfl,BW,h59,h60⟩:=hI
       obtain rfl:=h59 (by decide)
       obtain rfl:=h60 (by decide)
       have hX:=BW.out
       replace PB:=Lib.hid (HB.out.below PB.out hX)
       replace BA:=Lib.hid (BA.out.below hX BA.out.lt)
       replace BB:=Lib.hid (BB.out.below hX BB.out.lt)
       replace BCn:=Lib.hid (BCn.out.below hX BCn.out.lt)
       replace BDn:=Lib.hid (BDn.out.below hX BDn.out.lt)
       replace W:=Lib.hid (W.out.trans (hX.mono W.out.size))
       clear hX BW h59 h60
       try dsimp only
       refine wpAny_ready (rs:=[61]) (by kernel_rfl) (by simp) ?_
       refine AllReady.cons (o:=?p68) ?q68 (fun K hK=>?_) AllReady.nil
       case q68=>simp only [zge]; rfl
       go_simp
       refine (CF1.out _ (HG.out.below W.out hsz)).mono ?_
       rintro e w17 ⟨rfl,hX⟩
       replace PB:=Lib.hid (HB.out.below PB.out hX)
       replace BA:=Lib.hid (BA.out.below hX BA.out.lt)
       replace BB:=Lib.hid (BB.out.below hX BB.out.lt)
       replace BCn:=Lib.hid (BCn.out.below hX BCn.out.lt)
       replace BDn:=Lib.hid (BDn.out.below hX BDn.out.lt)
       replace W:=Lib.hid (W.out.trans (hX.mono W.out.size))
       clear hX
       refine hK _ _ ?_
       clear hK K
       try simp only [zpt]
       refine wpAny_take (i:=62) (oi:=?oi69) (v:=.bool true) ?hi69 (by kernel_rfl) (by kernel_rfl) (by kernel_rfl) ?hQ69 ?hy69 ?rest69
       case hi69=>simp only [zge]; rfl
       case hQ69=>exact fun _ _ _ h=>h
       case hy69=>exact Or.inl ⟨by rfl,by intro w; go_simp⟩
       try simp only [zpt]
       refine wpAny_take (i:=63) (oi:=?oi70) (v:=.bool true) ?hi70 (by kernel_rfl) (by kernel_rfl) (by kernel_rfl) ?hQ70 ?hy70 ?rest70
       case hi70=>simp only [zge]; rfl
       case hQ70=>exact fun _ _ _ h=>h
       case hy70=>exact Or.inl ⟨by rfl,by intro w; go_simp⟩
       try simp only [zpt]
       refine phaseL (fun i=>[]) (fun d a w'=>∃ x89 x90:Value,a={ tmps:=#[.bool false,.pointer (some ⟨g,0,none⟩),.pointer (some ⟨q,0,none⟩),.pointer (some ⟨q3,0,none⟩),.pointer (some ⟨q4,0,none⟩),.pointer (some ⟨q5,0,none⟩),.pointer (some ⟨tp,0,none⟩),.pointer (some ⟨g,0,none⟩),.pointer (some ⟨g,0,none⟩),.agg K1.toArray,.agg Z.toArray,.agg Av.toArray,.agg A.toArray,.agg A.toArray,.agg B.toArray,.agg B.toArray,.pointer (some ⟨q4,67,none⟩),.int .i64 0,.int .i64 1,.pointer (some ⟨q4,67,none⟩),.agg B.toArray,.pointer (some ⟨q5,2,none⟩),.int .i64 2,.int .i64 3,.pointer (some ⟨q5,2,none⟩),.bool true,.bool true,.pointer (some ⟨q,0,none⟩),.int .i64 2,.bool true,.bool true,.bool true,.pointer (some ⟨q,1,none⟩),.int .i64 1,.bool true,.bool true,.bool true,.pointer (some ⟨q,2,none⟩),.int .i64 1,.bool true,.bool true,.bool true,.pointer (some ⟨q,68,none⟩),.pointer (some ⟨q,69,none⟩),.int .i64 1,.bool true,.bool true,.bool true,.agg A.toArray,.bool true,.bool true,.bool true,.pointer (some ⟨g,0,none⟩),.agg K1.toArray,.agg A.toArray,.bool true,.bool true,.bool true,.pointer (some ⟨g,0,none⟩),.agg K2.toArray,.agg A.toArray,.bool false,.bool true,.bool true,.bool true,.pointer (some ⟨q3,3,none⟩),.agg HC.toArray,.agg A.toArray,.agg HC.toArray,.bool true,.bool true,.bool true,.agg A.toArray,.agg HC.toArray,.agg ZH.toArray,.bool true,.bool true,.bool true,.agg Z.toArray,.agg ZH.toArray,.agg ZH.toArray,.bool true,.bool true,.bool true,.agg Z.toArray,.agg A.toArray,.bool true,.bool true,.bool true,x89,x90,undef,undef,undef,undef,undef,undef,undef,undef,undef,undef,undef,undef,undef,undef,undef,undef,undef,undef],defers:=[] }/\Hid (Below w17.heap.size w17 w')/\(d 64=true->x89 = .agg A.toArray)/\(d 65=true->x90 = .agg B.toArray)) [64,65] ?step71 19 2 [64,65] _ _ _ rfl (by decide) (fun _ h=>h) (Fits.of (by kernel_rfl)) ?init71 ?fin71
       case init71=>refine ⟨_,_,rfl,Below.refl _ _,?_,?_⟩ <;> (intro h; exact absurd h (by decide))
       case step71 =>
        intro i hi d a v71 hI hdi hdeps
        obtain ⟨x89,x90,rfl,BW,h64,h65⟩:=hI
        have hsw:=BW.out.size
        simp only [List.mem_cons,List.not_mem_nil,or_false] at hi
        rcases hi with rfl | rfl
        ·refine wpOp_step (o:=?os72) ?hos72 (fun K hK=>?_)
         case hos72=>simp only [zge]; rfl
         refine step_loadW (by kernel_rfl) 30 (.tmp 2) rfl q 0 rfl A _ Tryd.underlying30 rfl IA.out (BA.out.below BW.out BA.out.lt).cells (hK _ _ ?_)
         clear hK K
         try simp only [zpt]
         exact ⟨_,_,rfl,BW,fun _=>rfl,fun a=>by first | exact h65 (by simpa using a) | rfl⟩
        ·refine wpOp_step (o:=?os73) ?hos73 (fun K hK=>?_)
         case hos73=>simp only [zge]; rfl
         refine step_loadW (by kernel_rfl) 30 (.tmp 3) rfl q3 0 rfl B _ Tryd.underlying30 rfl IB.out (BB.out.below BW.out BB.out.lt).cells (hK _ _ ?_)
         clear hK K
         try simp only [zpt]
         exact ⟨_,_,rfl,BW,fun a=>by first | exact h64 (by simpa using a) | rfl,fun _=>rfl⟩
       case fin71 =>
        intro a v71 hI
        obtain ⟨x89,x90,rfl,BW,h64,h65⟩:=hI
        obtain rfl:=h64 (by decide)
        obtain rfl:=h65 (by decide)
        have hX:=BW.out
        replace PB:=Lib.hid (HB.out.below PB.out hX)
        replace BA:=Lib.hid (BA.out.below hX BA.out.lt)
        replace BB:=Lib.hid (BB.out.below hX BB.out.lt)
        replace BCn:=Lib.hid (BCn.out.below hX BCn.out.lt)
        replace BDn:=Lib.hid (BDn.out.below hX BDn.out.lt)
        replace W:=Lib.hid (W.out.trans (hX.mono W.out.size))
        clear hX BW h64 h65
        try dsimp only
        refine wpAny_ready (rs:=[66]) (by kernel_rfl) (by simp) ?_
        refine AllReady.cons (o:=?p74) ?q74 (fun K hK=>?_) AllReady.nil
        case q74=>simp only [zge]; rfl
        go_simp
        refine (CF2.out _ (HG.out.below W.out hsz)).mono ?_
        rintro e w18 ⟨rfl,hX⟩
        replace PB:=Lib.hid (HB.out.below PB.out hX)
        replace BA:=Lib.hid (BA.out.below hX BA.out.lt)
        replace BB:=Lib.hid (BB.out.below hX BB.out.lt)
        replace BCn:=Lib.hid (BCn.out.below hX BCn.out.lt)
        replace BDn:=Lib.hid (BDn.out.below hX BDn.out.lt)
        replace W:=Lib.hid (W.out.trans (hX.mono W.out.size))
        clear hX
        refine hK _ _ ?_
        clear hK K
        try simp only [zpt]
        refine wpAny_take (i:=67) (oi:=?oi75) (v:=.bool true) ?hi75 (by kernel_rfl) (by kernel_rfl) (by kernel_rfl) ?hQ75 ?hy75 ?rest75
        case hi75=>simp only [zge]; rfl
        case hQ75=>exact fun _ _ _ h=>h
        case hy75=>exact Or.inl ⟨by rfl,by intro w; go_simp⟩
        try simp only [zpt]
        refine wpAny_take (i:=68) (oi:=?oi76) (v:=.bool true) ?hi76 (by kernel_rfl) (by kernel_rfl) (by kernel_rfl) ?hQ76 ?hy76 ?rest76
        case hi76=>simp only [zge]; rfl
        case hQ76=>exact fun _ _ _ h=>h
        case hy76=>exact Or.inl ⟨by rfl,by intro w; go_simp⟩
        try simp only [zpt]
        refine phaseL (fun i=>[]) (fun d a w'=>∃ x94 x95:Value,a={ tmps:=#[.bool false,.pointer (some ⟨g,0,none⟩),.pointer (some ⟨q,0,none⟩),.pointer (some ⟨q3,0,none⟩),.pointer (some ⟨q4,0,none⟩),.pointer (some ⟨q5,0,none⟩),.pointer (some ⟨tp,0,none⟩),.pointer (some ⟨g,0,none⟩),.pointer (some ⟨g,0,none⟩),.agg K1.toArray,.agg Z.toArray,.agg Av.toArray,.agg A.toArray,.agg A.toArray,.agg B.toArray,.agg B.toArray,.pointer (some ⟨q4,67,none⟩),.int .i64 0,.int .i64 1,.pointer (some ⟨q4,67,none⟩),.agg B.toArray,.pointer (some ⟨q5,2,none⟩),.int .i64 2,.int .i64 3,.pointer (some ⟨q5,2,none⟩),.bool true,.bool true,.pointer (some ⟨q,0,none⟩),.int .i64 2,.bool true,.bool true,.bool true,.pointer (some ⟨q,1,none⟩),.int .i64 1,.bool true,.bool true,.bool true,.pointer (some ⟨q,2,none⟩),.int .i64 1,.bool true,.bool true,.bool true,.pointer (some ⟨q,68,none⟩),.pointer (some ⟨q,69,none⟩),.int .i64 1,.bool true,.bool true,.bool true,.agg A.toArray,.bool true,.bool true,.bool true,.pointer (some ⟨g,0,none⟩),.agg K1.toArray,.agg A.toArray,.bool true,.bool true,.bool true,.pointer (some ⟨g,0,none⟩),.agg K2.toArray,.agg A.toArray,.bool false,.bool true,.bool true,.bool true,.pointer (some ⟨q3,3,none⟩),.agg HC.toArray,.agg A.toArray,.agg HC.toArray,.bool true,.bool true,.bool true,.agg A.toArray,.agg HC.toArray,.agg ZH.toArray,.bool true,.bool true,.bool true,.agg Z.toArray,.agg ZH.toArray,.agg ZH.toArray,.bool true,.bool true,.bool true,.agg Z.toArray,.agg A.toArray,.bool true,.bool true,.bool true,.agg A.toArray,.agg B.toArray,.bool true,.bool true,.bool true,x94,x95,undef,undef,undef,undef,undef,undef,undef,undef,undef,undef,undef,undef,undef],defers:=[] }/\Hid (Below w18.heap.size w18 w')/\(d 69=true->x94 = .agg A.toArray)/\(d 70=true->x95 = .agg Cc.toArray)) [69,70] ?step77 14 2 [69,70] _ _ _ rfl (by decide) (fun _ h=>h) (Fits.of (by kernel_rfl)) ?init77 ?fin77
        case init77=>refine ⟨_,_,rfl,Below.refl _ _,?_,?_⟩ <;> (intro h; exact absurd h (by decide))
        case step77 =>
         intro i hi d a v77 hI hdi hdeps
         obtain ⟨x94,x95,rfl,BW,h69,h70⟩:=hI
         have hsw:=BW.out.size
         simp only [List.mem_cons,List.not_mem_nil,or_false] at hi
         rcases hi with rfl | rfl
         ·refine wpOp_step (o:=?os78) ?hos78 (fun K hK=>?_)
          case hos78=>simp only [zge]; rfl
          refine step_loadW (by kernel_rfl) 30 (.tmp 2) rfl q 0 rfl A _ Tryd.underlying30 rfl IA.out (BA.out.below BW.out BA.out.lt).cells (hK _ _ ?_)
          clear hK K
          try simp only [zpt]
          exact ⟨_,_,rfl,BW,fun _=>rfl,fun a=>by first | exact h70 (by simpa using a) | rfl⟩
         ·refine wpOp_step (o:=?os79) ?hos79 (fun K hK=>?_)
          case hos79=>simp only [zge]; rfl
          refine step_loadW (by kernel_rfl) 30 (.tmp 4) rfl q4 0 rfl Cc _ Tryd.underlying30 rfl ICc.out (BCn.out.below BW.out BCn.out.lt).cells (hK _ _ ?_)
          clear hK K
          try simp only [zpt]
          exact ⟨_,_,rfl,BW,fun a=>by first | exact h69 (by simpa using a) | rfl,fun _=>rfl⟩
        case fin77 =>
         intro a v77 hI
         obtain ⟨x94,x95,rfl,BW,h69,h70⟩:=hI
         obtain rfl:=h69 (by decide)
         obtain rfl:=h70 (by decide)
         have hX:=BW.out
         replace PB:=Lib.hid (HB.out.below PB.out hX)
         replace BA:=Lib.hid (BA.out.below hX BA.out.lt)
         replace BB:=Lib.hid (BB.out.below hX BB.out.lt)
         replace BCn:=Lib.hid (BCn.out.below hX BCn.out.lt)
         replace BDn:=Lib.hid (BDn.out.below hX BDn.out.lt)
         replace W:=Lib.hid (W.out.trans (hX.mono W.out.size))
         clear hX BW h69 h70
         try dsimp only
         refine wpAny_ready (rs:=[71]) (by kernel_rfl) (by simp) ?_
         refine AllReady.cons (o:=?p80) ?q80 (fun K hK=>?_) AllReady.nil
         case q80=>simp only [zge]; rfl
         go_simp
         refine (CF3.out _ (HG.out.below W.out hsz)).mono ?_
         rintro e w19 ⟨rfl,hX⟩
         replace PB:=Lib.hid (HB.out.below PB.out hX)
         replace BA:=Lib.hid (BA.out.below hX BA.out.lt)
         replace BB:=Lib.hid (BB.out.below hX BB.out.lt)
         replace BCn:=Lib.hid (BCn.out.below hX BCn.out.lt)
         replace BDn:=Lib.hid (BDn.out.below hX BDn.out.lt)
         replace W:=Lib.hid (W.out.trans (hX.mono W.out.size))
         clear hX
         refine hK _ _ ?_
         clear hK K
         try simp only [zpt]
         refine wpAny_take (i:=72) (oi:=?oi81) (v:=.bool true) ?hi81 (by kernel_rfl) (by kernel_rfl) (by kernel_rfl) ?hQ81 ?hy81 ?rest81
         case hi81=>simp only [zge]; rfl
         case hQ81=>exact fun _ _ _ h=>h
         case hy81=>exact Or.inl ⟨by rfl,by intro w; go_simp⟩
         try simp only [zpt]
         refine wpAny_take (i:=73) (oi:=?oi82) (v:=.bool true) ?hi82 (by kernel_rfl) (by kernel_rfl) (by kernel_rfl) ?hQ82 ?hy82 ?rest82
         case hi82=>simp only [zge]; rfl
         case hQ82=>exact fun _ _ _ h=>h
         case hy82=>exact Or.inl ⟨by rfl,by intro w; go_simp⟩
         try simp only [zpt]
         refine phaseL (fun i=>[]) (fun d a w'=>∃ x99 x100:Value,a={ tmps:=#[.bool false,.pointer (some ⟨g,0,none⟩),.pointer (some ⟨q,0,none⟩),.pointer (some ⟨q3,0,none⟩),.pointer (some ⟨q4,0,none⟩),.pointer (some ⟨q5,0,none⟩),.pointer (some ⟨tp,0,none⟩),.pointer (some ⟨g,0,none⟩),.pointer (some ⟨g,0,none⟩),.agg K1.toArray,.agg Z.toArray,.agg Av.toArray,.agg A.toArray,.agg A.toArray,.agg B.toArray,.agg B.toArray,.pointer (some ⟨q4,67,none⟩),.int .i64 0,.int .i64 1,.pointer (some ⟨q4,67,none⟩),.agg B.toArray,.pointer (some ⟨q5,2,none⟩),.int .i64 2,.int .i64 3,.pointer (some ⟨q5,2,none⟩),.bool true,.bool true,.pointer (some ⟨q,0,none⟩),.int .i64 2,.bool true,.bool true,.bool true,.pointer (some ⟨q,1,none⟩),.int .i64 1,.bool true,.bool true,.bool true,.pointer (some ⟨q,2,none⟩),.int .i64 1,.bool true,.bool true,.bool true,.pointer (some ⟨q,68,none⟩),.pointer (some ⟨q,69,none⟩),.int .i64 1,.bool true,.bool true,.bool true,.agg A.toArray,.bool true,.bool true,.bool true,.pointer (some ⟨g,0,none⟩),.agg K1.toArray,.agg A.toArray,.bool true,.bool true,.bool true,.pointer (some ⟨g,0,none⟩),.agg K2.toArray,.agg A.toArray,.bool false,.bool true,.bool true,.bool true,.pointer (some ⟨q3,3,none⟩),.agg HC.toArray,.agg A.toArray,.agg HC.toArray,.bool true,.bool true,.bool true,.agg A.toArray,.agg HC.toArray,.agg ZH.toArray,.bool true,.bool true,.bool true,.agg Z.toArray,.agg ZH.toArray,.agg ZH.toArray,.bool true,.bool true,.bool true,.agg Z.toArray,.agg A.toArray,.bool true,.bool true,.bool true,.agg A.toArray,.agg B.toArray,.bool true,.bool true,.bool true,.agg A.toArray,.agg Cc.toArray,.bool true,.bool true,.bool true,x99,x100,undef,undef,undef,undef,undef,undef,undef,undef],defers:=[] }/\Hid (Below w19.heap.size w19 w')/\(d 74=true->x99 = .agg A.toArray)/\(d 75=true->x100 = .agg Dc.toArray)) [74,75] ?step83 9 2 [74,75] _ _ _ rfl (by decide) (fun _ h=>h) (Fits.of (by kernel_rfl)) ?init83 ?fin83
         case init83=>refine ⟨_,_,rfl,Below.refl _ _,?_,?_⟩ <;> (intro h; exact absurd h (by decide))
         case step83 =>
          intro i hi d a v83 hI hdi hdeps
          obtain ⟨x99,x100,rfl,BW,h74,h75⟩:=hI
          have hsw:=BW.out.size
          simp only [List.mem_cons,List.not_mem_nil,or_false] at hi
          rcases hi with rfl | rfl
          ·refine wpOp_step (o:=?os84) ?hos84 (fun K hK=>?_)
           case hos84=>simp only [zge]; rfl
           refine step_loadW (by kernel_rfl) 30 (.tmp 2) rfl q 0 rfl A _ Tryd.underlying30 rfl IA.out (BA.out.below BW.out BA.out.lt).cells (hK _ _ ?_)
           clear hK K
           try simp only [zpt]
           exact ⟨_,_,rfl,BW,fun _=>rfl,fun a=>by first | exact h75 (by simpa using a) | rfl⟩
          ·refine wpOp_step (o:=?os85) ?hos85 (fun K hK=>?_)
           case hos85=>simp only [zge]; rfl
           refine step_loadW (by kernel_rfl) 30 (.tmp 5) rfl q5 0 rfl Dc _ Tryd.underlying30 rfl IDc.out (BDn.out.below BW.out BDn.out.lt).cells (hK _ _ ?_)
           clear hK K
           try simp only [zpt]
           exact ⟨_,_,rfl,BW,fun a=>by first | exact h74 (by simpa using a) | rfl,fun _=>rfl⟩
         case fin83 =>
          intro a v83 hI
          obtain ⟨x99,x100,rfl,BW,h74,h75⟩:=hI
          obtain rfl:=h74 (by decide)
          obtain rfl:=h75 (by decide)
          have hX:=BW.out
          replace PB:=Lib.hid (HB.out.below PB.out hX)
          replace BA:=Lib.hid (BA.out.below hX BA.out.lt)
          replace BB:=Lib.hid (BB.out.below hX BB.out.lt)
          replace BCn:=Lib.hid (BCn.out.below hX BCn.out.lt)
          replace BDn:=Lib.hid (BDn.out.below hX BDn.out.lt)
          replace W:=Lib.hid (W.out.trans (hX.mono W.out.size))
          clear hX BW h74 h75
          try dsimp only
          refine wpAny_ready (rs:=[76]) (by kernel_rfl) (by simp) ?_
          refine AllReady.cons (o:=?p86) ?q86 (fun K hK=>?_) AllReady.nil
          case q86=>simp only [zge]; rfl
          go_simp
          refine (CF4.out _ (HG.out.below W.out hsz)).mono ?_
          rintro e w20 ⟨rfl,hX⟩
          replace PB:=Lib.hid (HB.out.below PB.out hX)
          replace BA:=Lib.hid (BA.out.below hX BA.out.lt)
          replace BB:=Lib.hid (BB.out.below hX BB.out.lt)
          replace BCn:=Lib.hid (BCn.out.below hX BCn.out.lt)
          replace BDn:=Lib.hid (BDn.out.below hX BDn.out.lt)
          replace W:=Lib.hid (W.out.trans (hX.mono W.out.size))
          clear hX
          refine hK _ _ ?_
          clear hK K
          try simp only [zpt]
          refine wpAny_take (i:=77) (oi:=?oi87) (v:=.bool true) ?hi87 (by kernel_rfl) (by kernel_rfl) (by kernel_rfl) ?hQ87 ?hy87 ?rest87
          case hi87=>simp only [zge]; rfl
          case hQ87=>exact fun _ _ _ h=>h
          case hy87=>exact Or.inl ⟨by rfl,by intro w; go_simp⟩
          try simp only [zpt]
          refine wpAny_take (i:=78) (oi:=?oi88) (v:=.bool true) ?hi88 (by kernel_rfl) (by kernel_rfl) (by kernel_rfl) ?hQ88 ?hy88 ?rest88
          case hi88=>simp only [zge]; rfl
          case hQ88=>exact fun _ _ _ h=>h
          case hy88=>exact Or.inl ⟨by rfl,by intro w; go_simp⟩
          try simp only [zpt]
          refine wpAny_take (i:=79) (oi:=?oi89) (v:=.bool true) ?hi89 (by kernel_rfl) (by kernel_rfl) (by kernel_rfl) ?hQ89 ?hy89 ?rest89
          case hi89=>simp only [zge]; rfl
          case hQ89=>exact fun _ _ _ h=>h
          case hy89=>exact Or.inl ⟨by rfl,by intro w; go_simp⟩
          try simp only [zpt]
          refine wpAny_ready (rs:=[80]) (by kernel_rfl) (by simp) ?_
          refine AllReady.cons (o:=?p90) ?q90 (fun K hK=>?_) AllReady.nil
          case q90=>simp only [zge]; rfl
          refine step_build (by kernel_rfl) 30 #[] rfl Z (by simp only [List.map_toArray,List.map_nil]; with_unfolding_all exact BZ0.out) (hK _ _ ?_)
          clear hK K
          try simp only [zpt]
          refine wpAny_ready (rs:=[81]) (by kernel_rfl) (by simp) ?_
          refine AllReady.cons (o:=?p91) ?q91 (fun K hK=>?_) AllReady.nil
          case q91=>simp only [zge]; rfl
          go_simp
          refine (CM0.out _).mono ?_
          rintro e w21 ⟨rfl,hX⟩
          replace PB:=Lib.hid (HB.out.below PB.out hX)
          replace BA:=Lib.hid (BA.out.below hX BA.out.lt)
          replace BB:=Lib.hid (BB.out.below hX BB.out.lt)
          replace BCn:=Lib.hid (BCn.out.below hX BCn.out.lt)
          replace BDn:=Lib.hid (BDn.out.below hX BDn.out.lt)
          replace W:=Lib.hid (W.out.trans (hX.mono W.out.size))
          clear hX
          refine hK _ _ ?_
          clear hK K
          try simp only [zpt]
          refine wpAny_take (i:=82) (oi:=?oi92) (v:=.bool true) ?hi92 (by kernel_rfl) (by kernel_rfl) (by kernel_rfl) ?hQ92 ?hy92 ?rest92
          case hi92=>simp only [zge]; rfl
          case hQ92=>exact fun _ _ _ h=>h
          case hy92=>exact Or.inl ⟨by rfl,by intro w; go_simp⟩
          try simp only [zpt]
          refine wpAny_take (i:=83) (oi:=?oi93) (v:=.bool true) ?hi93 (by kernel_rfl) (by kernel_rfl) (by kernel_rfl) ?hQ93 ?hy93 ?rest93
          case hi93=>simp only [zge]; rfl
          case hQ93=>exact fun _ _ _ h=>h
          case hy93=>exact Or.inl ⟨by rfl,by intro w; go_simp⟩
          try simp only [zpt]
          refine wpAny_take (i:=84) (oi:=?oi94) (v:=.bool true) ?hi94 (by kernel_rfl) (by kernel_rfl) (by kernel_rfl) ?hQ94 ?hy94 ?rest94
          case hi94=>simp only [zge]; rfl
          case hQ94=>exact fun _ _ _ h=>h
          case hy94=>exact Or.inl ⟨by rfl,by intro w; go_simp⟩
          try simp only [zpt]
          refine wpAny_done (by kernel_rfl) ?_ _
          go_wp2_with fail
          go_ret
          exact ⟨rfl,W.out⟩
end Go.Proofs.YtajgjeialbgijaaDoor
