import Derived.Test.YtnfbkimkdnbohaaGreatDoorSKp
set_option linter.unusedVariables false
set_option linter.unusedSimpArgs false
set_option maxRecDepth 100000
set_option maxHeartbeats 8000000
namespace Go.Proofs.YtnfbkimkdnbohaaGreatDoor
open Go.RowKit
def recL (r:Rc.R):List Value:=[.int .i64 r.ver,.bool r.gone,.string ⟨r.val.toArray⟩]
def recV (r:Rc.R):Value:=.agg (recL r).toArray
theorem rmay_any (r:Rc.R) (w:World):Calls Tryz.prog 11 #[recV r] w fun e w'=>e = .returned (.bool (Rc.may r))/\Below w.heap.size w w':=by
 obtain ⟨v,g,l⟩:=r
 have hsz:(⟨l.toArray⟩:ByteArray).size=l.length:=by show l.toArray.size=_; simp
 have hem:((⟨l.toArray⟩:ByteArray)=⟨#[]⟩)=(l=[]):=by simp
 obtain ⟨res,hres⟩:=zx (Rc.may ⟨v,g,l⟩)
 rw [<- hres]
 have HR:=qh hres
 have X0:=qh (alloc_below w (.cells (recL ⟨v,g,l⟩).toArray 23))
 have B0:=qh (Blk.new w 23 (recL ⟨v,g,l⟩))
 clear hres
 unfold recV
 go_enter Tryz.func11,Tryz.ntmps11
 go_upto_region 1 with (fail)
 generalize w.alloc (.cells (recL ⟨v,g,l⟩).toArray 23)=w1 at *
 have c0:w1.cell? ⟨w.heap.size,0,none⟩=some (.int .i64 v):=B0.out.cell 0
 have c1:w1.cell? ⟨w.heap.size,1,none⟩=some (.bool g):=B0.out.cell 1
 have c2:w1.cell? ⟨w.heap.size,2,none⟩=some (.string ⟨l.toArray⟩):=B0.out.cell 2
 by_cases h1:v < 1
 ·obtain rfl:res=false:=by rw [HR.out]; simp [Rc.may]; omega
  go_wp2_with fail
  go_ret
  exact ⟨rfl,X0.out⟩
 ·by_cases h2:1099511627776 < v
  ·obtain rfl:res=false:=by rw [HR.out]; simp [Rc.may]; omega
   go_wp2_with fail
   go_ret
   exact ⟨rfl,X0.out⟩
  ·by_cases h3:1000 < l.length
   ·obtain rfl:res=false:=by rw [HR.out]; simp [Rc.may]; omega
    have h4:(1000:Int) < (l.length:Int):=by omega
    go_wp2_with fail
    go_ret
    exact ⟨rfl,X0.out⟩
   ·have h4:¬ (1000:Int) < (l.length:Int):=by omega
    cases g with
    | false =>
     obtain rfl:res=true:=by rw [HR.out]; simp [Rc.may]; omega
     go_wp2_with fail
     go_ret
     exact ⟨rfl,X0.out⟩
    | true =>
     by_cases h5:l=[]
     ·obtain rfl:res=true:=by rw [HR.out]; simp [Rc.may,h5]; omega
      subst h5
      go_wp2_with fail
      go_ret
      exact ⟨rfl,X0.out⟩
     ·obtain rfl:res=false:=by rw [HR.out]; simp [Rc.may,h5]
      have h6:l.isEmpty=false:=by simpa using h5
      go_wp2_with fail
      go_ret
      exact ⟨rfl,X0.out⟩
theorem pfour_any (u:Nat) (w:World) (hu:u < 4294967296) :
  Calls Tryz.prog 30 #[.int .u32 (u:Int)] w fun e w'=>∃ g,e = .returned (.slice (some ⟨g,0,none⟩) 4 4)/\Rd w' (some ⟨g,0,none⟩) 4 4 (Sha.bytesOf (u:Int))/\Below w.heap.size w w'/\w.heap.size<=g:=by
 go_enter Tryz.func30,Tryz.ntmps30
 go_wp2
 go_ret
 exact ⟨_,rfl,four_cells w (u:Int) _ _ _ _ (by omega) (by omega) (by omega) (by omega),(Below.refl _ _).alloc (Nat.le_refl _) _,Nat.le_refl _⟩
theorem eight_four (v:Int) (h0:0<=v) (h:v < 9223372036854775808):Sha.bytesOf ((v.toNat / 4294967296:Nat):Int) ++ Sha.bytesOf ((v.toNat % 4294967296:Nat):Int)=Rc.eight v:=by
 obtain ⟨n,rfl⟩:=Int.eq_ofNat_of_zero_le h0
 have e:∀ x y:Nat,x % 256=y % 256->UInt8.ofNat x=UInt8.ofNat y:=fun x y h=>UInt8.toNat_inj.1 (by rw [UInt8.toNat_ofNat',UInt8.toNat_ofNat']; exact h)
 simp only [Sha.bytesOf,Sha.by8,Rc.eight,List.range,List.range.loop,List.map_cons,List.map_nil,List.cons_append,List.nil_append,Int.toNat_natCast]
 simp only [List.cons.injEq,and_true]
 refine ⟨e _ _ ?_,e _ _ ?_,e _ _ ?_,e _ _ ?_,e _ _ ?_,e _ _ ?_,e _ _ ?_,e _ _ ?_⟩ <;> simp only [Nat.reducePow,Nat.reduceSub] <;> omega
theorem lit_parts4 (w:World) {A A' A'' B:Option Addr} {n c n' c' n'' c'' k d g:Nat} {l l' l'' r:List UInt8} (h:Rd w A n c l) (h':Rd w A' n' c' l') (h'':Rd w A'' n'' c'' l'') (h3:Rd w B k d r) (hg:g=w.heap.size) :
  RdP (w.alloc (.cells #[.slice A n c,.slice A' n' c',.slice A'' n'' c'',.slice B k d] 24)) (some ⟨g,0,none⟩) 4 [l,l',l'',r] :=
 ⟨rfl,fun j hj=>by
  subst hg
  have hX:=alloc_below w (.cells #[.slice A n c,.slice A' n' c',.slice A'' n'' c'',.slice B k d] 24)
  have hB:=Blk.new w 24 [.slice A n c,.slice A' n' c',.slice A'' n'' c'',.slice B k d]
  match j,hj with
  | 0,_=>exact ⟨w.heap.size,0,A,n,c,rfl,by simp,hB.cell 0,h.below hX⟩
  | 1,_=>exact ⟨w.heap.size,0,A',n',c',rfl,by simp,hB.cell 1,h'.below hX⟩
  | 2,_=>exact ⟨w.heap.size,0,A'',n'',c'',rfl,by simp,hB.cell 2,h''.below hX⟩
  | 3,_=>exact ⟨w.heap.size,0,B,k,d,rfl,by simp,hB.cell 3,h3.below hX⟩⟩
theorem rput_may (r:Rc.R) {w:World} (hg:Gl w) (hm:Rc.may r=true):Calls Tryz.prog 9 #[recV r] w (RetE w (Rc.put r) 0):=by
 have HG:=qh hg
 have hsz:=hg.size
 have hv:1<=r.ver/\r.ver<=1099511627776:=by simp [Rc.may] at hm; exact ⟨hm.1.1.1,hm.1.1.2⟩
 have hvl:=Rc.may_val hm
 obtain ⟨y,hy⟩:=zx (Rc.mark r.gone)
 obtain ⟨u1,hu1⟩:=zx (r.ver.toNat / 4294967296)
 obtain ⟨u2,hu2⟩:=zx (r.ver.toNat % 4294967296)
 have e1:r.ver / 4294967296=(u1:Int):=by omega
 have e2:(u1:Int) % 4294967296=(u1:Int):=by omega
 have e3:r.ver % 4294967296=(u2:Int):=by omega
 have e4:IntKind.u32.wrap (u1:Int)=(u1:Int):=by rw [IntKind.wrap_u32']; exact e2
 have e5:IntKind.u32.wrap r.ver=(u2:Int):=by rw [IntKind.wrap_u32']; exact e3
 have e8:=eight_four r.ver (by omega) (by omega)
 rw [<- hu1,<- hu2] at e8
 have C1:Hid (∀ W:World,Calls Tryz.prog 30 #[.int .u32 (u1:Int)] W fun e w'=>∃ g,e = .returned (.slice (some ⟨g,0,none⟩) 4 4)/\Rd w' (some ⟨g,0,none⟩) 4 4 (Sha.bytesOf (u1:Int))/\Below W.heap.size W w'/\W.heap.size<=g):=fun W=>pfour_any u1 W (by omega)
 have C2:Hid (∀ W:World,Calls Tryz.prog 30 #[.int .u32 (u2:Int)] W fun e w'=>∃ g,e = .returned (.slice (some ⟨g,0,none⟩) 4 4)/\Rd w' (some ⟨g,0,none⟩) 4 4 (Sha.bytesOf (u2:Int))/\Below W.heap.size W w'/\W.heap.size<=g):=fun W=>pfour_any u2 W (by omega)
 obtain ⟨f1,hf1⟩:=zx (Sha.bytesOf (u1:Int))
 obtain ⟨f2,hf2⟩:=zx (Sha.bytesOf (u2:Int))
 rw [<- hf1] at C1
 rw [<- hf2] at C2
 rw [<- hf1,<- hf2] at e8
 have FL1:Hid (f1.length=4):=by unfold Hid; rw [hf1]; rfl
 have FL2:Hid (f2.length=4):=by unfold Hid; rw [hf2]; rfl
 have HF:Hid (([f1,f2,[y],r.val]:List (List UInt8)).flatten=Rc.within r):=by unfold Hid Rc.within; rw [<- e8,hy]; simp
 have HWL:Hid ((Rc.within r).length=9 + r.val.length):=Rc.within_length r
 have CM:=qh (rmay_any r)
 rw [hm] at CM
 obtain ⟨gn,hgn⟩:=zx (r.gone)
 have HY:Hid (y=if gn then 1 else 0):=by unfold Hid; rw [hy,hgn]; rfl
 have HRL:Hid (recL r=[.int .i64 r.ver,.bool gn,.string ⟨r.val.toArray⟩]):=by unfold Hid; rw [hgn]; rfl
 obtain ⟨L,hL⟩:=zx (recL r)
 have HLL:=qh hL
 have IR:Hid ((Tryz.prog.info? 23).map (·.size)=some L.length):=by unfold Hid; rw [hL]; kernel_rfl
 have CMM:Hid (∀ W:World,Calls Tryz.prog 11 #[.agg L.toArray] W fun e w'=>e = .returned (.bool true)/\Below W.heap.size W w'):=by unfold Hid; rw [hL]; exact CM.out
 unfold recV
 rw [<- hL]
 clear hg hy hu1 hu2 e8 hf1 hf2 hgn hL CM hm
 go_enter Tryz.func9,Tryz.ntmps9
 go_upto_region 1 with (fail)
 have X0:=qh (alloc_below w (.cells L.toArray 23))
 have B0:=qh (Blk.new w 23 L)
 generalize w.alloc (.cells L.toArray 23)=w1 at *
 go_wp2_with (with_reducible refine load_law rfl 23 (.tmp 1) rfl w.heap.size 0 rfl L _ Tryz.underlying23 rfl IR.out B0.out.cells ?_)
 refine (CMM.out w1).mono ?_
 rintro e w2 ⟨rfl,hX⟩
 have hs1:=B0.out.lt
 have W2:=qt X0 hX
 have B2:=qh (B0.out.below hX hs1)
 clear hX X0 B0 CMM
 have c0:w2.cell? ⟨w.heap.size,0,none⟩=some (.int .i64 r.ver):=by rw [B2.out.cell,HLL.out,HRL.out]; rfl
 have c1:w2.cell? ⟨w.heap.size,1,none⟩=some (.bool gn):=by rw [B2.out.cell,HLL.out,HRL.out]; rfl
 have c2:w2.cell? ⟨w.heap.size,2,none⟩=some (.string ⟨r.val.toArray⟩):=by rw [B2.out.cell,HLL.out,HRL.out]; rfl
 go_upto_if 9 with (fail)
 go_cut [4] (fun v wr=>v = .int .u8 (y.toNat:Int)/\Hid (wr=w2))
 case first =>
  cases gn with
  | true =>
   obtain rfl:y=1:=HY.out
   go_wp2_with fail
   go_meet
   case rel=>exact ⟨rfl,rfl⟩
  | false =>
   obtain rfl:y=0:=HY.out
   go_wp2_with fail
   go_meet
   case rel=>exact ⟨rfl,rfl⟩
 case rest =>
  obtain ⟨rfl,HW⟩:=hcut
  have hw:=HW.out
  subst hw
  have BR:Hid (Blk wc w.heap.size 23 [.int .i64 r.ver,.bool gn,.string ⟨r.val.toArray⟩]):=by unfold Hid; rw [<- HRL.out,<- HLL.out]; exact B2.out
  clear HW B2 c0 c1 c2 HLL HRL IR HY hs1
  go_upto_region 6 with (fail)
  replace W2:=qh W2.out.drew
  replace BR:=qh BR.out.drew
  refine wp_region_any (by kernel_rfl) ?_
  change wpAny _ _ _ _ _ _ _ (World.drew _)
  generalize wc.drew=w4 at *
  refine ztk 0 (.pointer (some ⟨w.heap.size,0,none⟩)) ?_
  try simp only [zpt]
  refine ztk 5 (.pointer (some ⟨w.heap.size,0,none⟩)) ?_
  try simp only [zpt]
  refine ztk 9 (.int .u8 (y.toNat:Int)) ?_
  try simp only [zpt]
  refine ztk 11 (.pointer (some ⟨w.heap.size,2,none⟩)) ?_
  try simp only [zpt]
  refine zph (fun i=>if i=2 then [1] else if i=3 then [2] else if i=4 then [3] else if i=7 then [6] else if i=8 then [7,4] else if i=13 then [12] else []) [1,2,3,4,6,7,8,10,12,13] (fun zT d a w'=>∃ x11 x12 x13 x14 x16 x17 x18 x20 x22 x23:Value,a={ tmps:=((((((((((zT.set 11 x11).set 12 x12).set 13 x13).set 14 x14).set 16 x16).set 17 x17).set 18 x18).set 20 x20).set 22 x22).set 23 x23).toArray,defers:=[] }/\Hid (Below w4.heap.size w4 w')/\(d 1=true->x11 = .int .i64 r.ver)/\(d 2=true->x12 = .int .i64 (u1:Int))/\(d 3=true->x13 = .int .u32 (u1:Int))/\(d 4=true->Hid (Nw w' w4.heap.size x14 f1))/\(d 6=true->x16 = .int .i64 r.ver)/\(d 7=true->x17 = .int .u32 (u2:Int))/\(d 8=true->Hid (Nw w' w4.heap.size x18 f2))/\(d 10=true->Hid (Lt w' w4.heap.size x20 [y]))/\(d 12=true->x22 = .string ⟨r.val.toArray⟩)/\(d 13=true->Hid (Nw w' w4.heap.size x23 r.val))) 7 10 ?step5 ?init5 ?fin5
  case init5=>refine ⟨_,_,_,_,_,_,_,_,_,_,rfl,Below.refl _ _,?_,?_,?_,?_,?_,?_,?_,?_,?_,?_⟩ <;> (intro h; exact absurd h (by decide))
  case step5 =>
   intro i hi d a v5 hI hdi hdeps
   obtain ⟨x11,x12,x13,x14,x16,x17,x18,x20,x22,x23,ha,BW,h1,h2,h3,h4,h6,h7,h8,h10,h12,h13⟩:=hI
   simp only [zpt] at ha; subst ha
   have hsw:=BW.out.size
   simp only [List.mem_cons,List.not_mem_nil,or_false] at hi
   rcases hi with rfl | rfl | rfl | rfl | rfl | rfl | rfl | rfl | rfl | rfl
   ·have c0:v5.cell? ⟨w.heap.size,0,none⟩=some (.int .i64 r.ver):=(BR.out.below BW.out BR.out.lt).cell 0
    refine zst fun K hK=>?_
    go_simp
    refine hK _ _ ?_; clear hK K; try simp only [zpt]
    exact ⟨_,_,_,_,_,_,_,_,_,_,rfl,BW,fun _=>rfl,zk h2,zk h3,zk h4,zk h6,zk h7,zk h8,zk h10,zk h12,zk h13⟩
   ·obtain rfl:=h1 (hdeps 1 (by simp))
    refine zst fun K hK=>?_
    go_simp
    refine hK _ _ ?_; clear hK K; try simp only [zpt]
    exact ⟨_,_,_,_,_,_,_,_,_,_,rfl,BW,zk h1,fun _=>rfl,zk h3,zk h4,zk h6,zk h7,zk h8,zk h10,zk h12,zk h13⟩
   ·obtain rfl:=h2 (hdeps 2 (by simp))
    refine zst fun K hK=>?_
    go_simp
    refine hK _ _ ?_; clear hK K; try simp only [zpt]
    exact ⟨_,_,_,_,_,_,_,_,_,_,rfl,BW,zk h1,zk h2,fun _=>rfl,zk h4,zk h6,zk h7,zk h8,zk h10,zk h12,zk h13⟩
   ·obtain rfl:=h3 (hdeps 3 (by simp))
    refine zst fun K hK=>?_
    go_simp
    refine (C1.out v5).mono ?_
    rintro e u5 ⟨g5,rfl,hR,hX,hgq⟩
    refine hK _ _ ?_; clear hK K; try simp only [zpt]
    exact ⟨_,_,_,_,_,_,_,_,_,_,rfl,BW.out.trans (hX.mono hsw),zk h1,zk h2,zk h3,fun _=>Nw.of hR (fun y hy _=>by injection hy with hy; subst hy; exact hgq) hsw,zk h6,zk h7,fun a=>(h8 (by simpa using a)).out.below hX,fun a=>(h10 (by simpa using a)).out.below hX,zk h12,fun a=>(h13 (by simpa using a)).out.below hX⟩
   ·have c0:v5.cell? ⟨w.heap.size,0,none⟩=some (.int .i64 r.ver):=(BR.out.below BW.out BR.out.lt).cell 0
    refine zst fun K hK=>?_
    go_simp
    refine hK _ _ ?_; clear hK K; try simp only [zpt]
    exact ⟨_,_,_,_,_,_,_,_,_,_,rfl,BW,zk h1,zk h2,zk h3,zk h4,fun _=>rfl,zk h7,zk h8,zk h10,zk h12,zk h13⟩
   ·obtain rfl:=h6 (hdeps 6 (by simp))
    refine zst fun K hK=>?_
    go_simp
    refine hK _ _ ?_; clear hK K; try simp only [zpt]
    exact ⟨_,_,_,_,_,_,_,_,_,_,rfl,BW,zk h1,zk h2,zk h3,zk h4,zk h6,fun _=>rfl,zk h8,zk h10,zk h12,zk h13⟩
   ·obtain rfl:=h7 (hdeps 7 (by simp))
    refine zst fun K hK=>?_
    go_simp
    refine (C2.out v5).mono ?_
    rintro e u5 ⟨g5,rfl,hR,hX,hgq⟩
    refine hK _ _ ?_; clear hK K; try simp only [zpt]
    exact ⟨_,_,_,_,_,_,_,_,_,_,rfl,BW.out.trans (hX.mono hsw),zk h1,zk h2,zk h3,fun a=>(h4 (by simpa using a)).out.below hX,zk h6,zk h7,fun _=>Nw.of hR (fun y hy _=>by injection hy with hy; subst hy; exact hgq) hsw,fun a=>(h10 (by simpa using a)).out.below hX,zk h12,fun a=>(h13 (by simpa using a)).out.below hX⟩
   ·have hX:=alloc_below v5 (.cells #[.int .u8 (y.toNat:Int)] 5)
    refine zst fun K hK=>?_
    go_simp
    refine hK _ _ ?_; clear hK K; try simp only [zpt]
    exact ⟨_,_,_,_,_,_,_,_,_,_,rfl,BW.out.trans (hX.mono hsw),zk h1,zk h2,zk h3,fun a=>(h4 (by simpa using a)).out.below hX,zk h6,zk h7,fun a=>(h8 (by simpa using a)).out.below hX,fun _=>Lt.new _ _ _ _ _ (by rfl) rfl hsw,zk h12,fun a=>(h13 (by simpa using a)).out.below hX⟩
   ·have c0:v5.cell? ⟨w.heap.size,2,none⟩=some (.string ⟨r.val.toArray⟩):=(BR.out.below BW.out BR.out.lt).cell 2
    refine zst fun K hK=>?_
    go_simp
    refine hK _ _ ?_; clear hK K; try simp only [zpt]
    exact ⟨_,_,_,_,_,_,_,_,_,_,rfl,BW,zk h1,zk h2,zk h3,zk h4,zk h6,zk h7,zk h8,zk h10,fun _=>rfl,zk h13⟩
   ·obtain rfl:=h12 (hdeps 12 (by simp))
    obtain ⟨cS,u5,hcv,hR,hX⟩:=conv_str r.val (by omega) v5
    refine zst fun K hK=>?_
    go_simp
    refine hK _ _ ?_; clear hK K; try simp only [zpt]
    exact ⟨_,_,_,_,_,_,_,_,_,_,rfl,BW.out.trans (hX.mono hsw),zk h1,zk h2,zk h3,fun a=>(h4 (by simpa using a)).out.below hX,zk h6,zk h7,fun a=>(h8 (by simpa using a)).out.below hX,fun a=>(h10 (by simpa using a)).out.below hX,zk h12,fun _=>Nw.of hR (fun y hy _=>by injection hy with hy; subst hy; exact Nat.le_refl _) hsw⟩
  case fin5 =>
   intro a v5 hI
   obtain ⟨x11,x12,x13,x14,x16,x17,x18,x20,x22,x23,ha,BW,h1,h2,h3,h4,h6,h7,h8,h10,h12,h13⟩:=hI
   simp only [zpt] at ha; subst ha
   obtain rfl:=h1 (by decide)
   obtain rfl:=h2 (by decide)
   obtain rfl:=h3 (by decide)
   obtain rfl:=h6 (by decide)
   obtain rfl:=h7 (by decide)
   obtain rfl:=h12 (by decide)
   obtain ⟨A1,c1,rfl,hR1,_⟩:=(h4 (by decide)).out.rd FL1.out
   obtain ⟨A2,c2,rfl,hR2,_⟩:=(h8 (by decide)).out.rd FL2.out
   obtain ⟨g3,rfl,_,_,hR3⟩:=(h10 (by decide)).out.rd (k:=1) rfl (by omega)
   obtain ⟨A4,c4,rfl,hR4,_⟩:=(h13 (by decide)).out.rd rfl
   have RP:=qh (lit_parts4 v5 hR1 hR2 hR3 hR4 rfl)
   have XP:=qh (alloc_below v5 (.cells #[.slice A1 4 c1,.slice A2 4 c2,.slice (some ⟨g3,0,none⟩) 1 1,.slice A4 r.val.length c4] 24))
   replace W2:=qt W2 BW.out
   clear h4 h8 h10 h13 hR1 hR2 hR3 hR4 BW BR C1 C2
   try dsimp only
   refine zrd 14 fun K hK=>?_
   go_simp
   refine hK _ _ ?_; clear hK K; try simp only [zpt]
   generalize v5.alloc (.cells #[.slice A1 4 c1,.slice A2 4 c2,.slice (some ⟨g3,0,none⟩) 1 1,.slice A4 r.val.length c4] 24)=w5 at *
   replace W2:=qt W2 XP.out
   clear XP
   refine zrd 15 fun K hK=>?_
   go_simp
   refine (concat_any (c:=4) RP.out (by omega) (by rw [HF.out,HWL.out]; omega) (by rw [HF.out,HWL.out]; omega)).mono ?_
   rintro e w6 ⟨v6,rfl,hO,hX⟩
   rw [HF.out] at hO
   obtain ⟨A6,c6,rfl,hR6,_⟩:=hO.value
   replace W2:=qt W2 hX
   have R6:=qh hR6
   have CP:=qh (ppad_any (HG.out.below W2.out hsz) R6.out)
   rw [if_pos (by rw [HWL.out]; omega),if_pos (by rw [HWL.out]; omega)] at CP
   clear hX hO hR6 RP
   refine hK _ _ ?_; clear hK K; try simp only [zpt]
   refine zrd 16 fun K hK=>?_
   go_simp
   refine CP.out.mono ?_
   rintro e w7 ⟨A7,n7,c7,rfl,hR7,hX,hF7⟩
   have W7:=qt W2 hX
   have R7:=qh hR7
   have F7:Hid (∀ x,A7=some x->0 < n7->w.heap.size<=x.block):=fun x hx h0=>by have:=hF7 x hx h0; have:=W2.out.size; omega
   clear hX hR7 hF7 CP R6 W2
   refine hK _ _ ?_; clear hK K; try simp only [zpt]
   refine ztk 17 (.slice A7 n7 c7) ?_
   try simp only [zpt]
   refine ztk 18 (.int .i64 0) ?_
   try simp only [zpt]
   refine ztk 19 (.slice A7 n7 c7) ?_
   try simp only [zpt]
   refine ztk 20 (.int .i64 0) ?_
   try simp only [zpt]
   refine wpAny_done (by kernel_rfl) ?_ _
   go_wp2_with fail
   go_ret2
   exact ⟨_,_,_,rfl,R7.out,W7.out,F7.out⟩
open Go.RowKit
theorem rput_no (r:Rc.R) (w:World) (hm:Rc.may r=false):Calls Tryz.prog 9 #[recV r] w (RetE w [] 1):=by
 have CM:=qh (rmay_any r)
 rw [hm] at CM
 obtain ⟨L,hL⟩:=zx (recL r)
 have IR:Hid ((Tryz.prog.info? 23).map (·.size)=some L.length):=by unfold Hid; rw [hL]; kernel_rfl
 have CMM:Hid (∀ W:World,Calls Tryz.prog 11 #[.agg L.toArray] W fun e w'=>e = .returned (.bool false)/\Below W.heap.size W w'):=by unfold Hid; rw [hL]; exact CM.out
 unfold recV
 rw [<- hL]
 clear hL hm CM
 go_enter Tryz.func9,Tryz.ntmps9
 go_upto_region 1 with (fail)
 have X0:=qh (alloc_below w (.cells L.toArray 23))
 have B0:=qh (Blk.new w 23 L)
 generalize w.alloc (.cells L.toArray 23)=w1 at *
 go_wp2_with (with_reducible refine load_law rfl 23 (.tmp 1) rfl w.heap.size 0 rfl L _ Tryz.underlying23 rfl IR.out B0.out.cells ?_)
 refine (CMM.out w1).mono ?_
 rintro e w2 ⟨rfl,hX⟩
 have W2:=qt X0 hX
 clear hX
 go_wp2_with fail
 go_ret2
 exact ⟨none,0,0,rfl,Rd.nil _ _ _ (by unfold maxLen; omega),W2.out,fun x hx=>by cases hx⟩
theorem big_snoc (c:UInt8):∀ (l:List UInt8) (n:Nat),Rc.big (l ++ [c]) n=Rc.big l n * 256 + c.toNat
 | [],n=>rfl
 | d :: l,n=>big_snoc c l _
theorem big_lt:∀ (l:List UInt8) (n:Nat),Rc.big l n < (n + 1) * 256 ^ l.length
 | [],n=>by simp [Rc.big]
 | c :: l,n=>by
  have h:=big_lt l (n * 256 + c.toNat)
  have hc:=c.toNat_lt
  have h2:(n * 256 + c.toNat + 1) * 256 ^ l.length<=((n + 1) * 256) * 256 ^ l.length:=Nat.mul_le_mul_right _ (by omega)
  rw [List.length_cons,Nat.pow_succ,Nat.mul_comm (256 ^ l.length) 256,<- Nat.mul_assoc]
  exact Nat.lt_of_lt_of_le h h2
theorem sgn_wrap (M:Nat) (h:M < 18446744073709551616):IntKind.i64.wrap (M:Int)=Rc.sgn M:=by
 rw [IntKind.wrap_i64]; unfold Rc.sgn; split <;> omega
theorem ofInt_sgn (M:Nat) (h:M < 18446744073709551616):(BitVec.ofInt 64 (Rc.sgn M)).toNat=M:=by
 rw [BitVec.toNat_ofInt]; unfold Rc.sgn; split <;> omega
theorem or_sgn (m:Nat) (c:UInt8) (h:m < 72057594037927936):bits .or .i64 (IntKind.i64.wrap ((m:Int) * 256)) (c.toNat:Int)=Rc.sgn (m * 256 + c.toNat):=by
 have hc:=c.toNat_lt
 rw [show (m:Int) * 256=((m * 256:Nat):Int) by omega,sgn_wrap _ (by omega)]
 show IntKind.i64.wrap ((BitVec.ofInt 64 (Rc.sgn (m * 256)) ||| BitVec.ofInt 64 (c.toNat:Int)).toNat:Int)=_
 rw [BitVec.toNat_or,ofInt_sgn _ (by omega),BitVec.toNat_ofInt,show ((c.toNat:Int) % ((2 ^ 64:Nat):Int)).toNat=c.toNat by omega]
 have e:m * 256 ||| c.toNat=m * 256 + c.toNat:=by
  have:=Nat.shiftLeft_add_eq_or_of_lt (i:=8) (b:=c.toNat) (by omega) m
  rw [Nat.shiftLeft_eq] at this
  exact this.symm
 rw [e,sgn_wrap _ (by omega)]
theorem or_sgn64 (m:Nat) (c:UInt8) (h:m < 72057594037927936):bits .or .i64 (wrap64 ((m:Int) * 256)) (c.toNat:Int)=Rc.sgn (m * 256 + c.toNat):=by
 rw [show wrap64 ((m:Int) * 256)=IntKind.i64.wrap ((m:Int) * 256) by unfold wrap64; rw [IntKind.wrap_i64]]
 exact or_sgn m c h
theorem rversion_any {w:World} {A:Option Addr} {n c:Nat} {l:List UInt8} (hr:Rd w A n c l) (h9:9<=n):Calls Tryz.prog 33 #[.slice A n c] w fun e w'=>e = .returned (.int .i64 (Rc.sgn (Rc.big (l.take 8) 0)))/\w'=w:=by
 have hc:=hr.cap
 have hl:=hr.len
 obtain ⟨g,off,rfl,hblt,hcell⟩:=hr.at_ (by omega)
 have hsl:∀ W:World,(Instr.slice 24 (.slice (some ⟨g,off,none⟩) n c) none (some (.int .i64 8)) none).run Tryz.prog W = .ok (.slice (some ⟨g,off,none⟩) 8 c) W:=fun W=>by
  have:=slice_h (some ⟨g,off,none⟩) n c 8 (by omega) W
  rw [show cutA (some ⟨g,off,none⟩) c 0=some ⟨g,off,none⟩ by unfold cutA; rw [if_neg (by omega)]; simp [Addr.add]] at this
  exact this
 have HC:=qh hcell
 clear hr hcell
 go_enter Tryz.func33,Tryz.ntmps33
 go_wp2_with fail
 go_loopw [3,9] (fun v i wr=>∃ (k N:Nat),k<=8/\i = .int .i64 k/\v = .int .i64 (Rc.sgn N)/\Hid (N=Rc.big (l.take k) 0)/\Hid (wr=w)) (fun _ i _=>8 - (intOf i).toNat)
 case atStart=>exact ⟨0,0,by omega,rfl,rfl,rfl,rfl⟩
 case round =>
  obtain ⟨k,M,hk,rfl,rfl,HM,HW⟩:=hrel
  have hw:=HW.out
  subst hw
  clear HW
  by_cases hlt:k < 8
  ·have hlb:(k:Int) < 8:=by omega
   have c0:wr.cell? ⟨g,off + k,none⟩=some (.int .u8 ((l.getD k 0).toNat:Int)):=HC.out k (by omega)
   have hM:M < 72057594037927936:=by
    have h1:=big_lt (l.take k) 0
    rw [<- HM.out,List.length_take,Nat.min_eq_left (by omega)] at h1
    have h2:256 ^ k<=256 ^ 7:=Nat.pow_le_pow_right (by omega) (by omega)
    omega
   have hs:Rc.sgn M=(M:Int):=by unfold Rc.sgn; rw [if_pos (by omega)]
   have HN:Hid (M * 256 + (l.getD k 0).toNat=Rc.big (l.take (k + 1)) 0):=by
    unfold Hid
    have hkl:k < l.length:=by omega
    rw [show l.take (k + 1)=l.take k ++ [l.getD k 0] by rw [List.take_succ_eq_append_getElem hkl]; simp [List.getD_eq_getElem?_getD,List.getElem?_eq_getElem hkl],big_snoc,HM.out]
   have hor:bits .or .i64 (wrap64 ((M:Int) * 256)) ((l.getD k 0).toNat:Int)=Rc.sgn (M * 256 + (l.getD k 0).toNat):=or_sgn64 M _ hM
   rw [hs]
   clear hM hs HM
   generalize l.getD k 0=y at *
   have hy8:=y.toNat_lt
   go_wp2_with fail
   go_roundw
   case rel=>exact ⟨k + 1,_,by omega,by go_num,rfl,HN,(show Hid True from trivial)⟩
   case measure=>simp [intOf]; omega
  ·obtain rfl:k=8:=by omega
   go_wp2_with fail
   go_ret
   exact ⟨by rw [<- HM.out]; rfl,rfl⟩
theorem results_row_tmp {P:Program} {fn:Func} {p u:Tmp} {ty:TypeId} (h:fn.results=#[.cell p ty,.tmp u]) (tmps:Array Value) (w:World) (g:Nat) (t:TypeId) (cs:Array Value) (fr:Nat × Nat) (d:TypeDesc) (x:Value)
  (hp:tmps.getD p undef = .pointer (some ⟨g,0,none⟩)) (hx:tmps.getD u undef=x) (hg:w.heap[g]?=some (.cells cs t fr))
  (hu:P.underlying ty=some d) (hd:(match d with | .struct _ | .array _ _=>true | _=>false)=true) (hi:(P.info? ty).map (·.size)=some cs.size) :
  (results fn tmps).run P w = .ok (.tuple #[.agg cs,x]) w:=by
 rw [results_cell_tmp h,hp,hx]
 simp [asAddr,run_loadVar_row w g t ty cs fr d hg hu hd hi,Result.andThen]
def NewB (w:World) (b:Nat) (x:Value) (t:TypeId) (cs:List Value):Prop:=∃ g,x = .pointer (some ⟨g,0,none⟩)/\b<=g/\Blk w g t cs
theorem NewB.below {w w':World} {b:Nat} {x:Value} {t:TypeId} {cs:List Value} (h:NewB w b x t cs) (hb:Below w.heap.size w w'):NewB w' b x t cs:=by
 obtain ⟨g,e,h1,h2⟩:=h
 exact ⟨g,e,h1,h2.below hb h2.lt⟩
theorem bel_cell {B:Nat} {w w':World} (hb:Below B w w') (p:Addr) (h:p.block < B):w'.cell? p=w.cell? p:=hb.cell h
def Rc.got (b:List UInt8):Rc.R:=if Rc.gets b then Rc.took (Rc.unpad b) else ⟨0,false,[]⟩
theorem rget_any {w:World} {A:Option Addr} {n c:Nat} {b:List UInt8} (hg:Gl w) (hr:Rd w A n c b) (hn:n<=1000000) :
  Calls Tryz.prog 14 #[.slice A n c] w fun e w'=>e = .returned (.tuple #[recV (Rc.got b),.int .i64 (if Rc.gets b then 0 else 1)])/\Below w.heap.size w w':=by
 have HG:=qh hg
 have hsz:=hg.size
 have CU:=qh (fun w' (h:Gl w') (hR:Rd w' A n c b)=>punpad_any h hR)
 have HR:=qh hr
 obtain ⟨z,hz⟩:=zx (recV (Rc.got b))
 obtain ⟨er,her⟩:=zx (if Rc.gets b then 0 else 1:Int)
 rw [<- hz,<- her]
 have HZ:=qh hz
 have HER:=qh her
 clear hg hr hz her
 obtain ⟨Z0,hZ0⟩:=zx (recL ⟨0,false,[]⟩)
 have HZ0:=qh hZ0
 have IZ:Hid ((Tryz.prog.info? 23).map (·.size)=some Z0.length):=by unfold Hid; rw [hZ0]; kernel_rfl
 have OZ:Hid (∀ v ∈ Z0,v.oneCell'=true):=by unfold Hid; rw [hZ0]; simp [recL,Value.oneCell']
 have BZ:Hid (Tryz.prog.built 23 []=some Z0.toArray):=by unfold Hid; rw [hZ0]; kernel_rfl
 clear hZ0
 go_enter Tryz.func14,Tryz.ntmps14
 go_upto_region 1 with (fail)
 obtain ⟨w1,hw1⟩:=zx (w.alloc (.cells #[.int .i64 0,.bool false,.string ⟨#[]⟩] 23))
 have B1:Blk w1 w.heap.size 23 Z0:=by rw [hw1,HZ0.out]; exact Blk.at_new _ _ 23 _ _ rfl rfl
 have W1:Below w.heap.size w w1:=by rw [hw1]; exact alloc_below _ _
 rw [<- hw1]
 clear hw1
 have hs1:w.heap.size < w1.heap.size:=B1.lt
 have CU1:=qh (CU.out w1 (HG.out.below W1 hsz) (HR.out.below W1))
 have ZE:Hid (Rc.gets b=false->z = .agg Z0.toArray/\er=1):=fun h=>by
  constructor
  ·rw [HZ.out,Rc.got,h,HZ0.out]; rfl
  ·rw [HER.out,h]; rfl
 by_cases hf:Rc.fits b=true
 ·rw [hf,if_pos rfl] at CU1
  obtain ⟨m,hm⟩:=zx (Rc.unpad b)
  rw [<- hm] at CU1
  have HF:=qh hf
  have HM:=qh hm
  clear hf hm CU
  go_wp2_with fail
  refine CU1.out.mono ?_
  rintro e w2 ⟨A1,n1,c1,rfl,hR,hX,_⟩
  have W2:=qh (W1.trans (hX.mono W1.size))
  have B2:=qh (B1.below hX hs1)
  have R2:=qh hR
  have HML:=qh hR.len
  have hn1:n1<=9223372036854775807:=by have h1:=hR.cap; have h2:=hR.max; unfold maxLen at h2; omega
  clear hX hR B1 W1 CU1
  by_cases h9:n1 < 9
  ·obtain ⟨rfl,rfl⟩:=ZE.out (by unfold Rc.gets; rw [<- HM.out,HML.out,decide_eq_false (show ¬ 9<=n1 by omega)]; simp)
   have h9i:(n1:Int) < 9:=by omega
   go_wp2_with (first
    | (with_reducible refine build_law rfl 23 #[] rfl Z0 (by simp only [List.map_toArray,List.map_nil]; exact BZ.out) ?_)
    | ((with_reducible refine storeGen_law rfl 23 (.tmp 2) (.tmp 25) rfl w.heap.size rfl Z0 rfl 23 Z0 IZ.out rfl OZ.out w.heap.size w B2.out W2.out (Nat.le_refl _) ?_); intro w3 B3 W3))
   exact bodyPost_ret (results_row_tmp rfl _ _ w.heap.size 23 Z0.toArray (0,0) _ _ rfl rfl B3.out Tryz.underlying23 rfl (by rw [IZ.out]; simp)) rfl ⟨rfl,W3.out⟩
  ·obtain ⟨g,off,rfl,hblt,hcell⟩:=R2.out.at_ (by omega)
   obtain ⟨y,hy⟩:=zx (m.getD 8 0)
   have c8:w2.cell? ⟨g,off + 8,none⟩=some (.int .u8 (y.toNat:Int)):=by rw [hy]; exact hcell 8 (by omega)
   have hy8:=y.toNat_lt
   have h9i:¬ (n1:Int) < 9:=by omega
   have HY:=qh hy
   clear hcell hy
   by_cases hy1:y<=1
   ·have hyi:¬ (1:Int) < (y.toNat:Int):=by have:y.toNat<=1:=hy1; omega
    obtain ⟨gb,hgb⟩:=zx (decide (y=1):Bool)
    have hq1:((y.toNat:Int) == 1)=gb:=by
     rw [hgb]
     rcases (show y.toNat=0 ∨ y.toNat=1 by have:y.toNat<=1:=hy1; omega) with h | h
     ·rw [h,show y=0 from UInt8.toNat_inj.1 h]; rfl
     ·rw [h,show y=1 from UInt8.toNat_inj.1 h]; rfl
    have hq2:decide ((y.toNat:Int)=1)=gb:=hq1
    have hsl9:∀ W:World,(Instr.slice 24 (.slice (some ⟨g,off,none⟩) n1 c1) (some (.int .i64 9)) none none).run Tryz.prog W = .ok (.slice (cutA (some ⟨g,off,none⟩) c1 9) (n1 - 9) (c1 - 9)) W:=slice_l (some ⟨g,off,none⟩) n1 c1 9 (by omega)
    have R9:=qh (R2.out.cut (k:=9) (e:=n1) (by omega) (Nat.le_refl _))
    obtain ⟨B9,hB9⟩:=zx (cutA (some ⟨g,off,none⟩) c1 9)
    simp only [<- hB9] at hsl9 R9
    rw [List.take_of_length_le (by have:=HML.out; simp; omega)] at R9
    obtain ⟨vr,hvr⟩:=zx (Rc.sgn (Rc.big (m.take 8) 0))
    obtain ⟨l9,hl9⟩:=zx (m.drop 9)
    rw [<- hl9] at R9
    obtain ⟨L,hL⟩:=zx (recL (Rc.took m))
    have HL:Hid (L=[.int .i64 vr,.bool gb,.string ⟨l9.toArray⟩]):=by unfold Hid; rw [hL,hvr,hgb,HY.out,hl9]; rfl
    have HLR:=qh hL
    have BL:Hid (Tryz.prog.built 23 [(0,.int .i64 vr),(1,.bool gb),(2,.string ⟨l9.toArray⟩)]=some L.toArray):=by unfold Hid; rw [HL.out]; kernel_rfl
    have IL:Hid ((Tryz.prog.info? 23).map (·.size)=some L.length):=by unfold Hid; rw [HL.out]; kernel_rfl
    have LL:Hid (Z0.length=L.length):=by unfold Hid; rw [HL.out,HZ0.out]; rfl
    have OL:Hid (∀ v ∈ L,v.oneCell'=true):=by unfold Hid; rw [HL.out]; simp [Value.oneCell']
    have CV:Hid (∀ W:World,Rd W (some ⟨g,off,none⟩) n1 c1 m->Calls Tryz.prog 33 #[.slice (some ⟨g,off,none⟩) n1 c1] W fun e w'=>e = .returned (.int .i64 vr)/\w'=W):=fun W h=>by rw [hvr]; exact rversion_any h (by omega)
    have CM:Hid (∀ W:World,Calls Tryz.prog 11 #[.agg L.toArray] W fun e w'=>e = .returned (.bool (Rc.may (Rc.took m)))/\Below W.heap.size W w'):=fun W=>by rw [hL]; exact rmay_any _ W
    have HGE:Hid (Rc.gets b=Rc.may (Rc.took m)):=by unfold Hid Rc.gets; rw [HF.out,<- HM.out,<- HY.out,HML.out,decide_eq_true (show 9<=n1 by omega),decide_eq_true hy1]; rfl
    clear hvr hgb hl9 hL hB9
    go_wp2_with fail
    go_upto_region 4 with (fail)
    replace W2:=qh W2.out.drew
    replace B2:=qh B2.out.drew
    replace R2:=qh R2.out.drew
    replace R9:=qh R9.out.drew
    replace c8:w2.drew.cell? ⟨g,off + 8,none⟩=some (.int .u8 (y.toNat:Int)):=c8
    replace hblt:g < w2.drew.heap.size:=hblt
    refine wp_region_any (by kernel_rfl) ?_
    change wpAny _ _ _ _ _ _ _ (World.drew _)
    generalize w2.drew=w3 at *
    refine ztk 0 (.slice (some ⟨g,off,none⟩) n1 c1) ?_
    try simp only [zpt]
    refine ztk 2 (.slice (some ⟨g,off,none⟩) n1 c1) ?_
    try simp only [zpt]
    refine ztk 3 (.pointer (some ⟨g,off + 8,none⟩)) ?_
    try simp only [zpt]
    refine ztk 6 (.slice (some ⟨g,off,none⟩) n1 c1) ?_
    try simp only [zpt]
    refine ztk 7 (.slice B9 (n1 - 9) (c1 - 9)) ?_
    try simp only [zpt]
    refine zph (fun i=>if i=5 then [4] else if i=9 then [1,5,8] else []) [1,4,5,8,9,10] (fun zT d a w'=>∃ x27 x30 x31 x34 x35 x6:Value,a={ tmps:=((((((zT.set 6 x6).set 27 x27).set 30 x30).set 31 x31).set 34 x34).set 35 x35).toArray,defers:=[] }/\Hid (Below w3.heap.size w3 w')/\(d 1=true->x27 = .int .i64 vr)/\(d 4=true->x30 = .int .u8 (y.toNat:Int))/\(d 5=true->x31 = .bool gb)/\(d 8=true->x34 = .string ⟨l9.toArray⟩)/\(d 9=true->x35 = .agg L.toArray)/\(d 10=true->Hid (NewB w' w3.heap.size x6 23 Z0))) 1 6 ?step6 ?init6 ?fin6
    case init6=>refine ⟨_,_,_,_,_,_,rfl,Below.refl _ _,?_,?_,?_,?_,?_,?_⟩ <;> (intro h; exact absurd h (by decide))
    case step6 =>
     intro i hi d a v6 hI hdi hdeps
     obtain ⟨x27,x30,x31,x34,x35,x6,ha,BW,h1,h4,h5,h8,h9,h10⟩:=hI
     simp only [zpt] at ha; subst ha
     have hsw:=BW.out.size
     simp only [List.mem_cons,List.not_mem_nil,or_false] at hi
     rcases hi with rfl | rfl | rfl | rfl | rfl | rfl
     ·refine zst fun K hK=>?_
      go_simp
      refine (CV.out v6 (R2.out.below BW.out)).mono ?_
      rintro e u6 ⟨rfl,rfl⟩
      refine hK _ _ ?_; clear hK K; try simp only [zpt]
      exact ⟨_,_,_,_,_,_,rfl,BW,fun _=>rfl,zk h4,zk h5,zk h8,zk h9,zk h10⟩
     ·have c0:v6.cell? ⟨g,off + 8,none⟩=some (.int .u8 (y.toNat:Int)):=(bel_cell BW.out ⟨g,off + 8,none⟩ hblt).trans c8
      refine zst fun K hK=>?_
      go_simp
      refine hK _ _ ?_; clear hK K; try simp only [zpt]
      exact ⟨_,_,_,_,_,_,rfl,BW,zk h1,fun _=>rfl,zk h5,zk h8,zk h9,zk h10⟩
     ·obtain rfl:=h4 (hdeps 4 (by simp))
      refine zst fun K hK=>?_
      go_simp
      refine hK _ _ ?_; clear hK K; try simp only [zpt]
      exact ⟨_,_,_,_,_,_,rfl,BW,zk h1,zk h4,fun _=>rfl,zk h8,zk h9,zk h10⟩
     ·have hcv:=conv_bytes (R9.out.below BW.out)
      refine zst fun K hK=>?_
      go_simp
      refine hK _ _ ?_; clear hK K; try simp only [zpt]
      exact ⟨_,_,_,_,_,_,rfl,BW,zk h1,zk h4,zk h5,fun _=>rfl,zk h9,zk h10⟩
     ·obtain rfl:=h1 (hdeps 1 (by simp))
      obtain rfl:=h5 (hdeps 5 (by simp))
      obtain rfl:=h8 (hdeps 8 (by simp))
      refine zst fun K hK=>?_
      refine step_build rfl 23 #[(0,.tmp 27),(1,.tmp 31),(2,.tmp 34)] rfl L (by simp only [List.map_toArray,List.map_cons,List.map_nil]; exact BL.out) (hK _ _ ?_)
      clear hK K
      try simp only [zpt]
      exact ⟨_,_,_,_,_,_,rfl,BW,zk h1,zk h4,zk h5,zk h8,fun _=>rfl,zk h10⟩
     ·have hX:=alloc_below v6 (.cells #[.int .i64 0,.bool false,.string ⟨#[]⟩] 23)
      refine zst fun K hK=>?_
      go_simp
      refine hK _ _ ?_; clear hK K; try simp only [zpt]
      exact ⟨_,_,_,_,_,_,rfl,BW.out.trans (hX.mono hsw),zk h1,zk h4,zk h5,zk h8,zk h9,fun _=>⟨_,rfl,hsw,Blk.at_new _ _ 23 Z0 _ (by rw [HZ0.out]; rfl) rfl⟩⟩
    case fin6 =>
     intro a v6 hI
     obtain ⟨x27,x30,x31,x34,x35,x6,ha,BW,h1,h4,h5,h8,h9,h10⟩:=hI
     simp only [zpt] at ha; subst ha
     obtain rfl:=h1 (by decide)
     obtain rfl:=h4 (by decide)
     obtain rfl:=h5 (by decide)
     obtain rfl:=h8 (by decide)
     obtain rfl:=h9 (by decide)
     obtain ⟨g6,rfl,hg6,hB6⟩:=(h10 (by decide)).out
     have B6:=qh hB6
     have hs3:=W2.out.size
     have hs3':=B2.out.lt
     have hs4:=BW.out.size
     have B3:=qh (B2.out.below BW.out B2.out.lt)
     have W3:=qt W2 BW.out
     clear h10 hB6 BW R2 R9 B2 W2 CV c8
     try dsimp only
     refine zrd 11 fun K hK=>?_
     refine step_storeAll rfl 23 (.tmp 6) (.tmp 35) rfl g6 rfl L rfl 23 Z0 B6.out IL.out LL.out OL.out (hK _ _ ?_)
     clear hK K
     try simp only [zpt]
     have K4:=qh (B6.out.row (cs':=L))
     have B4:=qh (B3.out.rowFar (show w.heap.size ≠ g6 by omega) L.toArray)
     have W4:=qh (below_setRow W3.out (show w.heap.size<=g6 by omega) L.toArray)
     refine wpAny_done (by kernel_rfl) ?_ _
     generalize v6.setRow g6 L.toArray=w4 at *
     clear B6 B3 W3
     go_wp2_with (first | (with_reducible refine load_law rfl 23 (.tmp 6) rfl g6 0 rfl L _ Tryz.underlying23 rfl IL.out K4.out.cells ?_))
     refine (CM.out w4).mono ?_
     rintro e w5 ⟨rfl,hX⟩
     have B5:=qh (B4.out.below hX B4.out.lt)
     have K5:=qh (K4.out.below hX K4.out.lt)
     have W5:=qt W4 hX
     clear hX B4 K4 W4 CM
     by_cases hmay:Rc.may (Rc.took m)=true
     ·have hget:Rc.gets b=true:=by rw [HGE.out,hmay]
      obtain rfl:z = .agg L.toArray:=by rw [HZ.out,Rc.got,hget,if_pos rfl,<- HM.out,HLR.out]; rfl
      obtain rfl:er=0:=by rw [HER.out,hget]; rfl
      rw [hmay]
      go_wp2_with (first
       | (with_reducible refine load_law rfl 23 (.tmp 6) rfl g6 0 rfl L _ Tryz.underlying23 rfl IL.out K5.out.cells ?_)
       | ((with_reducible refine storeGen_law rfl 23 (.tmp 2) (.tmp 40) rfl w.heap.size rfl L rfl 23 Z0 IL.out LL.out OL.out w.heap.size w B5.out W5.out (Nat.le_refl _) ?_); intro w6 B6 W6))
      exact bodyPost_ret (results_row_tmp rfl _ _ w.heap.size 23 L.toArray (0,0) _ _ rfl rfl B6.out Tryz.underlying23 rfl (by rw [IL.out]; simp)) rfl ⟨rfl,W6.out⟩
     ·have hmay:Rc.may (Rc.took m)=false:=by simpa using hmay
      obtain ⟨rfl,rfl⟩:=ZE.out (by rw [HGE.out,hmay])
      rw [hmay]
      go_wp2_with (first
       | (with_reducible refine build_law rfl 23 #[] rfl Z0 (by simp only [List.map_toArray,List.map_nil]; exact BZ.out) ?_)
       | ((with_reducible refine storeGen_law rfl 23 (.tmp 2) (.tmp 39) rfl w.heap.size rfl Z0 rfl 23 Z0 IZ.out rfl OZ.out w.heap.size w B5.out W5.out (Nat.le_refl _) ?_); intro w6 B6 W6))
      exact bodyPost_ret (results_row_tmp rfl _ _ w.heap.size 23 Z0.toArray (0,0) _ _ rfl rfl B6.out Tryz.underlying23 rfl (by rw [IZ.out]; simp)) rfl ⟨rfl,W6.out⟩
   ·obtain ⟨rfl,rfl⟩:=ZE.out (by unfold Rc.gets; rw [<- HM.out,<- HY.out,decide_eq_false hy1]; simp)
    have hyi:(1:Int) < (y.toNat:Int):=by have:¬ y.toNat<=1:=hy1; omega
    go_wp2_with (first
     | (with_reducible refine build_law rfl 23 #[] rfl Z0 (by simp only [List.map_toArray,List.map_nil]; exact BZ.out) ?_)
     | ((with_reducible refine storeGen_law rfl 23 (.tmp 2) (.tmp 25) rfl w.heap.size rfl Z0 rfl 23 Z0 IZ.out rfl OZ.out w.heap.size w B2.out W2.out (Nat.le_refl _) ?_); intro w3 B3 W3))
    exact bodyPost_ret (results_row_tmp rfl _ _ w.heap.size 23 Z0.toArray (0,0) _ _ rfl rfl B3.out Tryz.underlying23 rfl (by rw [IZ.out]; simp)) rfl ⟨rfl,W3.out⟩
 ·have hf:Rc.fits b=false:=by simpa using hf
  rw [hf] at CU1
  obtain ⟨rfl,rfl⟩:=ZE.out (by unfold Rc.gets; rw [hf]; rfl)
  clear hf CU
  go_wp2_with fail
  refine CU1.out.mono ?_
  rintro e w2 ⟨A1,n1,c1,rfl,hR,hX,_⟩
  have W2:=qh (W1.trans (hX.mono W1.size))
  have B2:=qh (B1.below hX hs1)
  clear hX hR B1 W1 CU1
  go_wp2_with (first
   | (with_reducible refine build_law rfl 23 #[] rfl Z0 (by simp only [List.map_toArray,List.map_nil]; exact BZ.out) ?_)
   | ((with_reducible refine storeGen_law rfl 23 (.tmp 2) (.tmp 25) rfl w.heap.size rfl Z0 rfl 23 Z0 IZ.out rfl OZ.out w.heap.size w B2.out W2.out (Nat.le_refl _) ?_); intro w3 B3 W3))
  exact bodyPost_ret (results_row_tmp rfl _ _ w.heap.size 23 Z0.toArray (0,0) _ _ rfl rfl B3.out Tryz.underlying23 rfl (by rw [IZ.out]; simp)) rfl ⟨rfl,W3.out⟩
open Go.RowKit
def envL (ep nonce:Int) (c:List UInt8):List Value:=[.int .i64 ep,.int .i64 nonce,.string ⟨c.toArray⟩]
def envV (ep nonce:Int) (c:List UInt8):Value:=.agg (envL ep nonce c).toArray
def Rc.beside (lb:List UInt8) (ep:Int):List UInt8:=lb ++ Num.enc (Num.zig ep)
theorem beside_len {lb:List UInt8} (h:lb.length=32) (ep:Int) (h1:-9223372036854775808<=ep) (h2:ep<=9223372036854775807):(Rc.beside lb ep).length<=42:=by
 have:=Num.enc_len10 (Num.zig_lt ep h1 h2)
 unfold Rc.beside
 rw [List.length_append,h]
 omega
theorem Nw.mono {w:World} {b b':Nat} {x:Value} {l:List UInt8} (h:Nw w b x l) (hb:b'<=b):Nw w b' x l:=by
 obtain ⟨A,c,e,hr,hn⟩:=h
 exact ⟨A,c,e,hr,fun y hy h0=>Nat.le_trans hb (hn y hy h0)⟩
theorem keys_field0 (k:List Value) (a b c:List Value) (W:World) (hk:k=a ++ b ++ c) (ha:a.length=32) (hb:b.length=32) (hc:c.length=32):(Instr.field 53 (.agg k.toArray) 0).run Tryz.prog W = .ok (.agg a.toArray) W:=by
 subst hk
 obtain ⟨a0,a1,a2,a3,a4,a5,a6,a7,a8,a9,a10,a11,a12,a13,a14,a15,a16,a17,a18,a19,a20,a21,a22,a23,a24,a25,a26,a27,a28,a29,a30,a31,rfl⟩:=list32 ha
 obtain ⟨b0,b1,b2,b3,b4,b5,b6,b7,b8,b9,b10,b11,b12,b13,b14,b15,b16,b17,b18,b19,b20,b21,b22,b23,b24,b25,b26,b27,b28,b29,b30,b31,rfl⟩:=list32 hb
 obtain ⟨c0,c1,c2,c3,c4,c5,c6,c7,c8,c9,c10,c11,c12,c13,c14,c15,c16,c17,c18,c19,c20,c21,c22,c23,c24,c25,c26,c27,c28,c29,c30,c31,rfl⟩:=list32 hc
 kernel_rfl
theorem rbeside_any {w:World} {lb:List UInt8} (ep:Int) (hl:lb.length=32) (h1:-9223372036854775808<=ep) (h2:ep<=9223372036854775807):Calls Tryz.prog 35 #[.agg (lb.map cellOf).toArray,.int .i64 ep] w fun e w'=>∃ v,e = .returned v/\Nw w' w.heap.size v (Rc.beside lb ep)/\Below w.heap.size w w':=by
 have hz:=beside_len hl ep h1 h2
 obtain ⟨rc,hrc⟩:=zx (lb.map cellOf)
 have HL:=qh hl
 have hrl:rc.length=32:=by rw [hrc,List.length_map,hl]
 have HRC:=qh hrc
 rw [<- hrc]
 clear hrc hl
 go_enter Tryz.func35,Tryz.ntmps35
 go_upto_region 1 with (fail)
 have X0:=qh (alloc_below w (.cells rc.toArray 46))
 have B0:=Blk.new w 46 rc
 have R0:Hid (Rd (w.alloc (.cells rc.toArray 46)) (some ⟨w.heap.size,0,none⟩) 32 32 lb):=by rw [HRC.out] at B0 ⊢; exact blk_rd32 B0 HL.out
 clear B0
 generalize w.alloc (.cells rc.toArray 46)=w1 at *
 have CP:=qh (put_any ep h1 h2 R0.out (by omega))
 go_wp2_with fail
 refine CP.out.mono ?_
 rintro e w2 ⟨v,rfl,hO,hX⟩
 have N2:=qh (Nw.ofOw hO X0.out.size)
 have W2:=qt X0 hX
 clear hO hX CP R0 X0
 go_wp2_with fail
 go_ret
 exact ⟨_,rfl,N2.out,W2.out⟩
theorem rseal_gen {w:World} {xp:Value} {A:Option Addr} {n c:Nat} {s lb out:List UInt8} (r:Rc.R) (ep nonce:Int) (F:World->World->Prop) (hg:Gl w) (hr:Rd w A n c s) (hn:n<=1000000) (hm:Rc.may r=true)
  (e0:0<=ep) (e1:ep<=9223372036854775807) (n0:0<=nonce) (hlb:lb.length=32) (ho:0 < out.length)
  (hF:∀ w1 w2:World,F w1 w2->w1.heap.size<=w2.heap.size/\∀ i,w.heap.size<=i->i < w1.heap.size->w2.heap[i]?=w1.heap[i]?)
  (HS:∀ (w1:World) (A1 A2:Option Addr) (n1 n2 c1 c2:Nat),Gl w1->Below w.heap.size w w1->Rd w1 A1 n1 c1 (Rc.beside lb ep)->(∀ x,A1=some x->0 < n1->w.heap.size<=x.block)->Rd w1 A2 n2 c2 (Rc.put r)->(∀ x,A2=some x->0 < n2->w.heap.size<=x.block) ->
   Calls Tryz.prog 34 #[xp,.agg ((Rc.sealKey s ep).map cellOf).toArray,.int .i64 nonce,.slice A1 n1 c1,.slice A2 n2 c2] w1 fun e w2=>∃ A3 c3,e = .returned (.slice A3 out.length c3)/\Rd w2 A3 out.length c3 out/\F w1 w2) :
  Calls Tryz.prog 16 #[xp,.slice A n c,.int .i64 ep,.int .i64 nonce,.agg (lb.map cellOf).toArray,recV r] w fun e w'=>e = .returned (.tuple #[envV ep nonce out,.int .i64 0])/\∃ w1 w2 gr,w.heap.size<=gr/\gr < w1.heap.size/\Below w.heap.size w w1/\F w1 w2/\w2.grownBy w' (some gr):=by
 have HG:=qh hg
 have hsz:=hg.size
 have HR:=qh hr
 have HSE:=qh HS
 have HFR:=qh hF
 have CP:=qh (fun (W:World) (h:Gl W)=>rput_may r h hm)
 have CK:=qh (fun (W:World) (h:Gl W) (hR:Rd W A n c s)=>keys_any ep h hR hn (by omega) e1)
 have CB:=qh (fun (W:World)=>rbeside_any (w:=W) ep hlb (by omega) e1)
 clear hg hr HS hF hm
 obtain ⟨lc,hlc⟩:=zx (lb.map cellOf)
 have ILC:Hid ((Tryz.prog.info? 46).map (·.size)=some lc.length):=by unfold Hid; rw [hlc,List.length_map,hlb]; kernel_rfl
 obtain ⟨L,hL⟩:=zx (recL r)
 have IR:Hid ((Tryz.prog.info? 23).map (·.size)=some L.length):=by unfold Hid; rw [hL]; kernel_rfl
 obtain ⟨kk,hkk⟩:=zx ((Rc.keysOf s ep).map cellOf)
 obtain ⟨k1,hk1⟩:=zx ((Rc.sealKey s ep).map cellOf)
 have hfd:=fun W=>keys_field0 kk k1 ((Rc.markKey s).map cellOf) ((Rc.labelKey s).map cellOf) W (by rw [hkk,hk1,Rc.keysOf,List.map_append,List.map_append]) (by rw [hk1,List.length_map,Rc.sealKey_length]) (by rw [List.length_map,Rc.markKey_length]) (by rw [List.length_map,Rc.labelKey_length])
 unfold recV RetH at *
 rw [<- hL] at CP
 rw [<- hL,<- hlc]
 rw [<- hlc] at CB
 rw [<- hkk] at CK
 rw [<- hk1] at HSE
 obtain ⟨E0,hE0⟩:=zx (envL 0 0 [])
 have HE0:=qh hE0
 have IE:Hid ((Tryz.prog.info? 42).map (·.size)=some ([.int .i64 ep,.int .i64 nonce,.string ⟨out.toArray⟩]:List Value).length):=by unfold Hid; kernel_rfl
 have LE:Hid (E0.length=([.int .i64 ep,.int .i64 nonce,.string ⟨out.toArray⟩]:List Value).length):=by unfold Hid; rw [hE0]; rfl
 have OE:Hid (∀ v ∈ ([.int .i64 ep,.int .i64 nonce,.string ⟨out.toArray⟩]:List Value),v.oneCell'=true):=by unfold Hid; simp [Value.oneCell']
 obtain ⟨mo,hmo⟩:=zx (out.length)
 rw [<- hmo] at HSE
 have hmo0:0 < mo:=by omega
 obtain ⟨bs,hbs⟩:=zx (Rc.beside lb ep)
 rw [<- hbs] at HSE CB
 have HBL:=qh hlb
 clear hlc hL hkk hk1 hE0 hmo hbs hlb ho
 go_enter Tryz.func16,Tryz.ntmps16
 go_upto_region 1 with (fail)
 obtain ⟨w1,hw1⟩:=zx (((w.alloc (.cells lc.toArray 46)).alloc (.cells L.toArray 23)).alloc (.cells #[.int .i64 0,.int .i64 0,.string ⟨#[]⟩] 42))
 have B1:Blk w1 w.heap.size 46 lc:=by rw [hw1]; exact ((Blk.new w 46 _).alloc _).alloc _
 have B2:Blk w1 (w.heap.size + 1) 23 L:=by rw [hw1]; exact (Blk.at_new _ _ 23 _ _ rfl (by simp)).alloc _
 have B3:Blk w1 (w.heap.size + 1 + 1) 42 E0:=by rw [hw1,HE0.out]; exact Blk.at_new _ _ 42 _ _ rfl (by simp)
 have W1:Below w.heap.size w w1:=by rw [hw1]; exact (((Below.refl _ _).alloc (Nat.le_refl _) _).alloc (by simp) _).alloc (by simp; omega) _
 have hs1:w.heap.size + 1 + 1 < w1.heap.size:=B3.lt
 rw [<- hw1]
 clear hw1
 go_wp2_with (with_reducible refine load_law rfl 23 (.tmp 11) rfl (w.heap.size + 1) 0 rfl L _ Tryz.underlying23 rfl IR.out B2.cells ?_)
 refine (CP.out w1 (HG.out.below W1 hsz)).mono ?_
 rintro e w2 ⟨A2,n2,c2,rfl,hR2,hX,hF2⟩
 have W2:=qh (W1.trans (hX.mono W1.size))
 have K2:=qh (B1.below hX (by omega))
 have Z2:=qh (B3.below hX hs1)
 have R2:=qh hR2
 have F2:Hid (∀ x,A2=some x->0 < n2->w.heap.size<=x.block):=fun x hx h0=>by have:=hF2 x hx h0; omega
 have hs2:w.heap.size + 1 + 1 < w2.heap.size:=Z2.out.lt
 clear hX hR2 hF2 B1 B2 B3 W1 CP
 go_wp2_with fail
 replace W2:=qh W2.out.drew
 replace K2:=qh K2.out.drew
 replace Z2:=qh Z2.out.drew
 replace R2:=qh R2.out.drew
 replace hs2:w.heap.size + 1 + 1 < w2.drew.heap.size:=hs2
 refine wp_region_any (by kernel_rfl) ?_
 change wpAny _ _ _ _ _ _ _ (World.drew _)
 generalize w2.drew=w3 at *
 refine ztk 0 (xp) ?_
 try simp only [zpt]
 refine ztk 1 (.slice A n c) ?_
 try simp only [zpt]
 refine ztk 2 (.int .i64 ep) ?_
 try simp only [zpt]
 refine ztk 5 (.int .i64 nonce) ?_
 try simp only [zpt]
 refine ztk 7 (.int .i64 ep) ?_
 try simp only [zpt]
 refine ztk 9 (.slice A2 n2 c2) ?_
 try simp only [zpt]
 refine zph (fun i=>if i=4 then [3] else if i=8 then [6,3] else []) [3,4,6,8] (fun zT d a w'=>∃ x36 x37 x39 x41:Value,a={ tmps:=((((zT.set 36 x36).set 37 x37).set 39 x39).set 41 x41).toArray,defers:=[] }/\Hid (Below w3.heap.size w3 w')/\(d 3=true->x36 = .agg kk.toArray)/\(d 4=true->x37 = .agg k1.toArray)/\(d 6=true->x39 = .agg lc.toArray)/\(d 8=true->Hid (Nw w' w.heap.size x41 bs))) 2 4 ?step7 ?init7 ?fin7
 case init7=>refine ⟨_,_,_,_,rfl,Below.refl _ _,?_,?_,?_,?_⟩ <;> (intro h; exact absurd h (by decide))
 case step7 =>
  intro i hi d a v7 hI hdi hdeps
  obtain ⟨x36,x37,x39,x41,ha,BW,h3,h4,h6,h8⟩:=hI
  simp only [zpt] at ha; subst ha
  have hsw:=BW.out.size
  simp only [List.mem_cons,List.not_mem_nil,or_false] at hi
  rcases hi with rfl | rfl | rfl | rfl
  ·refine zst fun K hK=>?_
   go_simp
   refine (CK.out v7 (HG.out.below (zt W2.out BW.out) hsz) (HR.out.below (zt W2.out BW.out))).mono ?_
   rintro e u7 ⟨rfl,hX⟩
   refine hK _ _ ?_; clear hK K; try simp only [zpt]
   exact ⟨_,_,_,_,rfl,BW.out.trans (hX.mono hsw),fun _=>rfl,zk h4,zk h6,fun a=>(h8 (by simpa using a)).out.below hX⟩
  ·obtain rfl:=h3 (hdeps 3 (by simp))
   refine zst fun K hK=>?_
   go_simp
   refine hK _ _ ?_; clear hK K; try simp only [zpt]
   exact ⟨_,_,_,_,rfl,BW,zk h3,fun _=>rfl,zk h6,zk h8⟩
  ·refine zst fun K hK=>?_
   refine step_loadW rfl 46 (.tmp 10) rfl w.heap.size 0 rfl lc _ Tryz.underlying46 rfl ILC.out (K2.out.below BW.out K2.out.lt).cells (hK _ _ ?_)
   clear hK K
   try simp only [zpt]
   exact ⟨_,_,_,_,rfl,BW,zk h3,zk h4,fun _=>rfl,zk h8⟩
  ·obtain rfl:=h6 (hdeps 6 (by simp))
   refine zst fun K hK=>?_
   go_simp
   refine (CB.out v7).mono ?_
   rintro e u7 ⟨v8,rfl,hN,hX⟩
   refine hK _ _ ?_; clear hK K; try simp only [zpt]
   exact ⟨_,_,_,_,rfl,BW.out.trans (hX.mono hsw),zk h3,zk h4,zk h6,fun _=>hN.mono (Nat.le_trans (Nat.le_of_lt (Nat.lt_of_le_of_lt (Nat.le_add_right _ _) hs2)) hsw)⟩
 case fin7 =>
  intro a v7 hI
  obtain ⟨x36,x37,x39,x41,ha,BW,h3,h4,h6,h8⟩:=hI
  simp only [zpt] at ha; subst ha
  obtain rfl:=h3 (by decide)
  obtain rfl:=h4 (by decide)
  obtain rfl:=h6 (by decide)
  obtain ⟨A1,c1,rfl,hR1,hF1⟩:=(h8 (by decide)).out
  obtain ⟨n1,hn1⟩:=zx (bs.length)
  rw [<- hn1] at hR1 hF1
  rw [<- hn1]
  have R1:=qh hR1
  have F1:=qh hF1
  have hsv:=BW.out.size
  replace W2:=qt W2 BW.out
  replace R2:=qh (R2.out.below BW.out)
  replace Z2:=qh (Z2.out.below BW.out Z2.out.lt)
  clear h8 hR1 hF1 hn1 BW K2 CK CB hfd
  try dsimp only
  refine zrd 10 fun K hK=>?_
  go_simp
  refine (HSE.out v7 A1 A2 n1 n2 c1 c2 (HG.out.below W2.out hsz) W2.out R1.out F1.out R2.out F2.out).mono ?_
  rintro e w4 ⟨A3,c3,rfl,hR,hFF⟩
  obtain ⟨hs4,hk4⟩:=HFR.out _ _ hFF
  obtain ⟨g3,o3,rfl,_,_⟩:=hR.at_ hmo0
  have R3:=qh hR
  have FF:=qh hFF
  have Z4:Hid (Blk w4 (w.heap.size + 1 + 1) 42 E0):=(hk4 _ (by omega) (by omega)).trans Z2.out
  have W3:=qh W2.out
  have hs5:w.heap.size + 1 + 1 < v7.heap.size:=by omega
  clear hR hFF hk4 R1 R2 F1 F2 HSE HFR Z2 W2
  refine hK _ _ ?_; clear hK K; try simp only [zpt]
  refine ztk 11 (.slice (some ⟨g3,o3,none⟩) mo c3) ?_
  try simp only [zpt]
  refine wpAny_done (by kernel_rfl) ?_ _
  have hnil:=nil_neB
  have hcv:=conv_bytes R3.out
  clear h3 h4 h6
  go_wp2_with (first
   | (with_reducible refine storeAll_law rfl 42 (.tmp 12) (.tmp 51) rfl (w.heap.size + 1 + 1) rfl [.int .i64 ep,.int .i64 nonce,.string ⟨out.toArray⟩] rfl 42 E0 Z4.out IE.out LE.out OE.out ?_))
  exact bodyPost_ret (results_row_tmp rfl _ _ (w.heap.size + 1 + 1) 42 ([.int .i64 ep,.int .i64 nonce,.string ⟨out.toArray⟩]:List Value).toArray (0,0) _ _ rfl rfl (Z4.out.row (cs':=[.int .i64 ep,.int .i64 nonce,.string ⟨out.toArray⟩])) Tryz.underlying42 rfl (by kernel_rfl)) rfl ⟨rfl,_,w4,_,by omega,hs5,W3.out,FF.out,only_setRow (only_refl w4 _) (.inl rfl) _⟩
open Go.RowKit
def Rc.openR (res:List UInt8 × Bool):Rc.R:=if res.2 then Rc.got res.1 else ⟨0,false,[]⟩
def Rc.openE (res:List UInt8 × Bool):Int:=if res.2 && Rc.gets res.1 then 0 else 9
theorem ropen_gen {w:World} {xp:Value} {A:Option Addr} {n c:Nat} {s lb bx:List UInt8} (ep nonce:Int) (res:List UInt8 × Bool) (hg:Gl w) (hr:Rd w A n c s) (hn:n<=1000000)
  (e0:-9223372036854775808<=ep) (e1:ep<=9223372036854775807) (hlb:lb.length=32) (hbx:bx.length<=1000000) (hres:res.1.length<=1000000)
  (HO:∀ (w1:World) (A1 A2:Option Addr) (n1 n2 c1 c2:Nat),Gl w1->Below w.heap.size w w1->Rd w1 A1 n1 c1 (Rc.beside lb ep)->Rd w1 A2 n2 c2 bx ->
   Calls Tryz.prog 42 #[xp,.agg ((Rc.sealKey s ep).map cellOf).toArray,.int .i64 nonce,.slice A1 n1 c1,.slice A2 n2 c2] w1 (RetP w1 res)) :
  Calls Tryz.prog 20 #[xp,.slice A n c,.agg (lb.map cellOf).toArray,envV ep nonce bx] w fun e w'=>e = .returned (.tuple #[recV (Rc.openR res),.int .i64 (Rc.openE res)])/\Below w.heap.size w w':=by
 have HG:=qh hg
 have hsz:=hg.size
 have HR:=qh hr
 have HSE:=qh HO
 have CK:=qh (fun (W:World) (h:Gl W) (hR:Rd W A n c s)=>keys_any ep h hR hn e0 e1)
 have CB:=qh (fun (W:World)=>rbeside_any (w:=W) ep hlb e0 e1)
 clear hg hr HO
 obtain ⟨lc,hlc⟩:=zx (lb.map cellOf)
 have ILC:Hid ((Tryz.prog.info? 46).map (·.size)=some lc.length):=by unfold Hid; rw [hlc,List.length_map,hlb]; kernel_rfl
 obtain ⟨kk,hkk⟩:=zx ((Rc.keysOf s ep).map cellOf)
 obtain ⟨k1,hk1⟩:=zx ((Rc.sealKey s ep).map cellOf)
 have hfd:=fun W=>keys_field0 kk k1 ((Rc.markKey s).map cellOf) ((Rc.labelKey s).map cellOf) W (by rw [hkk,hk1,Rc.keysOf,List.map_append,List.map_append]) (by rw [hk1,List.length_map,Rc.sealKey_length]) (by rw [List.length_map,Rc.markKey_length]) (by rw [List.length_map,Rc.labelKey_length])
 unfold RetH at *
 rw [<- hlc]
 rw [<- hlc] at CB
 rw [<- hkk] at CK
 rw [<- hk1] at HSE
 obtain ⟨Z0,hZ0⟩:=zx (recL ⟨0,false,[]⟩)
 have HZ0:=qh hZ0
 have IZ:Hid ((Tryz.prog.info? 23).map (·.size)=some Z0.length):=by unfold Hid; rw [hZ0]; kernel_rfl
 have OZ:Hid (∀ v ∈ Z0,v.oneCell'=true):=by unfold Hid; rw [hZ0]; simp [recL,Value.oneCell']
 have BZ:Hid (Tryz.prog.built 23 []=some Z0.toArray):=by unfold Hid; rw [hZ0]; kernel_rfl
 obtain ⟨res1,ok⟩:=res
 obtain ⟨z,hz⟩:=zx (recV (Rc.openR (res1,ok)))
 obtain ⟨er,her⟩:=zx (Rc.openE (res1,ok))
 rw [<- hz,<- her]
 have HZ:=qh hz
 have HER:=qh her
 replace hres:res1.length<=1000000:=hres
 obtain ⟨bs,hbs⟩:=zx (Rc.beside lb ep)
 rw [<- hbs] at HSE CB
 unfold envV envL
 clear hlc hkk hk1 hZ0 hbs hlb hz her
 go_enter Tryz.func20,Tryz.ntmps20
 go_upto_region 1 with (fail)
 obtain ⟨w1,hw1⟩:=zx (((w.alloc (.cells lc.toArray 46)).alloc (.cells ([.int .i64 ep,.int .i64 nonce,.string ⟨bx.toArray⟩]:List Value).toArray 42)).alloc (.cells #[.int .i64 0,.bool false,.string ⟨#[]⟩] 23))
 have B1:Blk w1 w.heap.size 46 lc:=by rw [hw1]; exact ((Blk.new w 46 _).alloc _).alloc _
 have B2:Blk w1 (w.heap.size + 1) 42 [.int .i64 ep,.int .i64 nonce,.string ⟨bx.toArray⟩]:=by rw [hw1]; exact (Blk.at_new _ _ 42 _ _ rfl (by simp)).alloc _
 have B3:Blk w1 (w.heap.size + 1 + 1) 23 Z0:=by rw [hw1,HZ0.out]; exact Blk.at_new _ _ 23 _ _ rfl (by simp)
 have W1:Below w.heap.size w w1:=by rw [hw1]; exact (((Below.refl _ _).alloc (Nat.le_refl _) _).alloc (by simp) _).alloc (by simp; omega) _
 have hs1:w.heap.size + 1 + 1 < w1.heap.size:=B3.lt
 rw [<- hw1]
 clear hw1
 have K2:=qh B1.drew
 have E2:=qh B2.drew
 have Z2:=qh B3.drew
 have W2:=qh W1.drew
 replace hs1:w.heap.size + 1 + 1 < w1.drew.heap.size:=hs1
 clear B1 B2 B3 W1
 refine wp_region_any (by kernel_rfl) ?_
 change wpAny _ _ _ _ _ _ _ (World.drew _)
 generalize w1.drew=w3 at *
 refine ztk 0 (xp) ?_
 try simp only [zpt]
 refine ztk 1 (.slice A n c) ?_
 try simp only [zpt]
 refine ztk 2 (.pointer (some ⟨w.heap.size + 1,0,none⟩)) ?_
 try simp only [zpt]
 refine ztk 6 (.pointer (some ⟨w.heap.size + 1,1,none⟩)) ?_
 try simp only [zpt]
 refine ztk 9 (.pointer (some ⟨w.heap.size + 1,0,none⟩)) ?_
 try simp only [zpt]
 refine ztk 12 (.pointer (some ⟨w.heap.size + 1,2,none⟩)) ?_
 try simp only [zpt]
 refine zph (fun i=>if i=4 then [3] else if i=5 then [4] else if i=11 then [8,10,4] else if i=14 then [13] else []) [3,4,5,7,8,10,11,13,14] (fun zT d a w'=>∃ x18 x19 x20 x22 x23 x25 x26 x28 x29:Value,a={ tmps:=(((((((((zT.set 18 x18).set 19 x19).set 20 x20).set 22 x22).set 23 x23).set 25 x25).set 26 x26).set 28 x28).set 29 x29).toArray,defers:=[] }/\Hid (Below w3.heap.size w3 w')/\(d 3=true->x18 = .int .i64 ep)/\(d 4=true->x19 = .agg kk.toArray)/\(d 5=true->x20 = .agg k1.toArray)/\(d 7=true->x22 = .int .i64 nonce)/\(d 8=true->x23 = .agg lc.toArray)/\(d 10=true->x25 = .int .i64 ep)/\(d 11=true->Hid (Nw w' w3.heap.size x26 bs))/\(d 13=true->x28 = .string ⟨bx.toArray⟩)/\(d 14=true->Hid (Nw w' w3.heap.size x29 bx))) 6 9 ?step7 ?init7 ?fin7
 case init7=>refine ⟨_,_,_,_,_,_,_,_,_,rfl,Below.refl _ _,?_,?_,?_,?_,?_,?_,?_,?_,?_⟩ <;> (intro h; exact absurd h (by decide))
 case step7 =>
  intro i hi d a v7 hI hdi hdeps
  obtain ⟨x18,x19,x20,x22,x23,x25,x26,x28,x29,ha,BW,h3,h4,h5,h7,h8,h10,h11,h13,h14⟩:=hI
  simp only [zpt] at ha; subst ha
  have hsw:=BW.out.size
  simp only [List.mem_cons,List.not_mem_nil,or_false] at hi
  rcases hi with rfl | rfl | rfl | rfl | rfl | rfl | rfl | rfl | rfl
  ·have c0:v7.cell? ⟨w.heap.size + 1,0,none⟩=some (.int .i64 ep):=(E2.out.below BW.out E2.out.lt).cell 0
   refine zst fun K hK=>?_
   go_simp
   refine hK _ _ ?_; clear hK K; try simp only [zpt]
   exact ⟨_,_,_,_,_,_,_,_,_,rfl,BW,fun _=>rfl,zk h4,zk h5,zk h7,zk h8,zk h10,zk h11,zk h13,zk h14⟩
  ·obtain rfl:=h3 (hdeps 3 (by simp))
   refine zst fun K hK=>?_
   go_simp
   refine (CK.out v7 (HG.out.below (zt W2.out BW.out) hsz) (HR.out.below (zt W2.out BW.out))).mono ?_
   rintro e u7 ⟨rfl,hX⟩
   refine hK _ _ ?_; clear hK K; try simp only [zpt]
   exact ⟨_,_,_,_,_,_,_,_,_,rfl,BW.out.trans (hX.mono hsw),zk h3,fun _=>rfl,zk h5,zk h7,zk h8,zk h10,fun a=>(h11 (by simpa using a)).out.below hX,zk h13,fun a=>(h14 (by simpa using a)).out.below hX⟩
  ·obtain rfl:=h4 (hdeps 4 (by simp))
   refine zst fun K hK=>?_
   go_simp
   refine hK _ _ ?_; clear hK K; try simp only [zpt]
   exact ⟨_,_,_,_,_,_,_,_,_,rfl,BW,zk h3,zk h4,fun _=>rfl,zk h7,zk h8,zk h10,zk h11,zk h13,zk h14⟩
  ·have c0:v7.cell? ⟨w.heap.size + 1,1,none⟩=some (.int .i64 nonce):=(E2.out.below BW.out E2.out.lt).cell 1
   refine zst fun K hK=>?_
   go_simp
   refine hK _ _ ?_; clear hK K; try simp only [zpt]
   exact ⟨_,_,_,_,_,_,_,_,_,rfl,BW,zk h3,zk h4,zk h5,fun _=>rfl,zk h8,zk h10,zk h11,zk h13,zk h14⟩
  ·refine zst fun K hK=>?_
   refine step_loadW rfl 46 (.tmp 6) rfl w.heap.size 0 rfl lc _ Tryz.underlying46 rfl ILC.out (K2.out.below BW.out K2.out.lt).cells (hK _ _ ?_)
   clear hK K
   try simp only [zpt]
   exact ⟨_,_,_,_,_,_,_,_,_,rfl,BW,zk h3,zk h4,zk h5,zk h7,fun _=>rfl,zk h10,zk h11,zk h13,zk h14⟩
  ·have c0:v7.cell? ⟨w.heap.size + 1,0,none⟩=some (.int .i64 ep):=(E2.out.below BW.out E2.out.lt).cell 0
   refine zst fun K hK=>?_
   go_simp
   refine hK _ _ ?_; clear hK K; try simp only [zpt]
   exact ⟨_,_,_,_,_,_,_,_,_,rfl,BW,zk h3,zk h4,zk h5,zk h7,zk h8,fun _=>rfl,zk h11,zk h13,zk h14⟩
  ·obtain rfl:=h8 (hdeps 8 (by simp))
   obtain rfl:=h10 (hdeps 10 (by simp))
   refine zst fun K hK=>?_
   go_simp
   refine (CB.out v7).mono ?_
   rintro e u7 ⟨v8,rfl,hN,hX⟩
   refine hK _ _ ?_; clear hK K; try simp only [zpt]
   exact ⟨_,_,_,_,_,_,_,_,_,rfl,BW.out.trans (hX.mono hsw),zk h3,zk h4,zk h5,zk h7,zk h8,zk h10,fun _=>hN.mono hsw,zk h13,fun a=>(h14 (by simpa using a)).out.below hX⟩
  ·have c0:v7.cell? ⟨w.heap.size + 1,2,none⟩=some (.string ⟨bx.toArray⟩):=(E2.out.below BW.out E2.out.lt).cell 2
   refine zst fun K hK=>?_
   go_simp
   refine hK _ _ ?_; clear hK K; try simp only [zpt]
   exact ⟨_,_,_,_,_,_,_,_,_,rfl,BW,zk h3,zk h4,zk h5,zk h7,zk h8,zk h10,zk h11,fun _=>rfl,zk h14⟩
  ·obtain rfl:=h13 (hdeps 13 (by simp))
   obtain ⟨cS,u7,hcv,hR,hX⟩:=conv_str bx (by omega) v7
   refine zst fun K hK=>?_
   go_simp
   refine hK _ _ ?_; clear hK K; try simp only [zpt]
   exact ⟨_,_,_,_,_,_,_,_,_,rfl,BW.out.trans (hX.mono hsw),zk h3,zk h4,zk h5,zk h7,zk h8,zk h10,fun a=>(h11 (by simpa using a)).out.below hX,zk h13,fun _=>Nw.of hR (fun y hy _=>by injection hy with hy; subst hy; exact Nat.le_refl _) hsw⟩
 case fin7 =>
  intro a v7 hI
  obtain ⟨x18,x19,x20,x22,x23,x25,x26,x28,x29,ha,BW,h3,h4,h5,h7,h8,h10,h11,h13,h14⟩:=hI
  simp only [zpt] at ha; subst ha
  obtain rfl:=h3 (by decide)
  obtain rfl:=h4 (by decide)
  obtain rfl:=h5 (by decide)
  obtain rfl:=h7 (by decide)
  obtain rfl:=h8 (by decide)
  obtain rfl:=h10 (by decide)
  obtain rfl:=h13 (by decide)
  obtain ⟨A1,c1,rfl,hR1,_⟩:=(h11 (by decide)).out
  obtain ⟨n1,hn1⟩:=zx (bs.length)
  rw [<- hn1] at hR1
  rw [<- hn1]
  obtain ⟨A2,c2,rfl,hR2,_⟩:=(h14 (by decide)).out
  obtain ⟨n2,hn2⟩:=zx (bx.length)
  rw [<- hn2] at hR2
  rw [<- hn2]
  have R1:=qh hR1
  have R2:=qh hR2
  have hsv:=BW.out.size
  replace W2:=qt W2 BW.out
  replace Z2:=qh (Z2.out.below BW.out Z2.out.lt)
  clear h11 h14 hR1 hR2 hn1 hn2 BW K2 E2 CK CB hfd
  try dsimp only
  refine zrd 15 fun K hK=>?_
  go_simp
  refine (HSE.out v7 A1 A2 n1 n2 c1 c2 (HG.out.below W2.out hsz) W2.out R1.out R2.out).mono ?_
  rintro e w4 ⟨A3,n3,c3,rfl,hR,hX,_⟩
  have R3:=qh hR
  have L3:=qh hR.len
  have Z4:=qh (Z2.out.below hX (by omega))
  have W4:=qt W2 hX
  clear hR hX R1 R2 HSE Z2 W2
  refine hK _ _ ?_; clear hK K; try simp only [zpt]
  refine ztk 16 (.tuple #[.slice A3 n3 c3,.bool ok]) ?_
  try simp only [zpt]
  refine ztk 17 (.slice A3 n3 c3) ?_
  try simp only [zpt]
  refine ztk 18 (.bool ok) ?_
  try simp only [zpt]
  refine ztk 19 (.slice A3 n3 c3) ?_
  try simp only [zpt]
  refine ztk 20 (.bool ok) ?_
  try simp only [zpt]
  refine wpAny_done (by kernel_rfl) ?_ _
  clear h3 h4 h5 h7 h8 h10 h13
  cases ok with
  | false =>
   obtain rfl:z = .agg Z0.toArray:=by rw [HZ.out,HZ0.out]; rfl
   obtain rfl:er=9:=HER.out
   go_wp2_with (first
    | (with_reducible refine build_law rfl 23 #[] rfl Z0 (by simp only [List.map_toArray,List.map_nil]; exact BZ.out) ?_)
    | ((with_reducible refine storeGen_law rfl 23 (.tmp 8) (.tmp 35) rfl (w.heap.size + 1 + 1) rfl Z0 rfl 23 Z0 IZ.out rfl OZ.out w.heap.size w Z4.out W4.out (by omega) ?_); intro w6 B6 W6))
   exact bodyPost_ret (results_row_tmp rfl _ _ (w.heap.size + 1 + 1) 23 Z0.toArray (0,0) _ _ rfl rfl B6.out Tryz.underlying23 rfl (by rw [IZ.out]; simp)) rfl ⟨rfl,W6.out⟩
  | true =>
   have CG:=qh (rget_any (HG.out.below W4.out hsz) R3.out (by rw [<- L3.out]; exact hres))
   obtain ⟨L,hL⟩:=zx (recL (Rc.got res1))
   have HLL:=qh hL
   have IL:Hid ((Tryz.prog.info? 23).map (·.size)=some L.length):=by unfold Hid; rw [hL]; kernel_rfl
   have LL:Hid (Z0.length=L.length):=by unfold Hid; rw [hL,HZ0.out]; rfl
   have OL:Hid (∀ v ∈ L,v.oneCell'=true):=by unfold Hid; rw [hL]; simp [recL,Value.oneCell']
   unfold recV at CG
   rw [<- hL] at CG
   obtain ⟨gi,hgi⟩:=zx (Rc.gets res1)
   rw [<- hgi] at CG
   have HGI:=qh hgi
   clear hL hgi R3
   go_upto_region 4 with (fail)
   go_wp2_with fail
   refine CG.out.mono ?_
   rintro e w5 ⟨rfl,hX⟩
   have hs4:=Z4.out.lt
   have hs5:=hX.size
   have Z5:=qh (Z4.out.below hX hs4)
   have W5:=qt W4 hX
   clear hX CG Z4 W4
   go_upto_region 5 with (first
    | ((with_reducible refine storeGen_law rfl 23 (.tmp 12) (.tmp 39) rfl w5.heap.size rfl L rfl 23 Z0 IL.out LL.out OL.out w5.heap.size w5 ?_ ?_ (Nat.le_refl _) ?_)
       ·rw [HZ0.out]; exact Blk.at_new _ _ 23 _ _ (by rfl) rfl
       ·exact (Below.refl _ _).alloc (Nat.le_refl _) _
       intro w6 B6 X6))
   have Z6:=qh (Z5.out.below X6.out Z5.out.lt)
   have W6':=qt W5 X6.out
   clear X6 Z5 W5
   cases gi with
   | true =>
    obtain rfl:z = .agg L.toArray:=by rw [HZ.out,HLL.out]; rfl
    obtain rfl:er=0:=by rw [HER.out]; unfold Rc.openE; rw [<- HGI.out]; rfl
    go_wp2_with (first
     | (with_reducible refine load_law rfl 23 (.tmp 12) rfl w5.heap.size 0 rfl L _ Tryz.underlying23 rfl IL.out B6.out.cells ?_)
     | ((with_reducible refine storeGen_law rfl 23 (.tmp 8) (.tmp 44) rfl (w.heap.size + 1 + 1) rfl L rfl 23 Z0 IL.out LL.out OL.out w.heap.size w Z6.out W6'.out (by omega) ?_); intro w7 B7 W7))
    exact bodyPost_ret (results_row_tmp rfl _ _ (w.heap.size + 1 + 1) 23 L.toArray (0,0) _ _ rfl rfl B7.out Tryz.underlying23 rfl (by rw [IL.out]; simp)) rfl ⟨rfl,W7.out⟩
   | false =>
    obtain rfl:z = .agg Z0.toArray:=by rw [HZ.out,HZ0.out,Rc.openR,if_pos rfl,Rc.got,<- HGI.out]; rfl
    obtain rfl:er=9:=by rw [HER.out]; unfold Rc.openE; rw [<- HGI.out]; rfl
    go_wp2_with (first
     | (with_reducible refine build_law rfl 23 #[] rfl Z0 (by simp only [List.map_toArray,List.map_nil]; exact BZ.out) ?_)
     | ((with_reducible refine storeGen_law rfl 23 (.tmp 8) (.tmp 43) rfl (w.heap.size + 1 + 1) rfl Z0 rfl 23 Z0 IZ.out rfl OZ.out w.heap.size w Z6.out W6'.out (by omega) ?_); intro w7 B7 W7))
    exact bodyPost_ret (results_row_tmp rfl _ _ (w.heap.size + 1 + 1) 23 Z0.toArray (0,0) _ _ rfl rfl B7.out Tryz.underlying23 rfl (by rw [IZ.out]; simp)) rfl ⟨rfl,W7.out⟩
open Go.RowKit
theorem put_len {r:Rc.R} (hm:Rc.may r=true):(Rc.put r).length<=2048:=by
 rw [Rc.put_length hm]
 exact Rc.size_le _
theorem rsealI_any {P:BxP} (hB:BoxOk P) {w:World} {g:Nat} {M:Nat->Prop} {sd:Int} {a:Nat} {S:List Bx.SNote} {B L:List Bx.BNote} {A:Option Addr} {n c:Nat} {s lb:List UInt8} (r:Rc.R) (ep nonce:Int) (hg:Gl w) (hM:∀ b,M b->3<=b) (hP:P w g (.ideal sd a S B L) M) (ha:a<=900000)
  (hr:Rd w A n c s) (hn:n<=1000000) (hm:Rc.may r=true) (e0:0<=ep) (e1:ep<=9223372036854775807) (n0:0<=nonce) (n1:nonce<=9223372036854775807) (hlb:lb.length=32) :
  Calls Tryz.prog 16 #[.pointer (some ⟨g,0,none⟩),.slice A n c,.int .i64 ep,.int .i64 nonce,.agg (lb.map cellOf).toArray,recV r] w fun e w'=>∃ M',e = .returned (.tuple #[envV ep nonce (Tap.tape sd a ((Rc.put r).length + 16)),.int .i64 0]) /\
   P w' g (.ideal sd (a + ((Rc.put r).length + 16)) (⟨Rc.sealKey s ep,nonce,Rc.beside lb ep,Rc.put r,Tap.tape sd a ((Rc.put r).length + 16)⟩ :: S) B L) M'/\Fr M w w'/\∀ b,M' b->M b ∨ w.heap.size<=b:=by
 have hpl:=put_len hm
 have hbl:=beside_len hlb ep (by omega) e1
 have hlt:∀ b,M b->b < w.heap.size:=fun b hb=>hB.lt hP hb
 refine (rseal_gen (out:=Tap.tape sd a ((Rc.put r).length + 16)) r ep nonce (fun w1 w2=>∃ M',P w2 g (.ideal sd (a + ((Rc.put r).length + 16)) (⟨Rc.sealKey s ep,nonce,Rc.beside lb ep,Rc.put r,Tap.tape sd a ((Rc.put r).length + 16)⟩ :: S) B L) M'/\Fr M w1 w2/\∀ b,M' b->M b ∨ w1.heap.size<=b) hg hr hn hm e0 e1 n0 hlb (by rw [Tap.tape_length]; omega) ?_ ?_).mono ?_
 ·rintro w1 w2 ⟨M',_,hF,_⟩
  exact ⟨hF.size,fun i h1 h2=>hF.block i h2 fun h=>by have:=hlt i h; omega⟩
 ·intro w1 A1 A2 m1 m2 c1 c2 hg1 hX hR1 hF1 hR2 hF2
  have hl2:=hR2.len
  have hl1:=hR1.len
  have o1:Off M A1 m1:=fun x hx h0 hm=>Nat.lt_irrefl _ (Nat.lt_of_lt_of_le (hlt _ hm) (hF1 x hx h0))
  have o2:Off M A2 m2:=fun x hx h0 hm=>Nat.lt_irrefl _ (Nat.lt_of_lt_of_le (hlt _ hm) (hF2 x hx h0))
  have:=hB.slI (Rc.sealKey s ep) nonce hg1 hM (hB.below hP hX) ha (Rc.sealKey_length _ _) n0 n1 hR1 hR2 o1 o2 (by omega)
  rw [<- hl2] at this
  rw [<- hl2]
  refine this.mono ?_
  rintro e w2 ⟨A3,c3,M',rfl,hR,hP2,hF,hM2,_⟩
  exact ⟨A3,c3,rfl,hR,M',hP2,hF,hM2⟩
 ·rintro e w' ⟨rfl,w1,w2,gr,h1,h2,hX,⟨M',hP2,hF,hM2⟩,hO⟩
  have hgr:¬ M' gr:=fun h=>by
   rcases hM2 gr h with h3 | h3
   ·have:=hlt gr h3; omega
   ·omega
  refine ⟨M',rfl,hB.keep hP2 hO.size (fun b hb=>hO.block b (hB.lt hP2 hb) (fun h=>by injection h with h; subst h; exact hgr hb)),⟨hO.os.trans (hF.os.trans hX.os),hO.tape.trans (hF.tape.trans hX.tape),hO.output.trans (hF.output.trans hX.output),Nat.le_trans hX.size (Nat.le_trans hF.size hO.size),fun i hi hn=>?_⟩,fun b hb=>?_⟩
  ·have h3:=hX.size
   have h4:=hF.size
   rw [hO.block i (by omega) (fun h=>by injection h with h; omega),hF.block i (by omega) hn]
   exact hX.block i hi
  ·rcases hM2 b hb with h3 | h3
   ·exact .inl h3
   ·right
    have:=hX.size
    omega
theorem ropenI_any {P:BxP} (hB:BoxOk P) {w:World} {g:Nat} {M:Nat->Prop} {sd:Int} {a:Nat} {S:List Bx.SNote} {B L:List Bx.BNote} {A:Option Addr} {n c:Nat} {s lb bx:List UInt8} (ep nonce:Int) (hg:Gl w) (hP:P w g (.ideal sd a S B L) M)
  (hr:Rd w A n c s) (hn:n<=1000000) (e0:-9223372036854775808<=ep) (e1:ep<=9223372036854775807) (n0:0<=nonce) (n1:nonce<=9223372036854775807) (hlb:lb.length=32) (hbx:bx.length<=4000) (hres:(Bx.openBy (Rc.sealKey s ep) nonce (Rc.beside lb ep) bx S).1.length<=1000000) :
  Calls Tryz.prog 20 #[.pointer (some ⟨g,0,none⟩),.slice A n c,.agg (lb.map cellOf).toArray,envV ep nonce bx] w fun e w'=>e = .returned (.tuple #[recV (Rc.openR (Bx.openBy (Rc.sealKey s ep) nonce (Rc.beside lb ep) bx S)),.int .i64 (Rc.openE (Bx.openBy (Rc.sealKey s ep) nonce (Rc.beside lb ep) bx S))])/\Below w.heap.size w w':=by
 have hbl:=beside_len hlb ep e0 e1
 refine ropen_gen ep nonce _ hg hr hn e0 e1 hlb (by omega) hres fun w1 A1 A2 m1 m2 c1 c2 hg1 hX hR1 hR2=>?_
 have hl2:=hR2.len
 have hl1:=hR1.len
 exact hB.opI (Rc.sealKey s ep) nonce hg1 (hB.below hP hX) (Rc.sealKey_length _ _) n0 n1 hR1 hR2 (by omega) (by omega)
end Go.Proofs.YtnfbkimkdnbohaaGreatDoor
