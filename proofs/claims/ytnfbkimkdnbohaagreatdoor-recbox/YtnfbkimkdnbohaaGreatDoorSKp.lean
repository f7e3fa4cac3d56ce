import Derived.Test.YtnfbkimkdnbohaaGreatDoorSBox
import Derived.Test.YtnfbkimkdnbohaaGreatDoorSPads
set_option linter.unusedVariables false
set_option linter.unusedSimpArgs false
set_option maxRecDepth 100000
set_option maxHeartbeats 8000000
namespace Go.Proofs.YtnfbkimkdnbohaaGreatDoor.Rc
def root (s:List UInt8):List UInt8:=Sha.hmac [105,110,100,101,110,116,117,114,101] s
def sealKey (s:List UInt8) (e:Int):List UInt8:=Sha.expand (root s) ([115,101,97,108] ++ Num.enc (Num.zig e)) 32
def markKey (s:List UInt8):List UInt8:=Sha.expand (root s) [109,97,114,107] 32
def labelKey (s:List UInt8):List UInt8:=Sha.expand (root s) [108,97,98,101,108] 32
theorem sealKey_length (s:List UInt8) (e:Int):(sealKey s e).length=32:=Sha.expand_length _ _ _
theorem markKey_length (s:List UInt8):(markKey s).length=32:=Sha.expand_length _ _ _
theorem labelKey_length (s:List UInt8):(labelKey s).length=32:=Sha.expand_length _ _ _
def keysOf (s:List UInt8) (e:Int):List UInt8:=sealKey s e ++ markKey s ++ labelKey s
end Go.Proofs.YtnfbkimkdnbohaaGreatDoor.Rc
namespace Go.Proofs.YtnfbkimkdnbohaaGreatDoor
open Go.RowKit
theorem Nw.ofOw {w:World} {b b':Nat} {v:Value} {l:List UInt8} (h:Ow w b' v l) (hb:b<=b'):Nw w b v l:=by
 obtain ⟨A,c,e,hr,hg⟩:=h.value
 refine ⟨A,c,e,hr,fun y hy h0=>?_⟩
 obtain ⟨g,rfl,h⟩:=hg h0
 injection hy with hy
 subst hy
 exact Nat.le_trans hb h
theorem built_keys {a b c:List Value} (ha:a.length=32) (hb:b.length=32) (hc:c.length=32):Tryz.prog.built 53 [(0,.agg a.toArray),(1,.agg b.toArray),(2,.agg c.toArray)]=some (a ++ b ++ c).toArray:=by
 obtain ⟨a0,a1,a2,a3,a4,a5,a6,a7,a8,a9,a10,a11,a12,a13,a14,a15,a16,a17,a18,a19,a20,a21,a22,a23,a24,a25,a26,a27,a28,a29,a30,a31,rfl⟩:=list32 ha
 obtain ⟨b0,b1,b2,b3,b4,b5,b6,b7,b8,b9,b10,b11,b12,b13,b14,b15,b16,b17,b18,b19,b20,b21,b22,b23,b24,b25,b26,b27,b28,b29,b30,b31,rfl⟩:=list32 hb
 obtain ⟨c0,c1,c2,c3,c4,c5,c6,c7,c8,c9,c10,c11,c12,c13,c14,c15,c16,c17,c18,c19,c20,c21,c22,c23,c24,c25,c26,c27,c28,c29,c30,c31,rfl⟩:=list32 hc
 kernel_rfl
theorem copy_all {w:World} {g n c:Nat} {t:TypeId} {cs:List Value} {A:Option Addr} {l:List UInt8} (hb:Blk w g t cs) (hr:Rd w A n c l) (hn:cs.length=n):∃ W',(Builtin.copy_ #[24,24] 3 #[.slice (some ⟨g,0,none⟩) n n,.slice A n c]).run Tryz.prog w = .ok (.int .i64 (n:Int)) W'/\Blk W' g t (l.map cellOf)/\w.grownBy W' (some g):=by
 obtain ⟨W',h1,h2,h3⟩:=copy_into (off:=0) (dLen:=n) (dCap:=n) hb hr (by omega)
 rw [Nat.min_self] at h1 h2
 rw [List.take_zero,List.nil_append,List.drop_of_length_le (by omega),List.append_nil,List.take_of_length_le (by rw [hr.len]; exact Nat.le_refl _)] at h2
 exact ⟨W',h1,h2,h3⟩
theorem kexpand_any {w:World} {A:Option Addr} {ni ci:Nat} {r info:List UInt8} (hg:Gl w) (hr:r.length=32) (hi:Rd w A ni ci info) (hni:ni<=1000000) :
  Calls Tryz.prog 45 #[.agg (r.map cellOf).toArray,.slice A ni ci] w (RetH w (Sha.expand r info 32)):=by
 have HG:=qh hg
 have HI:=qh hi
 have HRL:=qh hr
 have hsz:=hg.size
 clear hg hi hr
 obtain ⟨rc,hrc⟩:=zx (r.map cellOf)
 rw [<- hrc]
 have HRC:=qh hrc
 clear hrc
 go_enter Tryz.func45,Tryz.ntmps45
 go_upto_region 2 with (fail)
 obtain ⟨w0,hw0⟩:=zx (((w.alloc (Obj.cells rc.toArray 46)).alloc (Obj.cells (List.replicate 32 (.int .u8 0)).toArray 46)).alloc (Obj.cells (List.replicate 32 (.int .u8 0)).toArray 46))
 have BR:Hid (Blk w0 w.heap.size 46 rc):=by unfold Hid; rw [hw0]; exact ((Blk.new w 46 _).alloc _).alloc _
 have B1:Hid (Blk w0 (w.heap.size + 1) 46 (List.replicate 32 (.int .u8 0))):=by unfold Hid; rw [hw0]; exact (Blk.at_new _ _ 46 _ _ rfl (by simp)).alloc _
 have B2:Hid (Blk w0 (w.heap.size + 1 + 1) 46 (List.replicate 32 (.int .u8 0))):=by unfold Hid; rw [hw0]; exact Blk.at_new _ _ 46 _ _ rfl (by simp)
 have W0:Hid (Below w.heap.size w w0):=by unfold Hid; rw [hw0]; exact (((Below.refl _ _).alloc (Nat.le_refl _) _).alloc (by simp) _).alloc (by simp; omega) _
 have hs0:w.heap.size + 3<=w0.heap.size:=by rw [hw0]; simp
 change Code.wp _ _ _ _ (((w.alloc (Obj.cells rc.toArray 46)).alloc (Obj.cells (List.replicate 32 (.int .u8 0)).toArray 46)).alloc (Obj.cells (List.replicate 32 (.int .u8 0)).toArray 46))
 rw [<- hw0]
 clear hw0
 have W0d:=qh W0.out.drew
 replace BR:=qh BR.out.drew
 replace B1:=qh B1.out.drew
 replace B2:=qh B2.out.drew
 replace hs0:w.heap.size + 3<=w0.drew.heap.size:=hs0
 refine wp_region_any (by kernel_rfl) ?_
 change wpAny _ _ _ _ _ _ _ (World.drew _)
 generalize w0.drew=w1 at *
 clear W0
 have HG1:=qh (HG.out.below W0d.out hsz)
 have HI1:=qh (HI.out.below W0d.out)
 have R1:Hid (Rd w1 (some ⟨w.heap.size,0,none⟩) 32 32 r):=Rd.of_block BR.out HRL.out (Nat.le_refl _) (by unfold maxLen; omega) (fun j hj=>by rw [Nat.zero_add,HRC.out]; simp [List.getD_eq_getElem?_getD,List.getElem?_eq_getElem (show j < r.length by rw [HRL.out]; exact hj)])
 refine ztk 0 (.slice (some ⟨w.heap.size + 1 + 1,0,none⟩) 32 32) ?_
 try simp only [zpt]
 refine ztk 1 (.slice (some ⟨w.heap.size,0,none⟩) 32 32) ?_
 try simp only [zpt]
 refine ztk 2 (.slice A ni ci) ?_
 try simp only [zpt]
 refine zrd 3 fun K hK=>?_
 go_simp
 refine (expand_any HG1.out R1.out (by omega) HI1.out hni 32 (by omega) (by omega)).mono ?_
 rintro e w2 ⟨g,rfl,hR,hg,hX⟩
 have hs2:=hX.size
 obtain ⟨w3,hcopy,hB3,hO3⟩:=copy_all (n:=32) (B2.out.below hX (by omega)) hR (by simp)
 have W3:=qh (below_of_only (zt W0d.out hX) hO3 (show w.heap.size<=w.heap.size + 1 + 1 by omega) (by omega))
 obtain ⟨D,hD⟩:=zx ((Sha.expand r info 32).map cellOf)
 rw [<- hD] at hB3
 have hDl:D.length=32:=by rw [hD,List.length_map,Sha.expand_length]
 have ID:Hid ((Tryz.prog.info? 46).map (·.size)=some D.length):=by unfold Hid; rw [hDl]; kernel_rfl
 have LD:Hid ((List.replicate 32 (Value.int .u8 0)).length=D.length):=by unfold Hid; rw [hDl]; rfl
 have OD:Hid (∀ v ∈ D,v.oneCell'=true):=by unfold Hid; rw [hD]; exact cells_u8 _
 have HD:=qh hD
 have B3:=qh hB3
 have Z3:Hid (Blk w3 (w.heap.size + 1) 46 (List.replicate 32 (.int .u8 0))):=(hO3.block _ (by omega) (by simp)).trans (B1.out.below hX (by omega))
 clear hD hDl hB3 hO3 hR hX B1 B2 BR R1 HI1 HG1 W0d
 refine hK _ _ ?_; clear hK K; try simp only [zpt]
 refine zrd 4 fun K hK=>?_
 go_simp
 refine hK _ _ ?_; clear hK K; try simp only [zpt]
 refine wpAny_done (by kernel_rfl) ?_ _
 clear hcopy
 go_wp2_with (first
  | ((with_reducible refine load_law rfl 46 (.tmp 5) rfl (w.heap.size + 1 + 1) 0 rfl D _ Tryz.underlying46 rfl ID.out B3.out.cells ?_))
  | ((with_reducible refine storeGen_law rfl 46 (.tmp 4) (.tmp 11) rfl (w.heap.size + 1) rfl D rfl 46 (List.replicate 32 (.int .u8 0)) ID.out LD.out OD.out w.heap.size w Z3.out W3.out (by omega) ?_); intro w6 B6 W6))
 exact bodyPost_ret (results_cell_row rfl _ _ (w.heap.size + 1) 46 D.toArray (0,0) _ rfl B6.out Tryz.underlying46 rfl (by rw [ID.out]; simp)) rfl ⟨by rw [HD.out],W6.out⟩
theorem keys_any {w:World} {A:Option Addr} {n c:Nat} {s:List UInt8} (ep:Int) (hg:Gl w) (hr:Rd w A n c s) (hn:n<=1000000) (h1:-9223372036854775808<=ep) (h2:ep<=9223372036854775807) :
  Calls Tryz.prog 22 #[.slice A n c,.int .i64 ep] w (RetH w (Rc.keysOf s ep)):=by
 have HG:=qh hg
 have HR:=qh hr
 have hsz:=hg.size
 clear hg hr
 have hcv:=conv23
 have hcva:=conv23a
 go_enter Tryz.func22,Tryz.ntmps22
 obtain ⟨SA,hSA⟩:=zx ([105,110,100,101,110,116,117,114,101]:List UInt8)
 obtain ⟨l1,hl1⟩:=zx ([115,101,97,108] ++ Num.enc (Num.zig ep):List UInt8)
 obtain ⟨m1,hm1⟩:∃ m,l1.length=m:=⟨_,rfl⟩
 have hm14:m1<=14:=by have:=Num.enc_len10 (Num.zig_lt ep h1 h2); rw [<- hm1,hl1,List.length_append]; show 4 + _<=14; omega
 have LM1:=qh hm1
 obtain ⟨k1,hk1⟩:=zx ((Rc.sealKey s ep).map cellOf)
 obtain ⟨k2,hk2⟩:=zx ((Rc.markKey s).map cellOf)
 obtain ⟨k3,hk3⟩:=zx ((Rc.labelKey s).map cellOf)
 obtain ⟨kk,hkk⟩:=zx (k1 ++ k2 ++ k3)
 have hkk2:kk=(Rc.keysOf s ep).map cellOf:=by rw [hkk,hk1,hk2,hk3,<- List.map_append,<- List.map_append]; rfl
 have BK:Hid (Tryz.prog.built 53 [(0,.agg k1.toArray),(1,.agg k2.toArray),(2,.agg k3.toArray)]=some kk.toArray):=by
  unfold Hid
  rw [hkk]
  exact built_keys (by rw [hk1,List.length_map,Rc.sealKey_length]) (by rw [hk2,List.length_map,Rc.markKey_length]) (by rw [hk3,List.length_map,Rc.labelKey_length])
 have hkl:kk.length=96:=by rw [hkk2,List.length_map]; simp [Rc.keysOf,Rc.sealKey_length,Rc.markKey_length,Rc.labelKey_length]
 have IKK:Hid ((Tryz.prog.info? 53).map (·.size)=some kk.length):=by unfold Hid; rw [hkl]; kernel_rfl
 have LKK:Hid ((List.replicate 96 (Value.int .u8 0)).length=kk.length):=by unfold Hid; rw [hkl]; rfl
 have OKK:Hid (∀ v ∈ kk,v.oneCell'=true):=by unfold Hid; rw [hkk2]; exact cells_u8 _
 have HKK:=qh hkk2
 obtain ⟨D,hD⟩:=zx ((Rc.root s).map cellOf)
 have hrl:(Rc.root s).length=32:=Sha.hmac_length _ _
 have hDl:D.length=32:=by rw [hD,List.length_map,hrl]
 have ID:Hid ((Tryz.prog.info? 46).map (·.size)=some D.length):=by unfold Hid; rw [hDl]; kernel_rfl
 have LD:Hid ((List.replicate 32 (Value.int .u8 0)).length=D.length):=by unfold Hid; rw [hDl]; rfl
 have OD:Hid (∀ v ∈ D,v.oneCell'=true):=by unfold Hid; rw [hD]; exact cells_u8 _
 have CX:Hid (∀ (W:World) (A A':Option Addr) (c c':Nat),Gl W->Rd W A 9 c SA->Rd W A' n c' s->Calls Tryz.prog 44 #[.slice A 9 c,.slice A' n c'] W fun e w'=>e = .returned (.agg D.toArray)/\Below W.heap.size W w'):=fun W A A' c c' hg ha hb=>by
  refine (extract_any hg ha (by omega) hb (by omega)).mono ?_
  rintro e w' ⟨E,rfl,hM,hX⟩
  have e1:E=D:=by rw [hM,hD,hSA]; rfl
  rw [e1]
  exact ⟨rfl,hX⟩
 have CE:∀ (info:List UInt8) (k:List Value),k=(Sha.expand (Rc.root s) info 32).map cellOf->∀ (W:World) (A:Option Addr) (n c:Nat),Gl W->Rd W A n c info->n<=1000->Calls Tryz.prog 45 #[.agg D.toArray,.slice A n c] W fun e w'=>e = .returned (.agg k.toArray)/\Below W.heap.size W w':=fun info k hk W A n c hg ha hn=>by
  rw [hD,hk]
  exact kexpand_any hg hrl ha (by omega)
 have CE1:=qh (CE l1 k1 (by rw [hk1,hl1]; rfl))
 have CE2:=qh (CE [109,97,114,107] k2 hk2)
 have CE3:=qh (CE [108,97,98,101,108] k3 hk3)
 have CPU:Hid (∀ (W:World) (A:Option Addr),Rd W A 4 4 [115,101,97,108]->Calls Tryz.prog 40 #[.slice A 4 4,.int .i64 ep] W fun e w'=>∃ v',e = .returned v'/\Ow w' W.heap.size v' l1/\Below W.heap.size W w'):=fun W A ha=>by
  rw [hl1]
  exact put_any ep h1 h2 ha (by omega)
 have HSA:=qh hSA
 clear hSA hl1 hm1 hk1 hk2 hk3 hkk hkk2 hkl hD hDl hrl CE
 go_wp2_with fail
 obtain ⟨w1,hw1⟩:=zx ((w.alloc (.cells Tryz.zeroCells53 53)).alloc (.cells #[.int .u8 105,.int .u8 110,.int .u8 100,.int .u8 101,.int .u8 110,.int .u8 116,.int .u8 117,.int .u8 114,.int .u8 101] 5 (9,10)))
 have R1:Rd w1 (some ⟨w.heap.size + 1,0,none⟩) 9 9 SA:=by rw [hw1,HSA.out]; exact lit_bytesF _ _ _ 9 _ _ (by rfl) rfl (by omega) (by simp)
 have W1:Below w.heap.size w w1:=by rw [hw1]; exact ((Below.refl _ _).alloc (Nat.le_refl _) _).alloc (by simp) _
 have Z1:Blk w1 w.heap.size 53 (List.replicate 96 (.int .u8 0)):=by rw [hw1]; exact (Blk.at_new _ _ 53 _ _ (by kernel_rfl) rfl).alloc _
 rw [<- hw1]
 refine (CX.out w1 _ _ _ _ (HG.out.below W1 hsz) R1 (HR.out.below W1)).mono ?_
 rintro e w2 ⟨rfl,hX⟩
 have hs2:=hX.size
 have hs1:w.heap.size < w1.heap.size:=Z1.lt
 have W2:=qh (W1.trans (hX.mono W1.size))
 have Z2:=qh (Z1.below hX hs1)
 clear hw1 R1 W1 Z1 hX hcv hcva CX HSA HR
 go_upto_region 2 with (first
  | ((with_reducible refine storeGen_law rfl 46 (.tmp 5) (.tmp 9) rfl w2.heap.size rfl D rfl 46 (List.replicate 32 (.int .u8 0)) ID.out LD.out OD.out w2.heap.size w2 ?_ ?_ (Nat.le_refl _) ?_)
     ·exact Blk.at_new _ _ 46 _ _ (by rfl) rfl
     ·exact (Below.refl _ _).alloc (Nat.le_refl _) _
     intro w3 B3 X3))
 obtain ⟨gr,hgr⟩:=zx (w2.heap.size)
 rw [<- hgr] at B3
 rw [<- hgr]
 have hgr6:w2.heap.size<=gr:=by omega
 clear hgr
 have W3:=qt W2 X3.out.drew
 have Z3:=qh (Z2.out.below X3.out Z2.out.lt).drew
 have KB:=qh B3.out.drew
 clear X3 B3 W2 Z2
 refine wp_region_any (by kernel_rfl) ?_
 change wpAny _ _ _ _ _ _ _ (World.drew _)
 generalize w3.drew=w4 at *
 refine ztk 3 (.int .i64 ep) ?_
 try simp only [zpt]
 refine zph (fun i=>if i=2 then [1] else if i=4 then [2] else if i=5 then [0,4] else if i=8 then [7] else if i=9 then [6,8,5] else if i=12 then [11] else if i=13 then [10,12,9] else []) [0,1,2,4,5,6,7,8,9,10,11,12,13] (fun zT d a w'=>∃ x10 x11 x12 x14 x15 x16 x17 x18 x19 x20 x21 x22 x23:Value,a={ tmps:=(((((((((((((zT.set 10 x10).set 11 x11).set 12 x12).set 14 x14).set 15 x15).set 16 x16).set 17 x17).set 18 x18).set 19 x19).set 20 x20).set 21 x21).set 22 x22).set 23 x23).toArray,defers:=[] }/\Hid (Below w4.heap.size w4 w')/\(d 0=true->x10 = .agg D.toArray)/\(d 1=true->Hid (Lt w' w4.heap.size x11 [115,101,97,108]))/\(d 2=true->Hid (Lt w' w4.heap.size x12 [115,101,97,108]))/\(d 4=true->Hid (Nw w' w4.heap.size x14 l1))/\(d 5=true->x15 = .agg k1.toArray)/\(d 6=true->x16 = .agg D.toArray)/\(d 7=true->Hid (Lt w' w4.heap.size x17 [109,97,114,107]))/\(d 8=true->Hid (Lt w' w4.heap.size x18 [109,97,114,107]))/\(d 9=true->x19 = .agg k2.toArray)/\(d 10=true->x20 = .agg D.toArray)/\(d 11=true->Hid (Lt w' w4.heap.size x21 [108,97,98,101,108]))/\(d 12=true->Hid (Lt w' w4.heap.size x22 [108,97,98,101,108]))/\(d 13=true->x23 = .agg k3.toArray)) 2 13 ?step7 ?init7 ?fin7
 case init7=>refine ⟨_,_,_,_,_,_,_,_,_,_,_,_,_,rfl,Below.refl _ _,?_,?_,?_,?_,?_,?_,?_,?_,?_,?_,?_,?_,?_⟩ <;> (intro h; exact absurd h (by decide))
 case step7 =>
  intro i hi d a v7 hI hdi hdeps
  obtain ⟨x10,x11,x12,x14,x15,x16,x17,x18,x19,x20,x21,x22,x23,ha,BW,h0,h1,h2,h4,h5,h6,h7,h8,h9,h10,h11,h12,h13⟩:=hI
  simp only [zpt] at ha; subst ha
  have hsw:=BW.out.size
  simp only [List.mem_cons,List.not_mem_nil,or_false] at hi
  rcases hi with rfl | rfl | rfl | rfl | rfl | rfl | rfl | rfl | rfl | rfl | rfl | rfl | rfl
  ·refine zst fun K hK=>?_
   refine step_loadW rfl 46 (.tmp 5) rfl gr 0 rfl D _ Tryz.underlying46 rfl ID.out (KB.out.below BW.out KB.out.lt).cells (hK _ _ ?_)
   clear hK K
   try simp only [zpt]
   exact ⟨_,_,_,_,_,_,_,_,_,_,_,_,_,rfl,BW,fun _=>rfl,zk h1,zk h2,zk h4,zk h5,zk h6,zk h7,zk h8,zk h9,zk h10,zk h11,zk h12,zk h13⟩
  ·have hX:=alloc_below v7 (.cells #[.int .u8 115,.int .u8 101,.int .u8 97,.int .u8 108] 5)
   refine zst fun K hK=>?_
   go_simp
   refine hK _ _ ?_; clear hK K; try simp only [zpt]
   exact ⟨_,_,_,_,_,_,_,_,_,_,_,_,_,rfl,BW.out.trans (hX.mono hsw),zk h0,fun _=>Lt.new _ _ _ _ _ (by rfl) rfl hsw,fun a=>(h2 (by simpa using a)).out.below hX,fun a=>(h4 (by simpa using a)).out.below hX,zk h5,zk h6,fun a=>(h7 (by simpa using a)).out.below hX,fun a=>(h8 (by simpa using a)).out.below hX,zk h9,zk h10,fun a=>(h11 (by simpa using a)).out.below hX,fun a=>(h12 (by simpa using a)).out.below hX,zk h13⟩
  ·have hL:=h1 (hdeps 1 (by simp))
   obtain ⟨u7,hcv,hF,hBz⟩:=conv_mark hL.out
   refine zst fun K hK=>?_
   go_simp
   refine hK _ _ ?_; clear hK K; try simp only [zpt]
   exact ⟨_,_,_,_,_,_,_,_,_,_,_,_,_,rfl,hBz _ BW.out,zk h0,fun a=>(h1 (by simpa using a)).out.fz hF,fun _=>hL.out.fz hF,fun a=>(h4 (by simpa using a)).out.fz hF,zk h5,zk h6,fun a=>(h7 (by simpa using a)).out.fz hF,fun a=>(h8 (by simpa using a)).out.fz hF,zk h9,zk h10,fun a=>(h11 (by simpa using a)).out.fz hF,fun a=>(h12 (by simpa using a)).out.fz hF,zk h13⟩
  ·obtain ⟨gl,rfl,hgl,hgl2,hRl⟩:=(h2 (hdeps 2 (by simp))).out.rd (k:=4) rfl (by omega)
   refine zst fun K hK=>?_
   go_simp
   refine (CPU.out v7 _ hRl).mono ?_
   rintro e u7 ⟨v14,rfl,hO,hX⟩
   refine hK _ _ ?_; clear hK K; try simp only [zpt]
   exact ⟨_,_,_,_,_,_,_,_,_,_,_,_,_,rfl,BW.out.trans (hX.mono hsw),zk h0,fun a=>(h1 (by simpa using a)).out.below hX,fun a=>(h2 (by simpa using a)).out.below hX,fun _=>Nw.ofOw hO hsw,zk h5,zk h6,fun a=>(h7 (by simpa using a)).out.below hX,fun a=>(h8 (by simpa using a)).out.below hX,zk h9,zk h10,fun a=>(h11 (by simpa using a)).out.below hX,fun a=>(h12 (by simpa using a)).out.below hX,zk h13⟩
  ·obtain rfl:=h0 (hdeps 0 (by simp))
   obtain ⟨A5,c5,rfl,hR5,hF5⟩:=(h4 (hdeps 4 (by simp))).out.rd LM1.out
   refine zst fun K hK=>?_
   go_simp
   refine (CE1.out v7 A5 m1 c5 (HG.out.below (zt W3.out BW.out) hsz) hR5 (by omega)).mono ?_
   rintro e u7 ⟨rfl,hX⟩
   refine hK _ _ ?_; clear hK K; try simp only [zpt]
   exact ⟨_,_,_,_,_,_,_,_,_,_,_,_,_,rfl,BW.out.trans (hX.mono hsw),zk h0,fun a=>(h1 (by simpa using a)).out.below hX,fun a=>(h2 (by simpa using a)).out.below hX,fun a=>(h4 (by simpa using a)).out.below hX,fun _=>rfl,zk h6,fun a=>(h7 (by simpa using a)).out.below hX,fun a=>(h8 (by simpa using a)).out.below hX,zk h9,zk h10,fun a=>(h11 (by simpa using a)).out.below hX,fun a=>(h12 (by simpa using a)).out.below hX,zk h13⟩
  ·refine zst fun K hK=>?_
   refine step_loadW rfl 46 (.tmp 5) rfl gr 0 rfl D _ Tryz.underlying46 rfl ID.out (KB.out.below BW.out KB.out.lt).cells (hK _ _ ?_)
   clear hK K
   try simp only [zpt]
   exact ⟨_,_,_,_,_,_,_,_,_,_,_,_,_,rfl,BW,zk h0,zk h1,zk h2,zk h4,zk h5,fun _=>rfl,zk h7,zk h8,zk h9,zk h10,zk h11,zk h12,zk h13⟩
  ·have hX:=alloc_below v7 (.cells #[.int .u8 109,.int .u8 97,.int .u8 114,.int .u8 107] 5)
   refine zst fun K hK=>?_
   go_simp
   refine hK _ _ ?_; clear hK K; try simp only [zpt]
   exact ⟨_,_,_,_,_,_,_,_,_,_,_,_,_,rfl,BW.out.trans (hX.mono hsw),zk h0,fun a=>(h1 (by simpa using a)).out.below hX,fun a=>(h2 (by simpa using a)).out.below hX,fun a=>(h4 (by simpa using a)).out.below hX,zk h5,zk h6,fun _=>Lt.new _ _ _ _ _ (by rfl) rfl hsw,fun a=>(h8 (by simpa using a)).out.below hX,zk h9,zk h10,fun a=>(h11 (by simpa using a)).out.below hX,fun a=>(h12 (by simpa using a)).out.below hX,zk h13⟩
  ·have hL:=h7 (hdeps 7 (by simp))
   obtain ⟨u7,hcv,hF,hBz⟩:=conv_mark hL.out
   refine zst fun K hK=>?_
   go_simp
   refine hK _ _ ?_; clear hK K; try simp only [zpt]
   exact ⟨_,_,_,_,_,_,_,_,_,_,_,_,_,rfl,hBz _ BW.out,zk h0,fun a=>(h1 (by simpa using a)).out.fz hF,fun a=>(h2 (by simpa using a)).out.fz hF,fun a=>(h4 (by simpa using a)).out.fz hF,zk h5,zk h6,fun a=>(h7 (by simpa using a)).out.fz hF,fun _=>hL.out.fz hF,zk h9,zk h10,fun a=>(h11 (by simpa using a)).out.fz hF,fun a=>(h12 (by simpa using a)).out.fz hF,zk h13⟩
  ·obtain rfl:=h6 (hdeps 6 (by simp))
   obtain ⟨gl,rfl,hgl,hgl2,hRl⟩:=(h8 (hdeps 8 (by simp))).out.rd (k:=4) rfl (by omega)
   refine zst fun K hK=>?_
   go_simp
   refine (CE2.out v7 _ 4 4 (HG.out.below (zt W3.out BW.out) hsz) hRl (by omega)).mono ?_
   rintro e u7 ⟨rfl,hX⟩
   refine hK _ _ ?_; clear hK K; try simp only [zpt]
   exact ⟨_,_,_,_,_,_,_,_,_,_,_,_,_,rfl,BW.out.trans (hX.mono hsw),zk h0,fun a=>(h1 (by simpa using a)).out.below hX,fun a=>(h2 (by simpa using a)).out.below hX,fun a=>(h4 (by simpa using a)).out.below hX,zk h5,zk h6,fun a=>(h7 (by simpa using a)).out.below hX,fun a=>(h8 (by simpa using a)).out.below hX,fun _=>rfl,zk h10,fun a=>(h11 (by simpa using a)).out.below hX,fun a=>(h12 (by simpa using a)).out.below hX,zk h13⟩
  ·refine zst fun K hK=>?_
   refine step_loadW rfl 46 (.tmp 5) rfl gr 0 rfl D _ Tryz.underlying46 rfl ID.out (KB.out.below BW.out KB.out.lt).cells (hK _ _ ?_)
   clear hK K
   try simp only [zpt]
   exact ⟨_,_,_,_,_,_,_,_,_,_,_,_,_,rfl,BW,zk h0,zk h1,zk h2,zk h4,zk h5,zk h6,zk h7,zk h8,zk h9,fun _=>rfl,zk h11,zk h12,zk h13⟩
  ·have hX:=alloc_below v7 (.cells #[.int .u8 108,.int .u8 97,.int .u8 98,.int .u8 101,.int .u8 108] 5)
   refine zst fun K hK=>?_
   go_simp
   refine hK _ _ ?_; clear hK K; try simp only [zpt]
   exact ⟨_,_,_,_,_,_,_,_,_,_,_,_,_,rfl,BW.out.trans (hX.mono hsw),zk h0,fun a=>(h1 (by simpa using a)).out.below hX,fun a=>(h2 (by simpa using a)).out.below hX,fun a=>(h4 (by simpa using a)).out.below hX,zk h5,zk h6,fun a=>(h7 (by simpa using a)).out.below hX,fun a=>(h8 (by simpa using a)).out.below hX,zk h9,zk h10,fun _=>Lt.new _ _ _ _ _ (by rfl) rfl hsw,fun a=>(h12 (by simpa using a)).out.below hX,zk h13⟩
  ·have hL:=h11 (hdeps 11 (by simp))
   obtain ⟨u7,hcv,hF,hBz⟩:=conv_mark hL.out
   refine zst fun K hK=>?_
   go_simp
   refine hK _ _ ?_; clear hK K; try simp only [zpt]
   exact ⟨_,_,_,_,_,_,_,_,_,_,_,_,_,rfl,hBz _ BW.out,zk h0,fun a=>(h1 (by simpa using a)).out.fz hF,fun a=>(h2 (by simpa using a)).out.fz hF,fun a=>(h4 (by simpa using a)).out.fz hF,zk h5,zk h6,fun a=>(h7 (by simpa using a)).out.fz hF,fun a=>(h8 (by simpa using a)).out.fz hF,zk h9,zk h10,fun a=>(h11 (by simpa using a)).out.fz hF,fun _=>hL.out.fz hF,zk h13⟩
  ·obtain rfl:=h10 (hdeps 10 (by simp))
   obtain ⟨gl,rfl,hgl,hgl2,hRl⟩:=(h12 (hdeps 12 (by simp))).out.rd (k:=5) rfl (by omega)
   refine zst fun K hK=>?_
   go_simp
   refine (CE3.out v7 _ 5 5 (HG.out.below (zt W3.out BW.out) hsz) hRl (by omega)).mono ?_
   rintro e u7 ⟨rfl,hX⟩
   refine hK _ _ ?_; clear hK K; try simp only [zpt]
   exact ⟨_,_,_,_,_,_,_,_,_,_,_,_,_,rfl,BW.out.trans (hX.mono hsw),zk h0,fun a=>(h1 (by simpa using a)).out.below hX,fun a=>(h2 (by simpa using a)).out.below hX,fun a=>(h4 (by simpa using a)).out.below hX,zk h5,zk h6,fun a=>(h7 (by simpa using a)).out.below hX,fun a=>(h8 (by simpa using a)).out.below hX,zk h9,zk h10,fun a=>(h11 (by simpa using a)).out.below hX,fun a=>(h12 (by simpa using a)).out.below hX,fun _=>rfl⟩
 case fin7 =>
  intro a v7 hI
  obtain ⟨x10,x11,x12,x14,x15,x16,x17,x18,x19,x20,x21,x22,x23,ha,BW,h0,h1,h2,h4,h5,h6,h7,h8,h9,h10,h11,h12,h13⟩:=hI
  simp only [zpt] at ha; subst ha
  obtain rfl:=h0 (by decide)
  obtain rfl:=h5 (by decide)
  obtain rfl:=h6 (by decide)
  obtain rfl:=h9 (by decide)
  obtain rfl:=h10 (by decide)
  obtain rfl:=h13 (by decide)
  replace W3:=qt W3 BW.out
  replace Z3:=qh (Z3.out.below BW.out Z3.out.lt)
  clear h1 h2 h4 h7 h8 h11 h12 BW KB CE1 CE2 CE3 CPU
  try dsimp only
  refine zrd 14 fun K hK=>?_
  refine step_build rfl 53 #[(0,.tmp 15),(1,.tmp 19),(2,.tmp 23)] rfl kk (by simp only [List.map_toArray,List.map_cons,List.map_nil]; exact BK.out) (hK _ _ ?_)
  clear hK K
  try simp only [zpt]
  refine zrd 15 fun K hK=>?_
  refine step_storeAll rfl 53 (.tmp 4) (.tmp 24) rfl w.heap.size rfl kk rfl 53 (List.replicate 96 (.int .u8 0)) Z3.out IKK.out LKK.out OKK.out (hK _ _ ?_)
  clear hK K
  try simp only [zpt]
  have B9:=qh (Z3.out.row (cs':=kk))
  have W9:=qh (below_setRow W3.out (Nat.le_refl _) kk.toArray)
  refine wpAny_done (by kernel_rfl) ?_ _
  go_wp2_with fail
  exact bodyPost_ret (results_cell_row rfl _ _ w.heap.size 53 kk.toArray (0,0) _ rfl B9.out Tryz.underlying53 rfl (by rw [IKK.out]; simp)) rfl ⟨by rw [HKK.out],W9.out⟩
end Go.Proofs.YtnfbkimkdnbohaaGreatDoor
