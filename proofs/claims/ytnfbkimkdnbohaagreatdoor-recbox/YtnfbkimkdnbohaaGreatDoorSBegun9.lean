import Derived.Test.YtnfbkimkdnbohaaGreatDoorSBegun8
import Derived.Test.YtnfbkimkdnbohaaGreatDoorSRec
import Derived.Test.YtnfbkimkdnbohaaGreatDoorSKt
set_option linter.unusedVariables false
set_option linter.unusedSimpArgs false
set_option maxRecDepth 100000
set_option maxHeartbeats 8000000
namespace Go.Proofs.YtnfbkimkdnbohaaGreatDoor
open Go.RowKit
theorem loadW_law {P:Program} {ops:Array Oper} {rest:List Oper} {o:Oper} {a:Act} {w:World} {Q:Exit->Act->World->Prop} (hgd:Region.wanted o (yielded ops a.tmps)=true) (ty:TypeId) (x:Operand) (ho:o.op = .load ty x)
  (b off:Nat) (hx:a.eval x = .pointer (some ⟨b,off,none⟩)) (l:List Value) (d:TypeDesc) (hu:P.underlying ty=some d) (hd:(match d with | .struct _ | .array _ _=>true | _=>false)=true)
  (hi:(P.info? ty).map (·.size)=some l.length) (h:∀ j v,l[j]?=some v->w.cell? ⟨b,off + j,none⟩=some v)
  (hk:wpList P ops Q rest (a.put o.dst (.agg l.toArray)) w):wpList P ops Q (o :: rest) a w :=
 wpList_step fun K hK=>step_loadW hgd ty x ho b off hx l d hu hd hi h (hK _ _ hk)
theorem Blk.part {w:World} {g:Nat} {t:TypeId} {a b c:List Value} {k:Nat} (h:Blk w g t (a ++ b ++ c)) (hk:a.length=k):∀ j v,b[j]?=some v->w.cell? ⟨g,k + j,none⟩=some v:=fun j v hv=>by
 have hj:j < b.length:=(List.getElem?_eq_some_iff.1 hv).1
 rw [h.cell,List.append_assoc,List.getElem?_append_right (by omega),List.getElem?_append_left (by omega),show k + j - a.length=j by omega]
 exact hv
theorem Blk.front {w:World} {g:Nat} {t:TypeId} {a b:List Value} (h:Blk w g t (a ++ b)):∀ j v,a[j]?=some v->w.cell? ⟨g,0 + j,none⟩=some v:=fun j v hv=>by
 have hj:j < a.length:=(List.getElem?_eq_some_iff.1 hv).1
 rw [h.cell,Nat.zero_add,List.getElem?_append_left hj]
 exact hv
theorem sameB_ne {a b:List UInt8} (h:a ≠ b):sameB a b=false:=by simp [sameB,h]
def Rc.one:Rc.R:=⟨1,false,[118]⟩
theorem one_may:Rc.may Rc.one=true:=rfl
theorem one_len:(Rc.put Rc.one).length=32:=by rw [Rc.put_length one_may]; rfl
theorem eval_const (a:Act) (v:Value):a.eval (.const v)=v:=rfl
theorem begun8B_any {P:BxP} (hB:BoxOk P) {w:World} (hg:Gl w):Calls Tryz.prog 28 #[] w fun e w'=>e = .returned (.bool true)/\Below w.heap.size w w':=by
 have HG:=qh hg
 have HB:=qh hB
 clear hg hB
 go_enter Tryz.func28,Tryz.ntmps28
 go_wp2_with fail
 refine (begun8_any HB.out HG.out).mono ?_
 rintro e w1 ⟨rfl,hX⟩
 have X1:=qh hX
 clear hX
 go_wp2_with fail
 go_ret
 exact ⟨rfl,X1.out⟩
theorem begun9_any {P:BxP} (hB:BoxOk P) {w:World} (hg:Gl w):Calls Tryz.prog 6 #[] w fun e w'=>e = .returned (.bool true)/\Below w.heap.size w w':=by
 have HG:=qh hg
 have HB:=qh hB
 have hsz:=hg.size
 clear hg hB
 obtain ⟨a0,ha0⟩:=zx ((Rc.sealKey [115] 0).map cellOf)
 obtain ⟨a1,ha1⟩:=zx ((Rc.sealKey [115] 1).map cellOf)
 obtain ⟨km,hkm⟩:=zx ((Rc.markKey [115]).map cellOf)
 obtain ⟨kl,hkl⟩:=zx ((Rc.labelKey [115]).map cellOf)
 have LA0:Hid (a0.length=32):=by unfold Hid; rw [ha0,List.length_map,Rc.sealKey_length]
 have LA1:Hid (a1.length=32):=by unfold Hid; rw [ha1,List.length_map,Rc.sealKey_length]
 have LKM:Hid (km.length=32):=by unfold Hid; rw [hkm,List.length_map,Rc.markKey_length]
 have LKL:Hid (kl.length=32):=by unfold Hid; rw [hkl,List.length_map,Rc.labelKey_length]
 have I32:∀ l:List Value,l.length=32->(Tryz.prog.info? 46).map (·.size)=some l.length:=fun l h=>by rw [h]; kernel_rfl
 have I96:∀ l:List Value,l.length=96->(Tryz.prog.info? 53).map (·.size)=some l.length:=fun l h=>by rw [h]; kernel_rfl
 have IA0:=qh (I32 a0 LA0.out)
 have IA1:=qh (I32 a1 LA1.out)
 have IKM:=qh (I32 km LKM.out)
 have IKL:=qh (I32 kl LKL.out)
 obtain ⟨k0,hk0⟩:=zx (a0 ++ km ++ kl)
 obtain ⟨k1,hk1⟩:=zx (a1 ++ km ++ kl)
 have LK0:Hid (k0.length=96):=by unfold Hid; rw [hk0,List.length_append,List.length_append,LA0.out,LKM.out,LKL.out]
 have LK1:Hid (k1.length=96):=by unfold Hid; rw [hk1,List.length_append,List.length_append,LA1.out,LKM.out,LKL.out]
 have IK0:=qh (I96 k0 LK0.out)
 have IK1:=qh (I96 k1 LK1.out)
 have e0:(Rc.keysOf [115] 0).map cellOf=k0:=by rw [hk0,ha0,hkm,hkl,Rc.keysOf,List.map_append,List.map_append]
 have e1:(Rc.keysOf [115] 1).map cellOf=k1:=by rw [hk1,ha1,hkm,hkl,Rc.keysOf,List.map_append,List.map_append]
 have OK0:Hid (∀ v ∈ k0,v.oneCell'=true):=by unfold Hid; rw [<- e0]; exact cells_u8 _
 have OK1:Hid (∀ v ∈ k1,v.oneCell'=true):=by unfold Hid; rw [<- e1]; exact cells_u8 _
 have CK0:Hid (∀ (W:World) (A:Option Addr),Gl W->Rd W A 1 1 [115]->Calls Tryz.prog 22 #[.slice A 1 1,.int .i64 0] W fun e w'=>e = .returned (.agg k0.toArray)/\Below W.heap.size W w'):=fun W A h1 h2=>by rw [<- e0]; exact keys_any 0 h1 h2 (by omega) (by omega) (by omega)
 have CK1:Hid (∀ (W:World) (A:Option Addr),Gl W->Rd W A 1 1 [115]->Calls Tryz.prog 22 #[.slice A 1 1,.int .i64 1] W fun e w'=>e = .returned (.agg k1.toArray)/\Below W.heap.size W w'):=fun W A h1 h2=>by rw [<- e1]; exact keys_any 1 h1 h2 (by omega) (by omega) (by omega)
 have N1:Hid (∀ W,(Op.equalIn 10000 46 (.agg a0.toArray) (.agg a1.toArray)).run Tryz.prog W = .ok false W):=fun W=>by rw [ha0,ha1,equal30 _ _ (Rc.sealKey_length _ _) (Rc.sealKey_length _ _),sameB_ne seal_unlike]
 have N2:Hid (∀ W,(Op.equalIn 10000 46 (.agg km.toArray) (.agg km.toArray)).run Tryz.prog W = .ok true W):=fun W=>by rw [hkm,equal30 _ _ (Rc.markKey_length _) (Rc.markKey_length _),sameB_self]
 have N3:Hid (∀ W,(Op.equalIn 10000 46 (.agg kl.toArray) (.agg km.toArray)).run Tryz.prog W = .ok false W):=fun W=>by rw [hkl,hkm,equal30 _ _ (Rc.labelKey_length _) (Rc.markKey_length _),sameB_ne label_unlike]
 have HK0:=qh hk0
 have HK1:=qh hk1
 clear ha0 ha1 hkm hkl hk0 hk1 e0 e1 I32 I96
 have hcv:=conv23
 obtain ⟨Z,hZ⟩:=zx (List.replicate 96 (Value.int .u8 0))
 have HZ:Hid (Tryz.zeroCells53=Z.toArray):=by unfold Hid; rw [hZ]; kernel_rfl
 have LZ0:Hid (Z.length=k0.length):=by unfold Hid; rw [hZ,LK0.out]; rfl
 have LZ1:Hid (Z.length=k1.length):=by unfold Hid; rw [hZ,LK1.out]; rfl
 clear hZ
 obtain ⟨k9,hk9⟩:=zx ((key1 9).map cellOf)
 obtain ⟨k8,hk8⟩:=zx ((key1 8).map cellOf)
 have BK9:Hid (Tryz.prog.built 46 [(0,.int .u8 9)]=some k9.toArray):=by unfold Hid; rw [hk9]; kernel_rfl
 have BK8:Hid (Tryz.prog.built 46 [(0,.int .u8 8)]=some k8.toArray):=by unfold Hid; rw [hk8]; kernel_rfl
 obtain ⟨L1,hL1⟩:=zx (recL Rc.one)
 obtain ⟨L0,hL0⟩:=zx (recL ⟨0,false,[]⟩)
 have BL1:Hid (Tryz.prog.built 23 [(0,.int .i64 1),(2,.string ⟨#[118]⟩)]=some L1.toArray):=by unfold Hid; rw [hL1]; kernel_rfl
 have IL1:Hid ((Tryz.prog.info? 23).map (·.size)=some L1.length):=by unfold Hid; rw [hL1]; kernel_rfl
 have IL0:Hid ((Tryz.prog.info? 23).map (·.size)=some L0.length):=by unfold Hid; rw [hL0]; kernel_rfl
 have LL1:Hid (L0.length=L1.length):=by unfold Hid; rw [hL0,hL1]; rfl
 have OL1:Hid (∀ v ∈ L1,v.oneCell'=true):=by unfold Hid; rw [hL1]; simp [recL,Value.oneCell']
 have OL0:Hid (∀ v ∈ L0,v.oneCell'=true):=by unfold Hid; rw [hL0]; simp [recL,Value.oneCell']
 obtain ⟨lt,hlt⟩:=zx (Tap.tape 2 0 48)
 have LT:Hid (lt.length=48):=by unfold Hid; rw [hlt,Tap.tape_length]
 obtain ⟨EL,hEL⟩:=zx (envL 0 1 lt)
 obtain ⟨E0,hE0⟩:=zx (envL 0 0 [])
 have IEL:Hid ((Tryz.prog.info? 42).map (·.size)=some EL.length):=by unfold Hid; rw [hEL]; kernel_rfl
 have LEL:Hid (E0.length=EL.length):=by unfold Hid; rw [hEL,hE0]; rfl
 have OEL:Hid (∀ v ∈ EL,v.oneCell'=true):=by unfold Hid; rw [hEL]; simp [envL,Value.oneCell']
 obtain ⟨S1,hS1⟩:=zx ([Bx.SNote.mk (Rc.sealKey [115] 0) 1 (Rc.beside (key1 9) 0) (Rc.put Rc.one) lt])
 have CSL:Hid (∀ (W:World) (g:Nat) (M:Nat->Prop) (A:Option Addr),Gl W->(∀ b,M b->3<=b)->P W g (.ideal 2 0 [] [] []) M->Rd W A 1 1 [115]->Calls Tryz.prog 16 #[.pointer (some ⟨g,0,none⟩),.slice A 1 1,.int .i64 0,.int .i64 1,.agg k9.toArray,.agg L1.toArray] W fun e w'=>∃ M',e = .returned (.tuple #[.agg EL.toArray,.int .i64 0])/\P w' g (.ideal 2 48 S1 [] []) M'/\Fr M W w'/\∀ b,M' b->M b ∨ W.heap.size<=b):=fun W g M A h1 h0 h2 h3=>by
  have:=rsealI_any HB.out (lb:=key1 9) Rc.one 0 1 h1 h0 h2 (by omega) h3 (by omega) one_may (by omega) (by omega) (by omega) (by omega) (key1_length 9)
  rw [one_len] at this
  rw [hk9,hL1,hEL,hS1,hlt]
  exact this
 have COP:Hid (∀ (W:World) (g:Nat) (M:Nat->Prop) (A:Option Addr),Gl W->P W g (.ideal 2 48 S1 [] []) M->Rd W A 1 1 [115]->Calls Tryz.prog 20 #[.pointer (some ⟨g,0,none⟩),.slice A 1 1,.agg k9.toArray,.agg EL.toArray] W fun e w'=>e = .returned (.tuple #[.agg L1.toArray,.int .i64 0])/\Below W.heap.size W w'):=fun W g M A h1 h2 h3=>by
  have e1:Bx.openBy (Rc.sealKey [115] 0) 1 (Rc.beside (key1 9) 0) lt S1=(Rc.put Rc.one,true):=by rw [hS1]; simp [Bx.openBy,Bx.lookS]
  have e2:=Rc.gets_put one_may
  have:=ropenI_any HB.out (lb:=key1 9) (bx:=lt) 0 1 h1 h2 h3 (by omega) (by omega) (by omega) (by omega) (by omega) (key1_length 9) (by rw [LT.out]; omega) (by rw [e1,one_len]; omega)
  rw [e1,Rc.openR,if_pos rfl,Rc.got,e2.1,if_pos rfl,e2.2,Rc.openE,e2.1] at this
  rw [hk9,hL1,hEL]
  exact this
 have COP8:Hid (∀ (W:World) (g:Nat) (M:Nat->Prop) (A:Option Addr),Gl W->P W g (.ideal 2 48 S1 [] []) M->Rd W A 1 1 [115]->Calls Tryz.prog 20 #[.pointer (some ⟨g,0,none⟩),.slice A 1 1,.agg k8.toArray,.agg EL.toArray] W fun e w'=>e = .returned (.tuple #[.agg L0.toArray,.int .i64 9])/\Below W.heap.size W w'):=fun W g M A h1 h2 h3=>by
  have e1:Bx.openBy (Rc.sealKey [115] 0) 1 (Rc.beside (key1 8) 0) lt S1=([],false):=by rw [hS1]; simp [Bx.openBy,Bx.lookS,Rc.beside,key1]
  have:=ropenI_any HB.out (lb:=key1 8) (bx:=lt) 0 1 h1 h2 h3 (by omega) (by omega) (by omega) (by omega) (by omega) (key1_length 8) (by rw [LT.out]; omega) (by rw [e1]; simp)
  rw [e1] at this
  rw [hk8,hL0,hEL]
  exact this
 have CL1:Hid (L1=[.int .i64 1,.bool false,.string ⟨#[118]⟩]):=hL1
 have HL0:Hid (L0=[.int .i64 0,.bool false,.string ⟨#[]⟩]):=hL0
 have CEL:Hid (EL=[.int .i64 0,.int .i64 1,.string ⟨lt.toArray⟩]):=hEL
 have HE0:Hid (E0=[.int .i64 0,.int .i64 0,.string ⟨#[]⟩]):=hE0
 obtain ⟨lp,hlp⟩:=zx (Rc.pad [97,98,99])
 have CPD:Hid (∀ (W:World) (A:Option Addr),Gl W->Rd W A 3 3 [97,98,99]->Calls Tryz.prog 23 #[.slice A 3 3] W (RetE W lp 0)):=fun W A h1 h2=>by rw [hlp]; exact ppad_any h1 h2
 have LP:Hid (lp.length=32):=by unfold Hid; rw [hlp,Rc.pad_length (by decide)]; rfl
 have CUP:Hid (∀ (W:World) (A:Option Addr) (n c:Nat),Gl W->Rd W A n c lp->Calls Tryz.prog 24 #[.slice A n c] W (RetE W [97,98,99] 0)):=fun W A n c h1 h2=>by
  have:=punpad_any h1 h2
  rw [hlp,Rc.unpad_pad (by decide),Rc.fits_pad (by decide)] at this
  exact this
 clear hk9 hk8 hL1 hL0 hlt hEL hE0 hS1 hlp
 go_enter Tryz.func6,Tryz.ntmps6
 go_wp2_with fail
 obtain ⟨gw1,hgw1⟩:=zx (w.heap.size)
 obtain ⟨w1,hw1⟩:=zx (w.alloc (.cells #[.int .u8 115] 5 (1,2)))
 have hX:Below w.heap.size w w1:=by rw [hw1]; exact alloc_below _ _
 have R1:=qh (show Rd w1 (some ⟨gw1,0,none⟩) 1 1 [115] by rw [hw1]; exact lit_bytesF w _ _ 1 _ _ (by rfl) rfl (by omega) hgw1)
 rw [<- hgw1,<- hw1]
 refine (CK0.out w1 _ (HG.out.below hX hsz) R1.out).mono ?_
 rintro e w2 ⟨rfl,hY⟩
 have W2:=qh (hX.trans (hY.mono hX.size))
 clear hX hY R1 hw1 hgw1 CK0
 go_wp2_with fail
 obtain ⟨gw3,hgw3⟩:=zx (w2.heap.size)
 obtain ⟨w3,hw3⟩:=zx (w2.alloc (.cells #[.int .u8 115] 5 (1,2)))
 have hX:Below w2.heap.size w2 w3:=by rw [hw3]; exact alloc_below _ _
 have R3:=qh (show Rd w3 (some ⟨gw3,0,none⟩) 1 1 [115] by rw [hw3]; exact lit_bytesF w2 _ _ 1 _ _ (by rfl) rfl (by omega) hgw3)
 rw [<- hgw3,<- hw3]
 have W3:=qt W2 hX
 refine (CK1.out w3 _ (HG.out.below W3.out hsz) R3.out).mono ?_
 rintro e w4 ⟨rfl,hY⟩
 have W4:=qt W3 hY
 clear hX hY R3 hw3 hgw3 CK1 W2 W3
 obtain ⟨w5,hw5⟩:=zx ((w4.alloc (.cells Tryz.zeroCells53 53)).alloc (.cells Tryz.zeroCells53 53))
 have Z1:Hid (Blk ((w4.alloc (.cells Tryz.zeroCells53 53)).alloc (.cells Tryz.zeroCells53 53)) w4.heap.size 53 Z):=(Blk.at_new _ _ 53 _ _ HZ.out rfl).alloc _
 have Z2:Hid (Blk (((w4.alloc (.cells Tryz.zeroCells53 53)).alloc (.cells Tryz.zeroCells53 53)).setRow w4.heap.size k0.toArray) (w4.heap.size + 1) 53 Z):=(Blk.at_new _ _ 53 _ _ HZ.out (by simp)).rowFar (by omega) _
 have hs4:=W4.out.size
 go_upto_region 2 with (first
  | (with_reducible refine storeAll_law rfl 53 (.tmp 1) (.tmp 16) rfl w4.heap.size rfl k0 rfl 53 Z Z1.out IK0.out LZ0.out OK0.out ?_)
  | (with_reducible refine storeAll_law rfl 53 (.tmp 2) (.tmp 19) rfl (w4.heap.size + 1) rfl k1 rfl 53 Z Z2.out IK1.out LZ1.out OK1.out ?_))
 have KB0:=qh ((Z1.out.row (cs':=k0)).rowFar (show w4.heap.size ≠ w4.heap.size + 1 by omega) k1.toArray)
 have KB1:=qh (Z2.out.row (cs':=k1))
 have W6:Hid (Below w.heap.size w ((((w4.alloc (.cells Tryz.zeroCells53 53)).alloc (.cells Tryz.zeroCells53 53)).setRow w4.heap.size k0.toArray).setRow (w4.heap.size + 1) k1.toArray)):=below_setRow (below_setRow ((W4.out.alloc (by omega) _).alloc (by simp; omega) _) (by omega) _) (by omega) _
 clear Z1 Z2 hw5 W4
 generalize (((w4.alloc (.cells Tryz.zeroCells53 53)).alloc (.cells Tryz.zeroCells53 53)).setRow w4.heap.size k0.toArray).setRow (w4.heap.size + 1) k1.toArray=w6 at *
 obtain ⟨gk,hgk⟩:=zx (w4.heap.size)
 rw [<- hgk] at KB0 KB1 hs4
 rw [<- hgk]
 clear hgk
 have hk6:=KB1.out.lt
 go_wp2_with fail
 obtain ⟨gw7,hgw7⟩:=zx (w6.heap.size)
 obtain ⟨w7,hw7⟩:=zx (w6.alloc (.cells #[.int .u8 97,.int .u8 98,.int .u8 99] 5 (3,4)))
 have hX:Below w6.heap.size w6 w7:=by rw [hw7]; exact alloc_below _ _
 have R7:=qh (show Rd w7 (some ⟨gw7,0,none⟩) 3 3 [97,98,99] by rw [hw7]; exact lit_bytesF w6 _ _ 3 _ _ (by rfl) rfl (by omega) hgw7)
 rw [<- hgw7,<- hw7]
 have W7:=qt W6 hX
 replace KB0:=qh (KB0.out.below hX KB0.out.lt)
 replace KB1:=qh (KB1.out.below hX KB1.out.lt)
 refine (CPD.out w7 _ (HG.out.below W7.out hsz) R7.out).mono ?_
 rintro e w8 ⟨A8,n8,c8,rfl,hR,hY,hF8⟩
 obtain rfl:n8=32:=by rw [<- hR.len]; exact LP.out
 have R8:=qh hR
 have W8:=qt W7 hY
 replace KB0:=qh (KB0.out.below hY KB0.out.lt)
 replace KB1:=qh (KB1.out.below hY KB1.out.lt)
 clear hX hY hR hF8 R7 hw7 hgw7 CPD W6 W7
 go_wp2_with fail
 refine (CUP.out w8 _ _ _ (HG.out.below W8.out hsz) R8.out).mono ?_
 rintro e w9 ⟨A9,n9,c9,rfl,hR,hY,hF9⟩
 obtain rfl:n9=3:=hR.len.symm
 have R9:=qh hR
 have W9:=qt W8 hY
 replace KB0:=qh (KB0.out.below hY KB0.out.lt)
 replace KB1:=qh (KB1.out.below hY KB1.out.lt)
 have hk9:=KB1.out.lt
 have F9:Hid (∀ x,A9=some x->0 < 3->w8.heap.size<=x.block/\x.block < w9.heap.size):=fun x hx h0=>⟨hF9 x hx h0,by obtain ⟨b,o,e,h,_⟩:=hR.at_ h0; rw [hx] at e; injection e with e; subst e; exact h⟩
 clear hY hR hF9 R8 CUP W8
 go_wp2_with fail
 refine (tnew_any 2 w9 (by omega) (by omega)).mono ?_
 rintro e wa ⟨tp,rfl,htp,hT,hY⟩
 have hsa:=hY.size
 have hs9:=W9.out.size
 have Wa:=qt W9 hY
 replace KB0:=qh (KB0.out.below hY KB0.out.lt)
 replace KB1:=qh (KB1.out.below hY KB1.out.lt)
 replace R9:=qh (R9.out.below hY)
 have T2:=qh hT
 clear hY hT W9
 go_wp2_with fail
 refine (HB.out.newI T2.out).mono ?_
 rintro e wb ⟨gi,Mi,rfl,hMi,hP,hY⟩
 have hsb:=hY.size
 have Wb:=qt Wa hY
 replace KB0:=qh (KB0.out.below hY KB0.out.lt)
 replace KB1:=qh (KB1.out.below hY KB1.out.lt)
 replace R9:=qh (R9.out.below hY)
 have PI:=qh hP
 have MI:Hid (∀ b,Mi b->w9.heap.size<=b/\b < wb.heap.size):=fun b hb=>⟨by rcases hMi b hb with h | h <;> omega,HB.out.lt hP hb⟩
 clear hY hP hMi T2 Wa
 go_wp2_with (first
  | (with_reducible refine build_law rfl 46 #[(0,.const (.int .u8 9))] rfl k9 (by simp only [List.map_toArray,List.map_cons,List.map_nil,eval_const]; exact BK9.out) ?_)
  | (with_reducible refine build_law rfl 23 #[(0,.const (.int .i64 1)),(2,.const (.string ⟨#[118]⟩))] rfl L1 (by simp only [List.map_toArray,List.map_cons,List.map_nil,eval_const]; exact BL1.out) ?_))
 obtain ⟨gwc,hgwc⟩:=zx (wb.heap.size)
 obtain ⟨wc,hwc⟩:=zx (wb.alloc (.cells #[.int .u8 115] 5 (1,2)))
 have hX:Below wb.heap.size wb wc:=by rw [hwc]; exact alloc_below _ _
 have RC:=qh (show Rd wc (some ⟨gwc,0,none⟩) 1 1 [115] by rw [hwc]; exact lit_bytesF wb _ _ 1 _ _ (by rfl) rfl (by omega) hgwc)
 rw [<- hgwc,<- hwc]
 have hsc:=hX.size
 have Wc:=qt Wb hX
 replace KB0:=qh (KB0.out.below hX KB0.out.lt)
 replace KB1:=qh (KB1.out.below hX KB1.out.lt)
 replace R9:=qh (R9.out.below hX)
 replace PI:=qh (HB.out.below PI.out hX)
 refine (CSL.out wc gi Mi _ (HG.out.below Wc.out hsz) (fun b hb=>by have:=MI.out b hb; omega) PI.out RC.out).mono ?_
 rintro e wd ⟨M2,rfl,hP,hF,hM2⟩
 have hsd:=hF.size
 have Wd:=qh (hF.below Wc.out (fun b hb=>by have:=MI.out b hb; omega) Wc.out.size)
 replace KB0:=qh (hF.blk KB0.out (fun h=>by have:=MI.out _ h; omega))
 replace KB1:=qh (hF.blk KB1.out (fun h=>by have:=MI.out _ h; omega))
 replace R9:=qh (hF.rd R9.out (fun x hx h0 hm=>by have h1:=F9.out x hx h0; have h2:=MI.out _ hm; omega))
 replace PI:=qh hP
 clear hX hP hF hM2 RC hwc hgwc CSL Wb Wc BL1
 go_upto_region 6 with (first
  | ((with_reducible refine storeGen_law rfl 42 (.tmp 8) (.tmp 40) rfl wd.heap.size rfl EL rfl 42 E0 IEL.out LEL.out OEL.out wd.heap.size wd ?_ ?_ (Nat.le_refl _) ?_)
     ·rw [HE0.out]; exact Blk.at_new _ _ 42 _ _ (by rfl) rfl
     ·exact (Below.refl _ _).alloc (Nat.le_refl _) _
     intro we B3 X3))
 obtain ⟨ge,hge⟩:=zx (wd.heap.size)
 rw [<- hge] at B3
 rw [<- hge]
 clear hge
 have We:=qt Wd X3.out
 have EB:=qh B3.out
 replace KB0:=qh (KB0.out.below X3.out KB0.out.lt)
 replace KB1:=qh (KB1.out.below X3.out KB1.out.lt)
 replace R9:=qh (R9.out.below X3.out)
 replace PI:=qh (HB.out.below PI.out X3.out)
 clear X3 B3 Wd
 have FE:Hid (∀ j v,EL[j]?=some v->(we.alloc (.cells #[.int .u8 115] 5 (1,2))).cell? ⟨ge,0 + j,none⟩=some v):=(EB.out.alloc _).cells
 go_wp2_with (first
  | (with_reducible refine build_law rfl 46 #[(0,.const (.int .u8 9))] rfl k9 (by simp only [List.map_toArray,List.map_cons,List.map_nil,eval_const]; exact BK9.out) ?_)
  | (with_reducible refine load_law rfl 42 (.tmp 8) rfl ge 0 rfl EL _ Tryz.underlying42 rfl IEL.out FE.out ?_))
 obtain ⟨gwf,hgwf⟩:=zx (we.heap.size)
 obtain ⟨wf,hwf⟩:=zx (we.alloc (.cells #[.int .u8 115] 5 (1,2)))
 have hX:Below we.heap.size we wf:=by rw [hwf]; exact alloc_below _ _
 have RF:=qh (show Rd wf (some ⟨gwf,0,none⟩) 1 1 [115] by rw [hwf]; exact lit_bytesF we _ _ 1 _ _ (by rfl) rfl (by omega) hgwf)
 rw [<- hgwf,<- hwf]
 have Wf:=qt We hX
 replace KB0:=qh (KB0.out.below hX KB0.out.lt)
 replace KB1:=qh (KB1.out.below hX KB1.out.lt)
 replace EB:=qh (EB.out.below hX EB.out.lt)
 replace R9:=qh (R9.out.below hX)
 replace PI:=qh (HB.out.below PI.out hX)
 refine (COP.out wf gi _ _ (HG.out.below Wf.out hsz) PI.out RF.out).mono ?_
 rintro e wh ⟨rfl,hY⟩
 have Wh:=qt Wf hY
 replace KB0:=qh (KB0.out.below hY KB0.out.lt)
 replace KB1:=qh (KB1.out.below hY KB1.out.lt)
 replace EB:=qh (EB.out.below hY EB.out.lt)
 replace R9:=qh (R9.out.below hY)
 replace PI:=qh (HB.out.below PI.out hY)
 clear hX hY RF FE hwf hgwf COP BK9 We Wf
 go_upto_region 7 with (first
  | ((with_reducible refine storeGen_law rfl 23 (.tmp 10) (.tmp 49) rfl wh.heap.size rfl L1 rfl 23 L0 IL1.out LL1.out OL1.out wh.heap.size wh ?_ ?_ (Nat.le_refl _) ?_)
     ·rw [HL0.out]; exact Blk.at_new _ _ 23 _ _ (by rfl) rfl
     ·exact (Below.refl _ _).alloc (Nat.le_refl _) _
     intro wi B3 X3))
 obtain ⟨gr,hgr⟩:=zx (wh.heap.size)
 rw [<- hgr] at B3
 rw [<- hgr]
 clear hgr
 have Wi:=qt Wh X3.out
 have RB:=qh B3.out
 replace KB0:=qh (KB0.out.below X3.out KB0.out.lt)
 replace KB1:=qh (KB1.out.below X3.out KB1.out.lt)
 replace EB:=qh (EB.out.below X3.out EB.out.lt)
 replace R9:=qh (R9.out.below X3.out)
 replace PI:=qh (HB.out.below PI.out X3.out)
 clear X3 B3 Wh
 have FE:Hid (∀ j v,EL[j]?=some v->(wi.alloc (.cells #[.int .u8 115] 5 (1,2))).cell? ⟨ge,0 + j,none⟩=some v):=(EB.out.alloc _).cells
 go_wp2_with (first
  | (with_reducible refine build_law rfl 46 #[(0,.const (.int .u8 8))] rfl k8 (by simp only [List.map_toArray,List.map_cons,List.map_nil,eval_const]; exact BK8.out) ?_)
  | (with_reducible refine load_law rfl 42 (.tmp 8) rfl ge 0 rfl EL _ Tryz.underlying42 rfl IEL.out FE.out ?_))
 obtain ⟨gwj,hgwj⟩:=zx (wi.heap.size)
 obtain ⟨wj,hwj⟩:=zx (wi.alloc (.cells #[.int .u8 115] 5 (1,2)))
 have hX:Below wi.heap.size wi wj:=by rw [hwj]; exact alloc_below _ _
 have RJ:=qh (show Rd wj (some ⟨gwj,0,none⟩) 1 1 [115] by rw [hwj]; exact lit_bytesF wi _ _ 1 _ _ (by rfl) rfl (by omega) hgwj)
 rw [<- hgwj,<- hwj]
 have Wj:=qt Wi hX
 replace KB0:=qh (KB0.out.below hX KB0.out.lt)
 replace KB1:=qh (KB1.out.below hX KB1.out.lt)
 replace EB:=qh (EB.out.below hX EB.out.lt)
 replace RB:=qh (RB.out.below hX RB.out.lt)
 replace R9:=qh (R9.out.below hX)
 replace PI:=qh (HB.out.below PI.out hX)
 refine (COP8.out wj gi _ _ (HG.out.below Wj.out hsz) PI.out RJ.out).mono ?_
 rintro e wk ⟨rfl,hY⟩
 have Wk:=qt Wj hY
 replace KB0:=qh (KB0.out.below hY KB0.out.lt)
 replace KB1:=qh (KB1.out.below hY KB1.out.lt)
 replace EB:=qh (EB.out.below hY EB.out.lt)
 replace RB:=qh (RB.out.below hY RB.out.lt)
 replace R9:=qh (R9.out.below hY)
 clear hX hY RJ FE hwj hgwj COP8 BK8 Wi Wj PI hcv
 go_upto_region 8 with (first
  | ((with_reducible refine storeGen_law rfl 23 (.tmp 12) (.tmp 58) rfl wk.heap.size rfl L0 rfl 23 L0 IL0.out rfl OL0.out wk.heap.size wk ?_ ?_ (Nat.le_refl _) ?_)
     ·rw [HL0.out]; exact Blk.at_new _ _ 23 _ _ (by rfl) rfl
     ·exact (Below.refl _ _).alloc (Nat.le_refl _) _
     intro wl B3 X3))
 have Wl:=qt Wk X3.out
 replace KB0:=qh (KB0.out.below X3.out KB0.out.lt)
 replace KB1:=qh (KB1.out.below X3.out KB1.out.lt)
 replace EB:=qh (EB.out.below X3.out EB.out.lt)
 replace RB:=qh (RB.out.below X3.out RB.out.lt)
 replace R9:=qh (R9.out.below X3.out)
 clear X3 B3 Wk
 refine wp_region_lit ?_
 simp only [List.append_eq,List.cons_append,List.nil_append]
 go_wp2_with fail
 refine (begun3_any (HG.out.below Wl.out hsz)).mono ?_
 rintro e wm ⟨rfl,hX⟩
 have Wm:=qt Wl hX
 replace KB0:=qh (KB0.out.below hX KB0.out.lt)
 replace KB1:=qh (KB1.out.below hX KB1.out.lt)
 replace EB:=qh (EB.out.below hX EB.out.lt)
 replace RB:=qh (RB.out.below hX RB.out.lt)
 replace R9:=qh (R9.out.below hX)
 clear hX Wl
 go_wp2_with fail
 refine (begun8B_any HB.out (HG.out.below Wm.out hsz)).mono ?_
 rintro e wn ⟨rfl,hX⟩
 have Wn:=qt Wm hX
 replace KB0:=qh (KB0.out.below hX KB0.out.lt)
 replace KB1:=qh (KB1.out.below hX KB1.out.lt)
 replace EB:=qh (EB.out.below hX EB.out.lt)
 replace RB:=qh (RB.out.below hX RB.out.lt)
 replace R9:=qh (R9.out.below hX)
 clear hX Wm
 have FA0:Hid (∀ j v,a0[j]?=some v->wn.cell? ⟨gk,0 + j,none⟩=some v):=Blk.front (b:=km ++ kl) (by rw [<- List.append_assoc,<- HK0.out]; exact KB0.out)
 have FA1:Hid (∀ j v,a1[j]?=some v->wn.cell? ⟨gk + 1,0 + j,none⟩=some v):=Blk.front (b:=km ++ kl) (by rw [<- List.append_assoc,<- HK1.out]; exact KB1.out)
 have FM0:Hid (∀ j v,km[j]?=some v->wn.cell? ⟨gk,32 + j,none⟩=some v):=Blk.part (c:=kl) (by rw [<- HK0.out]; exact KB0.out) LA0.out
 have FM1:Hid (∀ j v,km[j]?=some v->wn.cell? ⟨gk + 1,32 + j,none⟩=some v):=Blk.part (c:=kl) (by rw [<- HK1.out]; exact KB1.out) LA1.out
 have FL0:Hid (∀ j v,kl[j]?=some v->wn.cell? ⟨gk,64 + j,none⟩=some v):=Blk.part (a:=a0 ++ km) (c:=[]) (by rw [List.append_nil,<- HK0.out]; exact KB0.out) (by rw [List.length_append,LA0.out,LKM.out])
 have ce:wn.cell? ⟨ge,2,none⟩=some (.string ⟨lt.toArray⟩):=by rw [EB.out.cell,CEL.out]; rfl
 have cr:wn.cell? ⟨gr,2,none⟩=some (.string ⟨#[118]⟩):=by rw [RB.out.cell,CL1.out]; rfl
 have hcv2:=conv_bytes R9.out
 have hlt48:=LT.out
 have hss:=str_same [97,98,99]
 have n1:=N1.out
 have n2:=N2.out
 have n3:=N3.out
 go_wp2_with (first
  | ((with_reducible refine loadW_law ?gd 46 (.tmp 65) rfl gk 0 ?hx a0 _ Tryz.underlying46 rfl IA0.out FA0.out ?_); (case gd=>rfl); (case hx=>rfl))
  | ((with_reducible refine loadW_law ?gd 46 (.tmp 67) rfl (gk + 1) 0 ?hx a1 _ Tryz.underlying46 rfl IA1.out FA1.out ?_); (case gd=>rfl); (case hx=>rfl))
  | ((with_reducible refine loadW_law ?gd 46 (.tmp 72) rfl gk 32 ?hx km _ Tryz.underlying46 rfl IKM.out FM0.out ?_); (case gd=>rfl); (case hx=>rfl))
  | ((with_reducible refine loadW_law ?gd 46 (.tmp 74) rfl (gk + 1) 32 ?hx km _ Tryz.underlying46 rfl IKM.out FM1.out ?_); (case gd=>rfl); (case hx=>rfl))
  | ((with_reducible refine loadW_law ?gd 46 (.tmp 79) rfl gk 64 ?hx kl _ Tryz.underlying46 rfl IKL.out FL0.out ?_); (case gd=>rfl); (case hx=>rfl))
  | ((with_reducible refine loadW_law ?gd 46 (.tmp 81) rfl gk 32 ?hx km _ Tryz.underlying46 rfl IKM.out FM0.out ?_); (case gd=>rfl); (case hx=>rfl)))
 go_ret
 exact ⟨rfl,Wn.out⟩
end Go.Proofs.YtnfbkimkdnbohaaGreatDoor
