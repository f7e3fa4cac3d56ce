import Derived.Test.YtajgjeialbgijaaDoorSPhase
import Derived.Test.YtajgjeialbgijaaDoorSNput
import Derived.Test.YtajgjeialbgijaaDoorSSmall
namespace Go.Proofs.YtajgjeialbgijaaDoor
set_option linter.unusedVariables false
set_option linter.unusedSimpArgs false
set_option maxRecDepth 100000
open Go.RowKit
structure TapeAt (w:World) (g:Nat) (s:Int) (a:Nat):Prop where
 blk:Blk w g 69 [.int .i64 s,.int .i64 (a:Int)]
 lo:-9223372036854775808<=s
 hi:s<=9223372036854775807
def TapeMem (_:World) (g b:Nat):Prop:=b=g
theorem tnew_any (s:Int) (w:World) (h1:-9223372036854775808<=s) (h2:s<=9223372036854775807):Calls Tryd.prog 18 #[.int .i64 s] w fun e w'=>∃ g,e = .returned (.pointer (some ⟨g,0,none⟩))/\w.heap.size<=g/\TapeAt w' g s 0/\Below w.heap.size w w':=by
 go_enter Tryd.func18,Tryd.ntmps18
 go_wp2_with fail
 go_ret
 exact ⟨_,rfl,Nat.le_refl _,⟨Blk.at_new _ _ _ _ _ rfl rfl,h1,h2⟩,(Below.refl _ _).alloc (Nat.le_refl _) _⟩
theorem tcopy_any {w:World} {g:Nat} {s:Int} {a:Nat} (hT:TapeAt w g s a):Calls Tryd.prog 84 #[.pointer (some ⟨g,0,none⟩)] w fun e w'=>∃ h,e = .returned (.pointer (some ⟨h,0,none⟩))/\w.heap.size<=h/\TapeAt w' h s a/\Below w.heap.size w w':=by
 obtain ⟨D,hD⟩:∃ D:List Value,D=[.int .i64 s,.int .i64 (a:Int)]:=⟨_,rfl⟩
 have HB:Hid (Blk w g 69 D):=by unfold Hid; rw [hD]; exact hT.blk
 have HI:Hid ((Tryd.prog.info? 69).map (·.size)=some D.length):=by unfold Hid; rw [hD]; kernel_rfl
 have HZ:Hid (([.int .i64 0,.int .i64 0]:List Value).length=D.length):=by unfold Hid; rw [hD]; rfl
 have H1:Hid (∀ v ∈ D,v.oneCell'=true):=by unfold Hid; rw [hD]; simp [Value.oneCell']
 have HD:=Lib.hid hD
 have HT:=Lib.hid hT
 clear hD hT
 go_enter Tryd.func84,Tryd.ntmps84
 go_wp2_with (first
  | (with_reducible refine load_law rfl 69 (.tmp 7) rfl g 0 rfl D _ Tryd.underlying69 rfl HI.out HB.out.cells ?_)
  | ((with_reducible refine storeGen_law rfl 69 (.tmp 3) (.tmp 8) rfl w.heap.size rfl D rfl 69 [.int .i64 0,.int .i64 0] HI.out HZ.out H1.out w.heap.size w ?_ ?_ (Nat.le_refl _) ?_)
     ·exact Blk.at_new _ _ 69 _ _ (by rfl) rfl
     ·exact (Below.refl _ _).alloc (Nat.le_refl _) _
     intro w1 B1 X1))
 go_ret
 refine ⟨_,rfl,Nat.le_refl _,⟨?_,HT.out.lo,HT.out.hi⟩,X1.out⟩
 rw [<- HD.out]
 exact B1.out
theorem tnilCopy (w:World):Calls Tryd.prog 84 #[.pointer none] w fun e w'=>e = .returned (.pointer none)/\Below w.heap.size w w':=by
 go_enter Tryd.func84,Tryd.ntmps84
 go_wp2_with fail
 go_ret
 exact ⟨rfl,Below.refl _ _⟩
theorem tnilNext (n:Int) (w:World):Calls Tryd.prog 49 #[.pointer none,.int .i64 n] w fun e w'=>e = .returned (.slice none 0 0)/\Below w.heap.size w w':=by
 go_enter Tryd.func49,Tryd.ntmps49
 go_wp2_with fail
 go_ret
 exact ⟨rfl,Below.refl _ _⟩
theorem tnone_any {w:World} {g:Nat} (n:Int) (hn:n < 0 ∨ 4000 < n):Calls Tryd.prog 49 #[.pointer (some ⟨g,0,none⟩),.int .i64 n] w fun e w'=>e = .returned (.slice none 0 0)/\Below w.heap.size w w':=by
 rcases hn with hn | hn
 ·go_enter Tryd.func49,Tryd.ntmps49
  go_wp2_with fail
  go_ret
  exact ⟨rfl,Below.refl _ _⟩
 ·have hn0:¬ n < 0:=by omega
  go_enter Tryd.func49,Tryd.ntmps49
  go_wp2_with fail
  go_ret
  exact ⟨rfl,Below.refl _ _⟩
end Go.Proofs.YtajgjeialbgijaaDoor
namespace Go.Proofs.YtajgjeialbgijaaDoor.Tap
set_option linter.unusedVariables false
set_option linter.unusedSimpArgs false
set_option maxRecDepth 100000
def blk (s:Int) (j:Nat):List UInt8:=Sha.sum (Num.enc (Num.zig s) ++ Num.enc (Num.zig (j:Int)))
theorem blk_length (s:Int) (j:Nat):(blk s j).length=32:=Sha.sum_length _
def byte (s:Int) (k:Nat):UInt8:=(blk s (k / 32)).getD (k % 32) 0
def tape (s:Int) (a n:Nat):List UInt8:=(List.range' a n).map (byte s)
theorem tape_length (s:Int) (a n:Nat):(tape s a n).length=n:=by simp [tape]
theorem tape_zero (s:Int) (a:Nat):tape s a 0=[]:=rfl
theorem tape_add (s:Int) (a n m:Nat):tape s a (n + m)=tape s a n ++ tape s (a + n) m:=by
 unfold tape
 rw [<- List.map_append]
 congr 1
 have:=List.range'_append (s:=a) (m:=n) (n:=m) (step:=1)
 rw [Nat.one_mul] at this
 exact this.symm
theorem tape_cut (s:Int) (a n k m:Nat) (h:k + m<=n):((tape s a n).drop k).take m=tape s (a + k) m:=by
 obtain ⟨r,rfl⟩:∃ r,n=k + (m + r):=⟨n - k - m,by omega⟩
 rw [tape_add,List.drop_left' (tape_length s a k),tape_add,List.take_left' (tape_length s _ m)]
theorem tape_front (s:Int) (a n m:Nat) (h:m<=n):(tape s a n).take m=tape s a m:=by
 have:=tape_cut s a n 0 m (by omega)
 simpa using this
theorem blk_tape (s:Int) (j:Nat):blk s j=tape s (32 * j) 32:=by
 apply List.ext_getElem
 ·rw [blk_length,tape_length]
 ·intro i h1 h2
  rw [blk_length] at h1
  have e1:(32 * j + i) / 32=j:=by omega
  have e2:(32 * j + i) % 32=i:=by omega
  simp only [tape,List.getElem_map,List.getElem_range',byte,Nat.one_mul,e1,e2]
  rw [List.getD_eq_getElem?_getD,List.getElem?_eq_getElem (by rw [blk_length]; exact h1)]
  rfl
theorem tape_blk (s:Int) (j k:Nat):tape s (32 * j) (32 * (k + 1))=tape s (32 * j) (32 * k) ++ blk s (j + k):=by
 rw [show 32 * (k + 1)=32 * k + 32 from rfl,tape_add,blk_tape]
 congr 2
 omega
def vlen:Value->Nat
 | .slice _ n _=>n
 | _=>0
theorem hash_rd {w:World} {g:Nat} {t:TypeId} {T:List Value} {m:List UInt8} (hb:Blk w g t T) (hT:T=m.map cellOf) (hl:m.length=32):Rd w (some ⟨g,0,none⟩) 32 32 m:=by
 subst hT
 exact Rd.of_block hb hl (Nat.le_refl _) (by unfold maxLen; omega) (fun j hj=>by
  rw [Nat.zero_add]
  simp [cellOf,List.getD_eq_getElem?_getD,List.getElem?_eq_getElem (show j < m.length by omega)])
end Go.Proofs.YtajgjeialbgijaaDoor.Tap
namespace Go.Proofs.YtajgjeialbgijaaDoor
set_option linter.unusedVariables false
set_option linter.unusedSimpArgs false
set_option maxRecDepth 100000
open Go.RowKit
set_option maxRecDepth 100000 in
set_option maxHeartbeats 4000000 in
theorem rtape_any (s:Int) (a n:Nat) (w:World) (hs1:-9223372036854775808<=s) (hs2:s<=9223372036854775807) (ha:a<=1000000) (hn:n<=1000000) :
  Calls Tryd.prog 55 #[.int .i64 s,.int .i64 (a:Int),.int .i64 (n:Int)] w fun e w'=>∃ A c,e = .returned (.slice A n c)/\Rd w' A n c (Tap.tape s a n)/\Below w.heap.size w w':=by
 have CP:=Lib.hid (fun W=>rput_any s W hs1 hs2)
 obtain ⟨q,hq⟩:∃ q,q=a / 32:=⟨_,rfl⟩
 obtain ⟨r,hr⟩:∃ r,r=a % 32:=⟨_,rfl⟩
 have eq1:(a:Int) / 32=(q:Int):=by omega
 have er1:(a:Int) % 32=(r:Int):=by omega
 have eqt:(a:Int).tdiv 32=(q:Int):=by rw [Int.tdiv_eq_ediv_of_nonneg (by omega)]; exact eq1
 have ert:(a:Int).tmod 32=(r:Int):=by rw [Int.tmod_eq_emod_of_nonneg (by omega)]; exact er1
 have hqr:Hid (a=32 * q + r):=by unfold Hid; omega
 have hq6:q<=31250:=by omega
 have hr32:r < 32:=by omega
 have hz10:(Num.enc (Num.zig s)).length<=10:=Num.enc_len10 (Num.zig_lt s hs1 hs2)
 obtain ⟨es,hes⟩:∃ l,l=Num.enc (Num.zig s):=⟨_,rfl⟩
 rw [<- hes] at CP hz10
 have HES:=Lib.hid hes
 clear hq hr hes
 go_enter Tryd.func55,Tryd.ntmps55
 go_wp2_with fail
 clear eq1 eqt
 go_loopw [7,8] (fun v i wr=>∃ (k m:Nat) (A:Option Addr) (c:Nat),i = .int .i64 ((q:Int) + (k:Int))/\v = .slice A m c/\m < r + n + 32/\Hid (m=32 * k)/\Hid (Ow wr w.heap.size (.slice A m c) (Tap.tape s (32 * q) m))/\Hid (Below w.heap.size w wr)) (fun v _ _=>r + n + 32 - Tap.vlen v)
 case atStart=>exact ⟨0,0,none,0,by simp,rfl,by omega,by unfold Hid; rfl,Ow.empty _ _,Below.refl _ _⟩
 case round =>
  obtain ⟨k,m,A,c,rfl,rfl,hm,HM,OW,BW⟩:=hrel
  by_cases hlt:m < r + n
  ·have hlb:decide ((m:Int) < (r:Int) + (n:Int))=true:=by simp; omega
   have hk6:k<=1000000:=by have:=HM.out; omega
   obtain ⟨j,hj⟩:∃ j,j=q + k:=⟨_,rfl⟩
   have ej:(q:Int) + (k:Int)=(j:Int):=by omega
   rw [ej]
   have CJ:=Lib.hid (fun W=>rput_any (j:Int) W (by omega) (by omega))
   have hz2:(Num.enc (Num.zig (j:Int))).length<=10:=Num.enc_len10 (Num.zig_lt _ (by omega) (by omega))
   obtain ⟨el,hel⟩:∃ l,l=Num.enc (Num.zig (j:Int)):=⟨_,rfl⟩
   rw [<- hel] at CJ hz2
   have HB:Hid (Sha.sum (es ++ el)=Tap.blk s j):=by unfold Hid Tap.blk; rw [hel,HES.out]
   have HT:Hid (Tap.tape s (32 * q) (m + 32)=Tap.tape s (32 * q) m ++ Tap.blk s j):=by unfold Hid; rw [HM.out,hj]; exact Tap.tape_blk s q k
   have HJ:=Lib.hid hj
   clear hel hj
   go_wp2_with fail
   refine (CP.out wr).mono ?_
   rintro e w1 ⟨v1,rfl,hO1,hX1⟩
   have O1:=Lib.hid hO1
   have X1:=Lib.hid hX1
   clear hO1 hX1
   go_wp2_with fail
   refine (CJ.out w1).mono ?_
   rintro e w2 ⟨v2,rfl,hO2,hX2⟩
   obtain ⟨A2,c2,rfl,hR2,_⟩:=hO2.value
   have R2:=Lib.hid hR2
   have O12:=Lib.hid (O1.out.keep hX2)
   have X12:=Lib.hid (X1.out.trans (hX2.mono X1.out.size))
   have LN:Hid (es.length + el.length<=140737488355328):=by unfold Hid; omega
   clear hO2 hX2 hR2 O1 X1 CJ
   go_wp2_with (first
    | (at_builtin; refine onto_law rfl (.tmp 22) (.tmp 24) rfl rfl rfl R2.out O12.out LN.out X12.out.size X12.out ?_; intro v3 w3 O3 X3))
   obtain ⟨A3,c3,rfl,hR3,_⟩:=O3.out.value
   refine (rsum_any hR3 (by rw [List.length_append]; omega)).mono ?_
   rintro e w4 ⟨D,rfl,hS,hX4⟩
   have hDl:=hS.len
   have HS:Hid (D=(Tap.blk s j).map cellOf):=by unfold Hid; rw [hS,HB.out]
   have ID:=Lib.hid hS.info
   have LD:Hid ((List.replicate 32 (Value.int .u8 0)).length=D.length):=by unfold Hid; rw [hDl]; rfl
   have OD:=Lib.hid hS.one
   have X4:=Lib.hid (X3.out.trans (hX4.mono X3.out.size))
   clear hR3 hS hX4 hDl O3 X3 O12 X12 R2
   go_upto_region 6 with (first
    | ((with_reducible refine storeGen_law rfl 27 (.tmp 9) (.tmp 26) rfl w4.heap.size rfl D rfl 27 (List.replicate 32 (.int .u8 0)) ID.out LD.out OD.out w4.heap.size w4 ?_ ?_ (Nat.le_refl _) ?_)
       ·exact Blk.at_new _ _ 27 _ _ (by rfl) rfl
       ·exact (Below.refl _ _).alloc (Nat.le_refl _) _
       intro w5 B5 X5))
   have X5':=Lib.hid (X4.out.trans (X5.out.mono X4.out.size))
   have O5:=Lib.hid (OW.out.keep X5'.out)
   have W5:=Lib.hid (BW.out.trans (X5'.out.mono BW.out.size))
   have R5:=Lib.hid (Tap.hash_rd B5.out HS.out (Tap.blk_length s j))
   have LN2:Hid ((Tap.tape s (32 * q) m).length + 32<=140737488355328):=by unfold Hid; rw [Tap.tape_length]; omega
   have hsl:=fun W=>sliceAt_all 27 32 Tryd.underlying27 w4.heap.size 0 W
   clear X4 X5 B5 X5' OW BW
   go_wp2_with (first
    | (at_builtin; refine onto_law rfl (.tmp 27) (.tmp 28) rfl rfl rfl R5.out O5.out LN2.out W5.out.size W5.out ?_; intro v6 w6 O6 X6))
   rw [<- HT.out] at O6
   obtain ⟨A6,c6,rfl,_,_⟩:=O6.out.value
   rw [Tap.tape_length] at O6
   rw [Tap.tape_length]
   clear hsl hlb
   go_roundw
   case rel=>exact ⟨k + 1,m + 32,A6,c6,by have:=HJ.out; congr 1; omega,rfl,by omega,by unfold Hid; rw [HM.out]; omega,O6,X6⟩
   case measure=>simp [Tap.vlen]; omega
  ·have hlb:decide ((m:Int) < (r:Int) + (n:Int))=false:=by simp; omega
   have RO:=OW.out.rdv (Tap.tape_length _ _ _)
   have hcap:=RO.cap
   have hcut:∀ W,(Instr.slice 41 (.slice A m c) (some (.int .i64 (r:Int))) (some (.int .i64 ((r:Int) + (n:Int)))) none).run Tryd.prog W = .ok (.slice (cutA A c r) n (c - r)) W:=fun W=>by
    have:=slice_lh A m c r (r + n) (by omega) (by omega) W
    rw [show r + n - r=n by omega,show ((r + n:Nat):Int)=(r:Int) + (n:Int) by omega] at this
    exact this
   have RC:Hid (Rd wr (cutA A c r) n (c - r) (Tap.tape s a n)):=by
    have:=RO.cut (k:=r) (e:=r + n) (by omega) (by omega)
    rw [show r + n - r=n by omega,Tap.tape_cut s (32 * q) m r n (by omega),<- hqr.out] at this
    exact this
   clear RO OW
   go_wp2_with fail
   go_ret
   exact ⟨_,_,rfl,RC.out,BW.out⟩
end Go.Proofs.YtajgjeialbgijaaDoor
namespace Go.Proofs.YtajgjeialbgijaaDoor
set_option linter.unusedVariables false
set_option linter.unusedSimpArgs false
set_option maxRecDepth 100000
open Go.RowKit
theorem outC_step (p t:List UInt8) (n j m:Nat) (hp:p.length=j) (ht:t.length=m) (h:j + m<=n) :
  (outC p n).take j ++ t.map cellOf ++ (outC p n).drop (j + m)=outC (p ++ t) n:=by
 have e1:p.take n=p:=List.take_of_length_le (by omega)
 have e2:(p ++ t).take n=p ++ t:=List.take_of_length_le (by rw [List.length_append]; omega)
 unfold outC
 rw [e1,e2,List.take_append_of_le_length (by simp; omega),List.take_of_length_le (by simp; omega),List.drop_append,List.drop_of_length_le (by simp; omega),List.nil_append,List.drop_replicate,List.length_map,hp,List.length_append,hp,ht,List.map_append]
 congr 2
 omega
def TGot (w:World) (x:Value) (l:List UInt8):Prop:=∃ A n c,x = .slice A n c/\Rd w A n c l
theorem TGot.below {w w':World} {x:Value} {l:List UInt8} (h:TGot w x l) (hb:Below w.heap.size w w'):TGot w' x l:=by
 obtain ⟨A,n,c,e,hr⟩:=h
 exact ⟨A,n,c,e,hr.below hb⟩
structure NextI (w5:World) (s:Int) (p q:Nat) (es ej:List UInt8) (D:List Value) (d:Nat->Bool) (w':World) (x7 x28 x29 x33 x34 x35 x36 x37:Value):Prop where
 bel:Below w5.heap.size w5 w'
 i3:d 3=true->x28 = .int .i64 s
 i4:d 4=true->TGot w' x29 es
 i8:d 8=true->x33 = .int .i64 (p:Int)
 i9:d 9=true->x34 = .int .i64 (q:Int)
 i10:d 10=true->TGot w' x35 ej
 i11:d 11=true->∃ g,x36 = .slice (some ⟨g,0,none⟩) 2 2/\RdP w' (some ⟨g,0,none⟩) 2 [es,ej]
 i12:d 12=true->x37 = .agg D.toArray
 i13:d 13=true->∃ h,x7 = .pointer (some ⟨h,0,none⟩)/\w5.heap.size<=h/\Blk w' h 27 (List.replicate 32 (.int .u8 0))
theorem NextI.below {w5:World} {s:Int} {p q:Nat} {es ej:List UInt8} {D:List Value} {d:Nat->Bool} {w' w'':World} {x7 x28 x29 x33 x34 x35 x36 x37:Value} (h:NextI w5 s p q es ej D d w' x7 x28 x29 x33 x34 x35 x36 x37) (hb:Below w'.heap.size w' w''):NextI w5 s p q es ej D d w'' x7 x28 x29 x33 x34 x35 x36 x37 :=
 ⟨h.bel.trans (hb.mono h.bel.size),h.i3,fun a=>(h.i4 a).below hb,h.i8,h.i9,fun a=>(h.i10 a).below hb,fun a=>by obtain ⟨g,e,hr⟩:=h.i11 a; exact ⟨g,e,hr.below hb⟩,h.i12,fun a=>by obtain ⟨k,e,h1,h2⟩:=h.i13 a; exact ⟨k,e,h1,h2.below hb h2.lt⟩⟩
set_option maxRecDepth 100000 in
set_option maxHeartbeats 8000000 in
theorem tnext_any {w:World} {g:Nat} {s:Int} {a:Nat} (n:Nat) (hG:Gl w) (h2:2<=g) (hT:TapeAt w g s a) (hn:n<=4000) (ha:a<=1000000) :
  Calls Tryd.prog 49 #[.pointer (some ⟨g,0,none⟩),.int .i64 (n:Int)] w fun e w'=>∃ A c,e = .returned (.slice A n c)/\Rd w' A n c (Tap.tape s a n)/\TapeAt w' g s (a + n)/\w.grownBy w' (some g)/\(∀ ad,A=some ad->w.heap.size<=ad.block):=by
 have hmk:=make_bytes n (by omega)
 have h0:¬ ((n:Int) < 0):=by omega
 have h4:¬ ((4000:Int) < (n:Int)):=by omega
 have HG:=Lib.hid hG
 have HT:=Lib.hid hT
 have hgl:g < w.heap.size:=hT.blk.lt
 have hs1:=hT.lo
 have hs2:=hT.hi
 obtain ⟨O,hO⟩:∃ O,O=outC [] n:=⟨_,rfl⟩
 rw [<- hO] at hmk
 have HO:=Lib.hid hO
 clear hG hT hO
 go_enter Tryd.func49,Tryd.ntmps49
 go_wp2_with fail
 clear hmk h0 h4
 obtain ⟨B,hB⟩:∃ B,B=w.heap.size:=⟨_,rfl⟩
 have W0:Hid (w.grownBy (w.alloc (.cells O.toArray 5)) (some g)):=only_alloc (only_refl _ _) _
 have G0:Hid (Blk (w.alloc (.cells O.toArray 5)) g 69 [.int .i64 s,.int .i64 (a:Int)]):=HT.out.blk.alloc _
 have B0:Hid (Blk (w.alloc (.cells O.toArray 5)) B 5 (outC (Tap.tape s a 0) n)):=by unfold Hid; rw [hB,Tap.tape_zero,<- HO.out]; exact Blk.new _ _ _
 rw [<- hB]
 generalize w.alloc (.cells O.toArray 5)=w1 at *
 have hBw:w.heap.size<=B:=by omega
 clear hB
 have CP:=Lib.hid (fun W=>put_any s hs1 hs2 (Rd.nil W none 0 (by unfold maxLen; omega)) (by omega))
 simp only [List.nil_append] at CP
 have hz1:(Num.enc (Num.zig s)).length<=10:=Num.enc_len10 (Num.zig_lt s hs1 hs2)
 clear HT HO
 go_loopw [6] (fun v wr=>∃ (k:Nat) (A:Option Addr),k<=n/\v = .slice A (n - k) (n - k)/\Hid (k < n->A=some ⟨B,k,none⟩)/\Hid (Blk wr g 69 [.int .i64 s,.int .i64 ((a + k:Nat):Int)])/\Hid (Blk wr B 5 (outC (Tap.tape s a k) n))/\Hid (w.grownBy wr (some g))) (fun v _=>slen v)
 case atStart=>exact ⟨0,_,by omega,rfl,fun _=>rfl,G0,B0,W0⟩
 case round =>
  clear W0 G0 B0
  obtain ⟨k,A,hk,rfl,HA,HGB,HOB,HW⟩:=hrel
  by_cases hlt:k < n
  ·obtain rfl:=HA.out hlt
   clear HA
   have hl0:decide ((0:Int) < ((n - k:Nat):Int))=true:=by simp; omega
   obtain ⟨p,hp⟩:∃ p,p=a + k:=⟨_,rfl⟩
   obtain ⟨q,hq⟩:∃ q,q=p / 32:=⟨_,rfl⟩
   obtain ⟨r,hr⟩:∃ r,r=p % 32:=⟨_,rfl⟩
   rw [<- hp] at HGB
   have eq1:(p:Int) / 32=(q:Int):=by omega
   have eqt:(p:Int).tdiv 32=(q:Int):=by rw [Int.tdiv_eq_ediv_of_nonneg (by omega)]; exact eq1
   have er1:(p:Int) % 32=(r:Int):=by omega
   have ert:(p:Int).tmod 32=(r:Int):=by rw [Int.tmod_eq_emod_of_nonneg (by omega)]; exact er1
   have hpq:Hid (p=32 * q + r):=by unfold Hid; omega
   have hr32:r < 32:=by omega
   have hwq:IntKind.i64.wrap (q:Int)=(q:Int):=by rw [IntKind.wrap_i64]; omega
   have hp6:p<=1004000:=by omega
   have CJ:=Lib.hid (fun W=>put_any (q:Int) (by omega) (by omega) (Rd.nil W none 0 (by unfold maxLen; omega)) (by omega))
   simp only [List.nil_append] at CJ
   have hz2:(Num.enc (Num.zig (q:Int))).length<=10:=Num.enc_len10 (Num.zig_lt _ (by omega) (by omega))
   obtain ⟨D,hD⟩:∃ D,D=(Tap.blk s q).map cellOf:=⟨_,rfl⟩
   have hDl:D.length=32:=by rw [hD,List.length_map,Tap.blk_length]
   have ID:Hid ((Tryd.prog.info? 27).map (·.size)=some D.length):=by unfold Hid; rw [hDl]; kernel_rfl
   have LD:Hid ((List.replicate 32 (Value.int .u8 0)).length=D.length):=by unfold Hid; rw [hDl]; rfl
   have OD:Hid (∀ v ∈ D,v.oneCell'=true):=by unfold Hid; rw [hD]; exact cells_u8 _
   obtain ⟨es,hes⟩:∃ l,l=Num.enc (Num.zig s):=⟨_,rfl⟩
   obtain ⟨ej,hej⟩:∃ l,l=Num.enc (Num.zig (q:Int)):=⟨_,rfl⟩
   rw [<- hes] at CP hz1
   rw [<- hej] at CJ hz2
   have CS:Hid (∀ (W:World) (AX:Option Addr) (c:Nat),Gl W->RdP W AX 2 [es,ej]->Calls Tryd.prog 33 #[.slice AX 2 c] W fun e w'=>e = .returned (.agg D.toArray)/\Below W.heap.size W w'):=fun W AX c hg hR=>by
    refine (shaSum_any (c:=c) hg hR (by omega) (by simp; omega)).mono ?_
    rintro e w' ⟨D',rfl,hS,hX⟩
    have e1:D'=D:=by
     rw [hS,hD,Tap.blk,<- hes,<- hej]
     simp
    rw [e1]
    exact ⟨rfl,hX⟩
   have HD:=Lib.hid hD
   have HP:=Lib.hid hp
   clear hes hej hD hDl hp hq hr eq1 er1
   go_upto_region 6 with (fail)
   refine wp_region_any (by kernel_rfl) ?_
   change wpAny _ _ _ _ _ _ _ (World.drew _)
   have DG:Hid (Blk wr.drew g 69 [.int .i64 s,.int .i64 (p:Int)]):=HGB.out.drew
   have DO:Hid (Blk wr.drew B 5 (outC (Tap.tape s a k) n)):=HOB.out.drew
   have DW:Hid (w.grownBy wr.drew (some g)):=only_drew HW.out
   have GW:Hid (Gl wr.drew):=HG.out.only DW.out h2
   clear HGB HOB HW
   generalize wr.drew=w5 at *
   refine wpAny_take (i:=0) (oi:=?oit1) (v:=.pointer (some ⟨g,0,none⟩)) ?hit1 (by kernel_rfl) (by kernel_rfl) (by kernel_rfl) ?hQt1 ?hyt1 ?restt1
   case hit1=>simp only [zge]; rfl
   case hQt1=>exact fun _ _ _ h=>h
   case hyt1=>exact Or.inl ⟨by rfl,by intro w; go_simp⟩
   try simp only [zpt]
   refine wpAny_take (i:=1) (oi:=?oit2) (v:=.pointer (some ⟨g,0,none⟩)) ?hit2 (by kernel_rfl) (by kernel_rfl) (by kernel_rfl) ?hQt2 ?hyt2 ?restt2
   case hit2=>simp only [zge]; rfl
   case hQt2=>exact fun _ _ _ h=>h
   case hyt2=>exact Or.inl ⟨by rfl,by intro w; go_simp⟩
   try simp only [zpt]
   refine wpAny_take (i:=2) (oi:=?oit3) (v:=.pointer (some ⟨g,0,none⟩)) ?hit3 (by kernel_rfl) (by kernel_rfl) (by kernel_rfl) ?hQt3 ?hyt3 ?restt3
   case hit3=>simp only [zge]; rfl
   case hQt3=>exact fun _ _ _ h=>h
   case hyt3=>exact Or.inl ⟨by rfl,by intro w; go_simp⟩
   try simp only [zpt]
   refine wpAny_take (i:=5) (oi:=?oit4) (v:=.pointer (some ⟨g,0,none⟩)) ?hit4 (by kernel_rfl) (by kernel_rfl) (by kernel_rfl) ?hQt4 ?hyt4 ?restt4
   case hit4=>simp only [zge]; rfl
   case hQt4=>exact fun _ _ _ h=>h
   case hyt4=>exact Or.inl ⟨by rfl,by intro w; go_simp⟩
   try simp only [zpt]
   refine wpAny_take (i:=6) (oi:=?oit5) (v:=.pointer (some ⟨g,0,none⟩)) ?hit5 (by kernel_rfl) (by kernel_rfl) (by kernel_rfl) ?hQt5 ?hyt5 ?restt5
   case hit5=>simp only [zge]; rfl
   case hQt5=>exact fun _ _ _ h=>h
   case hyt5=>exact Or.inl ⟨by rfl,by intro w; go_simp⟩
   try simp only [zpt]
   refine wpAny_take (i:=7) (oi:=?oit6) (v:=.pointer (some ⟨g,1,none⟩)) ?hit6 (by kernel_rfl) (by kernel_rfl) (by kernel_rfl) ?hQt6 ?hyt6 ?restt6
   case hit6=>simp only [zge]; rfl
   case hQt6=>exact fun _ _ _ h=>h
   case hyt6=>exact Or.inl ⟨by rfl,by intro w; go_simp⟩
   try simp only [zpt]
   refine phase (fun i=>if i=4 then [3] else if i=9 then [8] else if i=10 then [4,9] else if i=11 then [4,10] else if i=12 then [11] else []) (fun d a w'=>∃ x7 x24 x28 x29 x33 x34 x35 x36 x37:Value,a={ tmps:=#[.pointer (some ⟨g,0,none⟩),.int .i64 (n:Int),undef,undef,.slice none 0 0,.slice (some ⟨B,0,none⟩) n n,.slice (some ⟨B,k,none⟩) (n - k) (n - k),x7,u8,.pointer (some ⟨g,0,none⟩),.bool false,.bool false,.int .i64 (n:Int),.bool false,.bool false,.bool false,.int .i64 (n:Int),.bool false,.bool false,.int .i64 (n:Int),.slice (some ⟨B,0,none⟩) n n,.slice (some ⟨B,0,none⟩) n n,.slice (some ⟨B,k,none⟩) (n - k) (n - k),.int .i64 ((n - k:Nat):Int),x24,.pointer (some ⟨g,0,none⟩),.pointer (some ⟨g,0,none⟩),.pointer (some ⟨g,0,none⟩),x28,x29,.pointer (some ⟨g,0,none⟩),.pointer (some ⟨g,0,none⟩),.pointer (some ⟨g,1,none⟩),x33,x34,x35,x36,x37,u38,u39,u40,u41,u42,u43,u44,u45,u46,u47,u48,u49,u50,u51,u52,u53,u54,u55,u56,undef],defers:=[] }/\Hid (NextI w5 s p q es ej D d w' x7 x28 x29 x33 x34 x35 x36 x37)) [3,4,8,9,10,11,12,13] ?step 1 8 [3,4,8,9,10,11,12,13] _ _ _ rfl (by decide) (fun _ h=>h) (by kernel_rfl) ?init ?fin
   case init =>
    refine ⟨_,_,_,_,_,_,_,_,_,rfl,Below.refl _ _,?_,?_,?_,?_,?_,?_,?_,?_⟩ <;> (intro h; exact absurd h (by decide))
   case step =>
    intro i hi d a w6 hI hdi hdeps
    obtain ⟨x7,x24,x28,x29,x33,x34,x35,x36,x37,rfl,HI⟩:=hI
    simp only [List.mem_cons,List.not_mem_nil,or_false] at hi
    rcases hi with rfl | rfl | rfl | rfl | rfl | rfl | rfl | rfl
    ·have c0:w6.cell? ⟨g,0,none⟩=some (.int .i64 s):=(DG.out.below HI.out.bel DG.out.lt).cell 0
     refine wpOp_step (o:=?osa3) ?hosa3 (fun K hK=>?_)
     case hosa3=>simp only [zge]; rfl
     go_simp
     have hJ:=HI.out
     refine hK _ _ ?_
     clear hK K
     try simp only [zpt]
     exact ⟨_,_,_,_,_,_,_,_,_,rfl,hJ.bel,fun _=>rfl,fun a=>hJ.i4 (by simpa using a),fun a=>hJ.i8 (by simpa using a),fun a=>hJ.i9 (by simpa using a),fun a=>hJ.i10 (by simpa using a),fun a=>hJ.i11 (by simpa using a),fun a=>hJ.i12 (by simpa using a),fun a=>hJ.i13 (by simpa using a)⟩
    ·obtain rfl:=HI.out.i3 (hdeps 3 (by simp))
     refine wpOp_step (o:=?osa4) ?hosa4 (fun K hK=>?_)
     case hosa4=>simp only [zge]; rfl
     go_simp
     refine (CP.out w6).mono ?_
     rintro e w7 ⟨v,rfl,hO,hX⟩
     obtain ⟨A1,c1,rfl,hR1,_⟩:=hO.value
     have hJ:=HI.out.below hX
     refine hK _ _ ?_
     clear hK K
     try simp only [zpt]
     exact ⟨_,_,_,_,_,_,_,_,_,rfl,hJ.bel,fun a=>hJ.i3 (by simpa using a),fun _=>⟨_,_,_,rfl,hR1⟩,fun a=>hJ.i8 (by simpa using a),fun a=>hJ.i9 (by simpa using a),fun a=>hJ.i10 (by simpa using a),fun a=>hJ.i11 (by simpa using a),fun a=>hJ.i12 (by simpa using a),fun a=>hJ.i13 (by simpa using a)⟩
    ·have c0:w6.cell? ⟨g,1,none⟩=some (.int .i64 (p:Int)):=(DG.out.below HI.out.bel DG.out.lt).cell 1
     refine wpOp_step (o:=?osa8) ?hosa8 (fun K hK=>?_)
     case hosa8=>simp only [zge]; rfl
     go_simp
     have hJ:=HI.out
     refine hK _ _ ?_
     clear hK K
     try simp only [zpt]
     exact ⟨_,_,_,_,_,_,_,_,_,rfl,hJ.bel,fun a=>hJ.i3 (by simpa using a),fun a=>hJ.i4 (by simpa using a),fun _=>rfl,fun a=>hJ.i9 (by simpa using a),fun a=>hJ.i10 (by simpa using a),fun a=>hJ.i11 (by simpa using a),fun a=>hJ.i12 (by simpa using a),fun a=>hJ.i13 (by simpa using a)⟩
    ·obtain rfl:=HI.out.i8 (hdeps 8 (by simp))
     refine wpOp_step (o:=?osa9) ?hosa9 (fun K hK=>?_)
     case hosa9=>simp only [zge]; rfl
     go_simp
     have hJ:=HI.out
     refine hK _ _ ?_
     clear hK K
     try simp only [zpt]
     exact ⟨_,_,_,_,_,_,_,_,_,rfl,hJ.bel,fun a=>hJ.i3 (by simpa using a),fun a=>hJ.i4 (by simpa using a),fun a=>hJ.i8 (by simpa using a),fun _=>rfl,fun a=>hJ.i10 (by simpa using a),fun a=>hJ.i11 (by simpa using a),fun a=>hJ.i12 (by simpa using a),fun a=>hJ.i13 (by simpa using a)⟩
    ·obtain rfl:=HI.out.i9 (hdeps 9 (by simp))
     refine wpOp_step (o:=?osa10) ?hosa10 (fun K hK=>?_)
     case hosa10=>simp only [zge]; rfl
     go_simp
     refine (CJ.out w6).mono ?_
     rintro e w7 ⟨v,rfl,hO,hX⟩
     obtain ⟨A1,c1,rfl,hR1,_⟩:=hO.value
     have hJ:=HI.out.below hX
     refine hK _ _ ?_
     clear hK K
     try simp only [zpt]
     exact ⟨_,_,_,_,_,_,_,_,_,rfl,hJ.bel,fun a=>hJ.i3 (by simpa using a),fun a=>hJ.i4 (by simpa using a),fun a=>hJ.i8 (by simpa using a),fun a=>hJ.i9 (by simpa using a),fun _=>⟨_,_,_,rfl,hR1⟩,fun a=>hJ.i11 (by simpa using a),fun a=>hJ.i12 (by simpa using a),fun a=>hJ.i13 (by simpa using a)⟩
    ·obtain ⟨q1,m1,d1,rfl,hR1⟩:=HI.out.i4 (hdeps 4 (by simp))
     obtain ⟨q2,m2,d2,rfl,hR2⟩:=HI.out.i10 (hdeps 10 (by simp))
     have HPP:=Lib.hid (lit_parts2 w6 hR1 hR2 rfl)
     have hX:=(Below.refl w6.heap.size w6).alloc (Nat.le_refl _) (.cells #[.slice q1 m1 d1,.slice q2 m2 d2] 41)
     have HJ:=Lib.hid (HI.out.below hX)
     clear hR1 hR2 hX
     refine wpOp_step (o:=?osa11) ?hosa11 (fun K hK=>?_)
     case hosa11=>simp only [zge]; rfl
     go_simp
     have hJ:=HJ.out
     refine hK _ _ ?_
     clear hK K
     try simp only [zpt]
     exact ⟨_,_,_,_,_,_,_,_,_,rfl,hJ.bel,fun a=>hJ.i3 (by simpa using a),fun a=>hJ.i4 (by simpa using a),fun a=>hJ.i8 (by simpa using a),fun a=>hJ.i9 (by simpa using a),fun a=>hJ.i10 (by simpa using a),fun _=>⟨_,rfl,HPP.out⟩,fun a=>hJ.i12 (by simpa using a),fun a=>hJ.i13 (by simpa using a)⟩
    ·obtain ⟨g1,rfl,hR⟩:=HI.out.i11 (hdeps 11 (by simp))
     have HPP:=Lib.hid hR
     clear hR
     refine wpOp_step (o:=?osa12) ?hosa12 (fun K hK=>?_)
     case hosa12=>simp only [zge]; rfl
     go_simp
     refine (CS.out w6 _ _ (GW.out.below HI.out.bel GW.out.size) HPP.out).mono ?_
     rintro e w7 ⟨rfl,hX⟩
     have hJ:=HI.out.below hX
     refine hK _ _ ?_
     clear hK K
     try simp only [zpt]
     exact ⟨_,_,_,_,_,_,_,_,_,rfl,hJ.bel,fun a=>hJ.i3 (by simpa using a),fun a=>hJ.i4 (by simpa using a),fun a=>hJ.i8 (by simpa using a),fun a=>hJ.i9 (by simpa using a),fun a=>hJ.i10 (by simpa using a),fun a=>hJ.i11 (by simpa using a),fun _=>rfl,fun a=>hJ.i13 (by simpa using a)⟩
    ·have hX:=(Below.refl w6.heap.size w6).alloc (Nat.le_refl _) (.cells (List.replicate 32 (.int .u8 0)).toArray 27)
     have HJ:=Lib.hid (HI.out.below hX)
     have hle:=HI.out.bel.size
     clear hX
     refine wpOp_step (o:=?osa13) ?hosa13 (fun K hK=>?_)
     case hosa13=>simp only [zge]; rfl
     go_simp
     have hJ:=HJ.out
     refine hK _ _ ?_
     clear hK K
     try simp only [zpt]
     exact ⟨_,_,_,_,_,_,_,_,_,rfl,hJ.bel,fun a=>hJ.i3 (by simpa using a),fun a=>hJ.i4 (by simpa using a),fun a=>hJ.i8 (by simpa using a),fun a=>hJ.i9 (by simpa using a),fun a=>hJ.i10 (by simpa using a),fun a=>hJ.i11 (by simpa using a),fun a=>hJ.i12 (by simpa using a),fun _=>⟨_,rfl,hle,Blk.at_new _ _ _ _ _ rfl rfl⟩⟩
   case fin =>
    intro a w6 hI
    obtain ⟨x7,x24,x28,x29,x33,x34,x35,x36,x37,rfl,HI⟩:=hI
    obtain rfl:=HI.out.i12 (by decide)
    obtain ⟨h,rfl,hh,FZ⟩:=HI.out.i13 (by decide)
    have hgl5:g < w5.heap.size:=DG.out.lt
    have hBl5:B < w5.heap.size:=DO.out.lt
    have FG:=DG.out.below HI.out.bel DG.out.lt
    have FO:=DO.out.below HI.out.bel DO.out.lt
    have FW:=only_trans DW.out (only_of_below HI.out.bel (some g))
    clear HI CP CJ CS
    dsimp only
    refine wpAny_ready (rs:=[14]) (by kernel_rfl) (by simp) ?_
    refine AllReady.cons (o:=?pz) ?qz (fun K hK=>?_) AllReady.nil
    case qz=>simp only [zge]; rfl
    refine step_storeAll rfl 27 (.tmp 7) (.tmp 37) rfl h rfl D rfl 27 (List.replicate 32 (Value.int .u8 0)) FZ ID.out LD.out OD.out (hK _ _ ?_)
    clear hK K
    try simp only [zpt]
    refine wpAny_done (by kernel_rfl) ?_ _
    have hws:w.heap.size<=h:=Nat.le_trans DW.out.size hh
    have SD:Blk (w6.setRow h D.toArray) h 27 D:=Blk.row FZ
    have SG:=FG.rowFar (k:=h) (by omega) D.toArray
    have SO:=FO.rowFar (k:=h) (by omega) D.toArray
    have SW:=only_setRow FW (k:=h) (.inr hws) D.toArray
    clear FZ FG FO FW DG DO DW GW
    generalize w6.setRow h D.toArray=w7 at *
    have hat:=fun W=>sliceAt_l 27 32 Tryd.underlying27 h 0 r hr32 W
    have c1:w7.cell? ⟨g,1,none⟩=some (.int .i64 (p:Int)):=SG.cell 1
    have RH:Rd w7 (some ⟨h,r,none⟩) (32 - r) (32 - r) (Tap.tape s p (32 - r)):=by
     have h1:=(Tap.hash_rd SD HD.out (Tap.blk_length s q)).cut (k:=r) (e:=32) (by omega) (by omega)
     rw [Tap.blk_tape,Tap.tape_cut s (32 * q) 32 r (32 - r) (by omega),<- hpq.out] at h1
     unfold cutA at h1
     rw [if_neg (by omega),Option.map_some,add_plain,Nat.zero_add] at h1
     exact h1
    obtain ⟨m,hm⟩:∃ m,m=min (32 - r) (n - k):=⟨_,rfl⟩
    have hm0:0 < m:=by omega
    have hm1:m<=n - k:=by omega
    have hm2:m<=32 - r:=by omega
    obtain ⟨w8,hcopy,QO,QW⟩:=copy_into (dCap:=n - k) SO RH (show k + (n - k)<=(outC (Tap.tape s a k) n).length by rw [outC_length]; omega)
    rw [<- hm] at hcopy QO
    rw [Tap.tape_front s p (32 - r) m hm2,outC_step _ _ n k m (Tap.tape_length _ _ _) (Tap.tape_length _ _ _) (by omega),HP.out,<- Tap.tape_add] at QO
    have hgB:g ≠ B:=by omega
    have QG:Blk w8 g 69 [.int .i64 s,.int .i64 (p:Int)]:=(QW.block g SG.lt (by simp; omega)).trans SG
    have c2:w8.cell? ⟨g,1,none⟩=some (.int .i64 (p:Int)):=QG.cell 1
    have f2:w8.frozen? ⟨g,1,none⟩=false:=QG.frozen 1
    have hcut:=fun W=>slice_l (some ⟨B,k,none⟩) (n - k) (n - k) m hm1 W
    have XW:w.grownBy w8 (some g):=⟨QW.os.trans SW.os,QW.tape.trans SW.tape,QW.output.trans SW.output,Nat.le_trans SW.size QW.size,fun i hi hne=>(QW.block i (Nat.lt_of_lt_of_le hi SW.size) (by simp; omega)).trans (SW.block i hi hne)⟩
    obtain ⟨w9,hw9⟩:∃ w9,w9=w8.setCell ⟨g,1,none⟩ (.int .i64 ((p:Int) + (m:Int))):=⟨_,rfl⟩
    have YG:Hid (Blk w9 g 69 [.int .i64 s,.int .i64 ((p + m:Nat):Int)]):=by
     unfold Hid
     rw [hw9,show ((p + m:Nat):Int)=(p:Int) + (m:Int) by omega]
     exact QG.set_ 1 _
    have YO:Hid (Blk w9 B 5 (outC (Tap.tape s a (k + m)) n)):=by unfold Hid; rw [hw9]; exact QO.far (p:=⟨g,1,none⟩) (Ne.symm hgB) _
    have YW:Hid (w.grownBy w9 (some g)):=by unfold Hid; rw [hw9]; exact only_setCell XW (.inl rfl) _
    have HW9:=Lib.hid hw9
    clear hw9 QO QG QW XW RH SD SG SO SW hm
    go_wp2_with fail
    rw [<- HW9.out]
    go_roundw
    case rel=>exact ⟨k + m,_,by omega,by rw [Nat.sub_sub],fun hlt2=>by unfold cutA; rw [if_neg (by omega),Option.map_some,add_plain],by rw [show a + (k + m)=p + m by have:=HP.out; omega]; exact YG,YO,YW⟩
    case measure=>simp [slen]; omega
  ·obtain rfl:k=n:=by omega
   have hl0:¬ (0 < k - k):=by omega
   go_wp2_with fail
   go_ret
   refine ⟨_,_,rfl,outC_rd HOB.out (Tap.tape_length _ _ _) (by omega),⟨HGB.out,hs1,hs2⟩,HW.out,fun ad had=>?_⟩
   injection had with had
   rw [<- had]
   omega
end Go.Proofs.YtajgjeialbgijaaDoor
namespace Go.Proofs.YtajgjeialbgijaaDoor
set_option linter.unusedVariables false
set_option linter.unusedSimpArgs false
set_option maxRecDepth 100000
open Go.RowKit
def RetN (Tp:World->Nat->Int->Nat->Prop) (Mm:World->Nat->Nat->Prop) (w:World) (g:Nat) (s:Int) (a n:Nat) (e:Ending) (w':World):Prop :=
 ∃ A c,e = .returned (.slice A n c)/\Rd w' A n c (Tap.tape s a n)/\Tp w' g s (a + n)/\w.grownBy w' (some g)/\(0 < n->∀ ad,A=some ad->w.heap.size<=ad.block)/\∀ b,Mm w' g b->Mm w g b ∨ w.heap.size<=b
structure TapeOk (Tp:World->Nat->Int->Nat->Prop) (Mm:World->Nat->Nat->Prop):Prop where
 lt:∀ {w:World} {g:Nat} {s:Int} {a:Nat},Tp w g s a->g < w.heap.size
 below:∀ {w w':World} {g:Nat} {s:Int} {a:Nat},Tp w g s a->Below w.heap.size w w'->Tp w' g s a
 apart:∀ {w w':World} {g h:Nat} {s s':Int} {a a':Nat},Tp w g s a->Tp w h s' a'->g ≠ h->w.grownBy w' (some h)->Tp w' g s a
 mlt:∀ {w:World} {g b:Nat} {s:Int} {a:Nat},Tp w g s a->Mm w g b->b < w.heap.size
 belowM:∀ {w w':World} {g b:Nat} {s:Int} {a:Nat},Tp w g s a->Below w.heap.size w w'->Mm w' g b->Mm w g b
 apartM:∀ {w w':World} {g h b:Nat} {s s':Int} {a a':Nat},Tp w g s a->Tp w h s' a'->g ≠ h->w.grownBy w' (some h)->Mm w' g b->Mm w g b
 own:∀ {w w':World} {g:Nat} {s:Int} {a:Nat} {row:Option Nat},Tp w g s a->(∀ b,row=some b->¬ Mm w g b)->w.grownBy w' row->Tp w' g s a/\∀ b,Mm w' g b->Mm w g b
 new:∀ (s:Int) (w:World),-9223372036854775808<=s->s<=9223372036854775807->Calls Tryd.prog 18 #[.int .i64 s] w fun e w'=>∃ g,e = .returned (.pointer (some ⟨g,0,none⟩))/\w.heap.size<=g/\Tp w' g s 0/\Below w.heap.size w w'
 next:∀ {w:World} {g:Nat} {s:Int} {a:Nat} (n:Nat),Gl w->2<=g->Tp w g s a->n<=4000->a<=1000000->Calls Tryd.prog 49 #[.pointer (some ⟨g,0,none⟩),.int .i64 (n:Int)] w (RetN Tp Mm w g s a n)
 none_:∀ {w:World} {g:Nat} {s:Int} {a:Nat} (n:Int),Tp w g s a->n < 0 ∨ 4000 < n->Calls Tryd.prog 49 #[.pointer (some ⟨g,0,none⟩),.int .i64 n] w fun e w'=>e = .returned (.slice none 0 0)/\Below w.heap.size w w'
 nilNext:∀ (n:Int) (w:World),Calls Tryd.prog 49 #[.pointer none,.int .i64 n] w fun e w'=>e = .returned (.slice none 0 0)/\Below w.heap.size w w'
 copy:∀ {w:World} {g:Nat} {s:Int} {a:Nat},Tp w g s a->Calls Tryd.prog 84 #[.pointer (some ⟨g,0,none⟩)] w fun e w'=>∃ h,e = .returned (.pointer (some ⟨h,0,none⟩))/\w.heap.size<=h/\Tp w' h s a/\Below w.heap.size w w'
 nilCopy:∀ (w:World),Calls Tryd.prog 84 #[.pointer none] w fun e w'=>e = .returned (.pointer none)/\Below w.heap.size w w'
theorem str_app (a b:List UInt8):((⟨a.toArray⟩:ByteArray) ++ ⟨b.toArray⟩)=⟨(a ++ b).toArray⟩:=by
 apply ByteArray.ext
 simp
theorem str_same (a:List UInt8):((⟨a.toArray⟩:ByteArray) == ⟨a.toArray⟩)=true:=by
 show (a.toArray == a.toArray)=true
 simp
theorem Rd.by_ {w w':World} {A:Option Addr} {n c:Nat} {l:List UInt8} {g:Nat} (h:Rd w A n c l) (hb:w.grownBy w' (some g)) (hne:0 < n->∀ ad,A=some ad->ad.block ≠ g):Rd w' A n c l:=h.grown hb hne
theorem Rd.in_ {w:World} {A:Option Addr} {n c:Nat} {l:List UInt8} (h:Rd w A n c l):0 < n->∀ ad,A=some ad->ad.block < w.heap.size:=fun h0 ad had=>by
 obtain ⟨b,off,e,hlt,_⟩:=h.at_ h0
 rw [had] at e
 injection e with e
 subst e
 exact hlt
set_option maxRecDepth 100000 in
set_option maxHeartbeats 4000000 in
theorem begun7_any {Tp:World->Nat->Int->Nat->Prop} {Mm:World->Nat->Nat->Prop} (hT:TapeOk Tp Mm) {w:World} (hg:Gl w):Calls Tryd.prog 62 #[] w fun e w'=>e = .returned (.bool true)/\Below w.heap.size w w':=by
 have HG:=Lib.hid hg
 have HT:=Lib.hid hT
 have hsz:=hg.size
 clear hg hT
 go_enter Tryd.func62,Tryd.ntmps62
 go_wp2_with fail
 refine (HT.out.new 5 w (by omega) (by omega)).mono ?_
 rintro e w1 ⟨g,rfl,hgw,hT1,hX1⟩
 have T1:=Lib.hid hT1
 have W1:=Lib.hid hX1
 have hs1:=hX1.size
 have hgl:g < w1.heap.size:=HT.out.lt hT1
 have G1:=Lib.hid (HG.out.below hX1 hsz)
 clear hT1 hX1
 go_wp2_with fail
 refine (HT.out.next 3 G1.out (by omega) T1.out (by omega) (by omega)).mono ?_
 rintro e w2 ⟨A1,c1,rfl,hR1,hT2,hO2,hf1,_⟩
 have hs2:=hO2.size
 have in1:=hR1.in_
 have R1:=Lib.hid hR1
 have T2:=Lib.hid hT2
 have W2:=Lib.hid (below_of_only W1.out hO2 hgw hs1)
 have F1:=Lib.hid hf1
 have N1:=Lib.hid in1
 clear hR1 hT2 hO2 hf1 in1 T1 W1 G1
 go_wp2_with fail
 refine (HT.out.copy T2.out).mono ?_
 rintro e w3 ⟨h,rfl,hhw,hT3,hX3⟩
 have hhl:h < w3.heap.size:=HT.out.lt hT3
 have hs3:=hX3.size
 have R2:=Lib.hid (R1.out.below hX3)
 have T3:=Lib.hid hT3
 have T3g:=Lib.hid (HT.out.below T2.out hX3)
 have W3:=Lib.hid (W2.out.trans (hX3.mono W2.out.size))
 have G3:=Lib.hid (HG.out.below W3.out hsz)
 clear hT3 hX3 R1 T2 W2
 go_wp2_with fail
 refine (HT.out.next 40 G3.out (by omega) T3g.out (by omega) (by omega)).mono ?_
 rintro e w4 ⟨A4,c4,rfl,hR4,hT4,hO4,hf4,_⟩
 have hs4:=hO4.size
 have R14:=Lib.hid (R2.out.by_ hO4 (fun h0 ad had=>by have:=F1.out h0 ad had; omega))
 have R4:=Lib.hid hR4
 have F4:=Lib.hid hf4
 have T4h:=Lib.hid (HT.out.apart T3.out T3g.out (by omega) hO4)
 have W4:=Lib.hid (below_of_only W3.out hO4 hgw W3.out.size)
 have G4:=Lib.hid (HG.out.below W4.out hsz)
 clear hR4 hT4 hO4 hf4 R2 T3 T3g W3 G3
 go_wp2_with fail
 refine (HT.out.next 40 G4.out (by omega) T4h.out (by omega) (by omega)).mono ?_
 rintro e w5 ⟨A5,c5,rfl,hR5,hT5,hO5,hf5,_⟩
 have R15:=Lib.hid (R14.out.by_ hO5 (fun h0 ad had=>by have:=N1.out h0 ad had; omega)).drew
 have R45:=Lib.hid (R4.out.by_ hO5 (fun h0 ad had=>by have:=F4.out h0 ad had; omega)).drew
 have R5:=Lib.hid hR5.drew
 have W5:=Lib.hid (below_of_only W4.out hO5 (by omega) W4.out.size).drew
 have G5:=Lib.hid (HG.out.below W5.out hsz)
 obtain ⟨l1,hl1⟩:∃ l,l=Tap.tape 5 0 3:=⟨_,rfl⟩
 obtain ⟨l2,hl2⟩:∃ l,l=Tap.tape 5 (0 + 3) 40:=⟨_,rfl⟩
 have CT:Hid (∀ W:World,Calls Tryd.prog 55 #[.int .i64 5,.int .i64 0,.int .i64 43] W fun e w'=>∃ A c,e = .returned (.slice A 43 c)/\Rd w' A 43 c (l1 ++ l2)/\Below W.heap.size W w'):=fun W=>by
  have:=rtape_any 5 0 43 W (by omega) (by omega) (by omega) (by omega)
  rw [show (43:Nat)=3 + 40 from rfl,Tap.tape_add,<- hl1,<- hl2] at this
  exact this
 have hle:¬ (9223372036854775807 < l1.length + l2.length):=by rw [hl1,hl2,Tap.tape_length,Tap.tape_length]; omega
 rw [<- hl1] at R15
 rw [<- hl2] at R45 R5
 clear hR5 hT5 hO5 hf5 R14 R4 T4h W4 G4 F1 N1 F4 hl1 hl2
 go_upto_region 5 with (fail)
 refine wp_region_any (by kernel_rfl) ?_
 change wpAny _ _ _ _ _ _ _ (World.drew _)
 generalize w5.drew=w6 at *
 refine wpAny_ready (rs:=[0]) (by kernel_rfl) (by simp) ?_
 refine AllReady.cons (o:=?p1) ?q1 (fun K hK=>?_) AllReady.nil
 case q1=>simp only [zge]; rfl
 go_simp
 refine (begun3_any G5.out).mono ?_
 rintro e w7 ⟨rfl,hX⟩
 refine hK _ _ ?_
 clear hK K
 try simp only [zpt]
 have W7:=Lib.hid (W5.out.trans (hX.mono W5.out.size))
 have Q1:=Lib.hid (R15.out.below hX)
 have Q4:=Lib.hid (R45.out.below hX)
 have Q5:=Lib.hid (R5.out.below hX)
 clear hX W5 R15 R45 R5 G5
 refine wpAny_take (i:=1) (oi:=?oi2) (v:=.bool true) ?hi2 (by kernel_rfl) (by kernel_rfl) (by kernel_rfl) ?hQ2 ?hy2 ?rest2
 case hi2=>simp only [zge]; rfl
 case hQ2=>exact fun _ _ _ h=>h
 case hy2=>exact Or.inl ⟨by rfl,by intro w; go_simp⟩
 try simp only [zpt]
 refine wpAny_take (i:=2) (oi:=?oi3) (v:=.slice A1 3 c1) ?hi3 (by kernel_rfl) (by kernel_rfl) (by kernel_rfl) ?hQ3 ?hy3 ?rest3
 case hi3=>simp only [zge]; rfl
 case hQ3=>exact fun _ _ _ h=>h
 case hy3=>exact Or.inl ⟨by rfl,by intro w; go_simp⟩
 try simp only [zpt]
 refine wpAny_take (i:=3) (oi:=?oi4) (v:=.int .i64 3) ?hi4 (by kernel_rfl) (by kernel_rfl) (by kernel_rfl) ?hQ4 ?hy4 ?rest4
 case hi4=>simp only [zge]; rfl
 case hQ4=>exact fun _ _ _ h=>h
 case hy4=>exact Or.inl ⟨by rfl,by intro w; go_simp⟩
 try simp only [zpt]
 refine wpAny_take (i:=4) (oi:=?oi5) (v:=.bool true) ?hi5 (by kernel_rfl) (by kernel_rfl) (by kernel_rfl) ?hQ5 ?hy5 ?rest5
 case hi5=>simp only [zge]; rfl
 case hQ5=>exact fun _ _ _ h=>h
 case hy5=>exact Or.inl ⟨by rfl,by intro w; go_simp⟩
 try simp only [zpt]
 refine wpAny_take (i:=5) (oi:=?oi6) (v:=.bool true) ?hi6 (by kernel_rfl) (by kernel_rfl) (by kernel_rfl) ?hQ6 ?hy6 ?rest6
 case hi6=>simp only [zge]; rfl
 case hQ6=>exact fun _ _ _ h=>h
 case hy6=>exact Or.inl ⟨by rfl,by intro w; go_simp⟩
 try simp only [zpt]
 refine wpAny_take (i:=6) (oi:=?oi7) (v:=.bool true) ?hi7 (by kernel_rfl) (by kernel_rfl) (by kernel_rfl) ?hQ7 ?hy7 ?rest7
 case hi7=>simp only [zge]; rfl
 case hQ7=>exact fun _ _ _ h=>h
 case hy7=>exact Or.inl ⟨by rfl,by intro w; go_simp⟩
 try simp only [zpt]
 refine wpAny_take (i:=7) (oi:=?oi8) (v:=.slice A4 40 c4) ?hi8 (by kernel_rfl) (by kernel_rfl) (by kernel_rfl) ?hQ8 ?hy8 ?rest8
 case hi8=>simp only [zge]; rfl
 case hQ8=>exact fun _ _ _ h=>h
 case hy8=>exact Or.inl ⟨by rfl,by intro w; go_simp⟩
 try simp only [zpt]
 refine wpAny_take (i:=8) (oi:=?oi9) (v:=.int .i64 40) ?hi9 (by kernel_rfl) (by kernel_rfl) (by kernel_rfl) ?hQ9 ?hy9 ?rest9
 case hi9=>simp only [zge]; rfl
 case hQ9=>exact fun _ _ _ h=>h
 case hy9=>exact Or.inl ⟨by rfl,by intro w; go_simp⟩
 try simp only [zpt]
 refine wpAny_take (i:=9) (oi:=?oi10) (v:=.bool true) ?hi10 (by kernel_rfl) (by kernel_rfl) (by kernel_rfl) ?hQ10 ?hy10 ?rest10
 case hi10=>simp only [zge]; rfl
 case hQ10=>exact fun _ _ _ h=>h
 case hy10=>exact Or.inl ⟨by rfl,by intro w; go_simp⟩
 try simp only [zpt]
 refine wpAny_take (i:=10) (oi:=?oi11) (v:=.bool true) ?hi11 (by kernel_rfl) (by kernel_rfl) (by kernel_rfl) ?hQ11 ?hy11 ?rest11
 case hi11=>simp only [zge]; rfl
 case hQ11=>exact fun _ _ _ h=>h
 case hy11=>exact Or.inl ⟨by rfl,by intro w; go_simp⟩
 try simp only [zpt]
 refine wpAny_take (i:=11) (oi:=?oi12) (v:=.bool true) ?hi12 (by kernel_rfl) (by kernel_rfl) (by kernel_rfl) ?hQ12 ?hy12 ?rest12
 case hi12=>simp only [zge]; rfl
 case hQ12=>exact fun _ _ _ h=>h
 case hy12=>exact Or.inl ⟨by rfl,by intro w; go_simp⟩
 try simp only [zpt]
 refine wpAny_take (i:=12) (oi:=?oi13) (v:=.slice A4 40 c4) ?hi13 (by kernel_rfl) (by kernel_rfl) (by kernel_rfl) ?hQ13 ?hy13 ?rest13
 case hi13=>simp only [zge]; rfl
 case hQ13=>exact fun _ _ _ h=>h
 case hy13=>exact Or.inl ⟨by rfl,by intro w; go_simp⟩
 try simp only [zpt]
 refine wpAny_take (i:=14) (oi:=?oi14) (v:=.slice A5 40 c5) ?hi14 (by kernel_rfl) (by kernel_rfl) (by kernel_rfl) ?hQ14 ?hy14 ?rest14
 case hi14=>simp only [zge]; rfl
 case hQ14=>exact fun _ _ _ h=>h
 case hy14=>exact Or.inl ⟨by rfl,by intro w; go_simp⟩
 try simp only [zpt]
 refine phase (fun _=>[]) (fun d a w'=>∃ x28 x30:Value,a={ tmps:=#[.bool false,.pointer (some ⟨g,0,none⟩),.slice A1 3 c1,.pointer (some ⟨h,0,none⟩),.slice A4 40 c4,.slice A5 40 c5,.pointer (some ⟨g,0,none⟩),.pointer (some ⟨g,0,none⟩),.slice A1 3 c1,.pointer (some ⟨g,0,none⟩),.pointer (some ⟨h,0,none⟩),.pointer (some ⟨g,0,none⟩),.slice A4 40 c4,.pointer (some ⟨h,0,none⟩),.slice A5 40 c5,.bool true,.bool true,.slice A1 3 c1,.int .i64 3,.bool true,.bool true,.bool true,.slice A4 40 c4,.int .i64 40,.bool true,.bool true,.bool true,.slice A4 40 c4,x28,.slice A5 40 c5,x30,undef,undef,undef,undef,undef,undef,undef,undef,undef,undef,undef,undef],defers:=[] }/\Hid (Below w7.heap.size w7 w')/\(d 13=true->x28 = .string ⟨l2.toArray⟩)/\(d 15=true->x30 = .string ⟨l2.toArray⟩)) [13,15] ?step1 13 2 [13,15] _ _ _ rfl (by decide) (fun _ h=>h) (by kernel_rfl) ?init1 ?fin1
 case init1=>refine ⟨_,_,rfl,Below.refl _ _,?_,?_⟩ <;> (intro h; exact absurd h (by decide))
 case step1 =>
  intro i hi d a w8 hI hdi hdeps
  obtain ⟨x28,x30,rfl,BW,h13,h15⟩:=hI
  simp only [List.mem_cons,List.not_mem_nil,or_false] at hi
  rcases hi with rfl | rfl
  ·have hcv:=conv_bytes (Q4.out.below BW.out)
   refine wpOp_step (o:=?os15) ?hos15 (fun K hK=>?_)
   case hos15=>simp only [zge]; rfl
   go_simp
   refine hK _ _ ?_
   clear hK K
   try simp only [zpt]
   exact ⟨_,_,rfl,BW,fun _=>rfl,fun a=>h15 (by simpa using a)⟩
  ·have hcv:=conv_bytes (Q5.out.below BW.out)
   refine wpOp_step (o:=?os16) ?hos16 (fun K hK=>?_)
   case hos16=>simp only [zge]; rfl
   go_simp
   refine hK _ _ ?_
   clear hK K
   try simp only [zpt]
   exact ⟨_,_,rfl,BW,fun a=>h13 (by simpa using a),fun _=>rfl⟩
 case fin1 =>
  intro a w8 hI
  obtain ⟨x28,x30,rfl,BW,h13,h15⟩:=hI
  obtain rfl:=h13 (by decide)
  obtain rfl:=h15 (by decide)
  have W8:=Lib.hid (W7.out.trans (BW.out.mono W7.out.size))
  have P1:=Lib.hid (Q1.out.below BW.out)
  have P4:=Lib.hid (Q4.out.below BW.out)
  clear h13 h15 BW Q1 Q4 Q5 W7
  dsimp only
  have hss:=str_same l2
  refine wpAny_take (i:=16) (oi:=?oi17) (v:=.bool true) ?hi17 (by kernel_rfl) (by kernel_rfl) (by kernel_rfl) ?hQ17 ?hy17 ?rest17
  case hi17=>simp only [zge]; rfl
  case hQ17=>exact fun _ _ _ h=>h
  case hy17=>exact Or.inl ⟨by rfl,by intro w; go_simp⟩
  try simp only [zpt]
  refine wpAny_take (i:=17) (oi:=?oi18) (v:=.bool true) ?hi18 (by kernel_rfl) (by kernel_rfl) (by kernel_rfl) ?hQ18 ?hy18 ?rest18
  case hi18=>simp only [zge]; rfl
  case hQ18=>exact fun _ _ _ h=>h
  case hy18=>exact Or.inl ⟨by rfl,by intro w; go_simp⟩
  try simp only [zpt]
  refine wpAny_take (i:=18) (oi:=?oi19) (v:=.bool true) ?hi19 (by kernel_rfl) (by kernel_rfl) (by kernel_rfl) ?hQ19 ?hy19 ?rest19
  case hi19=>simp only [zge]; rfl
  case hQ19=>exact fun _ _ _ h=>h
  case hy19=>exact Or.inl ⟨by rfl,by intro w; go_simp⟩
  try simp only [zpt]
  refine wpAny_take (i:=19) (oi:=?oi20) (v:=.slice A1 3 c1) ?hi20 (by kernel_rfl) (by kernel_rfl) (by kernel_rfl) ?hQ20 ?hy20 ?rest20
  case hi20=>simp only [zge]; rfl
  case hQ20=>exact fun _ _ _ h=>h
  case hy20=>exact Or.inl ⟨by rfl,by intro w; go_simp⟩
  try simp only [zpt]
  refine wpAny_take (i:=21) (oi:=?oi21) (v:=.slice A4 40 c4) ?hi21 (by kernel_rfl) (by kernel_rfl) (by kernel_rfl) ?hQ21 ?hy21 ?rest21
  case hi21=>simp only [zge]; rfl
  case hQ21=>exact fun _ _ _ h=>h
  case hy21=>exact Or.inl ⟨by rfl,by intro w; go_simp⟩
  try simp only [zpt]
  clear hss
  have hsa:=str_app l1 l2
  refine phase (fun i=>if i=23 then [20,22] else if i=25 then [24] else []) (fun d a w'=>∃ x35 x37 x38 x39 x40:Value,a={ tmps:=#[.bool false,.pointer (some ⟨g,0,none⟩),.slice A1 3 c1,.pointer (some ⟨h,0,none⟩),.slice A4 40 c4,.slice A5 40 c5,.pointer (some ⟨g,0,none⟩),.pointer (some ⟨g,0,none⟩),.slice A1 3 c1,.pointer (some ⟨g,0,none⟩),.pointer (some ⟨h,0,none⟩),.pointer (some ⟨g,0,none⟩),.slice A4 40 c4,.pointer (some ⟨h,0,none⟩),.slice A5 40 c5,.bool true,.bool true,.slice A1 3 c1,.int .i64 3,.bool true,.bool true,.bool true,.slice A4 40 c4,.int .i64 40,.bool true,.bool true,.bool true,.slice A4 40 c4,.string ⟨l2.toArray⟩,.slice A5 40 c5,.string ⟨l2.toArray⟩,.bool true,.bool true,.bool true,.slice A1 3 c1,x35,.slice A4 40 c4,x37,x38,x39,x40,undef,undef],defers:=[] }/\Hid (Below w8.heap.size w8 w')/\(d 20=true->x35 = .string ⟨l1.toArray⟩)/\(d 22=true->x37 = .string ⟨l2.toArray⟩)/\(d 23=true->x38 = .string ⟨(l1 ++ l2).toArray⟩)/\(d 24=true->Hid (∃ A c,x39 = .slice A 43 c/\Rd w' A 43 c (l1 ++ l2)))/\(d 25=true->x40 = .string ⟨(l1 ++ l2).toArray⟩)) [20,22,23,24,25] ?step2 3 5 [20,22,23,24,25] _ _ _ rfl (by decide) (fun _ h=>h) (by kernel_rfl) ?init2 ?fin2
  case init2=>refine ⟨_,_,_,_,_,rfl,Below.refl _ _,?_,?_,?_,?_,?_⟩ <;> (intro h; exact absurd h (by decide))
  case step2 =>
   intro i hi d a w9 hI hdi hdeps
   obtain ⟨x35,x37,x38,x39,x40,rfl,BW,h20,h22,h23,h24,h25⟩:=hI
   have hs9:=BW.out.size
   have H24:Hid (∀ w7,Below w9.heap.size w9 w7->(d 24=true->Hid (∃ A c,x39 = .slice A 43 c/\Rd w7 A 43 c (l1 ++ l2)))):=fun w7 hX a=>by obtain ⟨A,c,e,hR⟩:=(h24 a).out; exact ⟨A,c,e,hR.below hX⟩
   clear h24
   simp only [List.mem_cons,List.not_mem_nil,or_false] at hi
   rcases hi with rfl | rfl | rfl | rfl | rfl
   ·have hcv:=conv_bytes (P1.out.below BW.out)
    refine wpOp_step (o:=?os22) ?hos22 (fun K hK=>?_)
    case hos22=>simp only [zge]; rfl
    go_simp
    refine hK _ _ ?_
    clear hK K
    try simp only [zpt]
    exact ⟨_,_,_,_,_,rfl,BW,fun _=>rfl,fun a=>h22 (by simpa using a),fun a=>h23 (by simpa using a),fun a=>H24.out _ (Below.refl _ _) (by simpa using a),fun a=>h25 (by simpa using a)⟩
   ·have hcv:=conv_bytes (P4.out.below BW.out)
    refine wpOp_step (o:=?os23) ?hos23 (fun K hK=>?_)
    case hos23=>simp only [zge]; rfl
    go_simp
    refine hK _ _ ?_
    clear hK K
    try simp only [zpt]
    exact ⟨_,_,_,_,_,rfl,BW,fun a=>h20 (by simpa using a),fun _=>rfl,fun a=>h23 (by simpa using a),fun a=>H24.out _ (Below.refl _ _) (by simpa using a),fun a=>h25 (by simpa using a)⟩
   ·obtain rfl:=h20 (hdeps 20 (by simp))
    obtain rfl:=h22 (hdeps 22 (by simp))
    refine wpOp_step (o:=?os24) ?hos24 (fun K hK=>?_)
    case hos24=>simp only [zge]; rfl
    go_simp
    refine hK _ _ ?_
    clear hK K
    try simp only [zpt]
    exact ⟨_,_,_,_,_,rfl,BW,fun _=>rfl,fun _=>rfl,fun _=>rfl,fun a=>H24.out _ (Below.refl _ _) (by simpa using a),fun a=>h25 (by simpa using a)⟩
   ·refine wpOp_step (o:=?os25) ?hos25 (fun K hK=>?_)
    case hos25=>simp only [zge]; rfl
    go_simp
    refine (CT.out w9).mono ?_
    rintro e w10 ⟨A,c,rfl,hR,hX⟩
    refine hK _ _ ?_
    clear hK K
    try simp only [zpt]
    exact ⟨_,_,_,_,_,rfl,BW.out.trans (hX.mono hs9),fun a=>h20 (by simpa using a),fun a=>h22 (by simpa using a),fun a=>h23 (by simpa using a),fun _=>⟨_,_,rfl,hR⟩,fun a=>h25 (by simpa using a)⟩
   ·obtain ⟨A,c,rfl,hR⟩:=(H24.out w9 (Below.refl _ _) (hdeps 24 (by simp))).out
    have hcv:=conv_bytes hR
    refine wpOp_step (o:=?os26) ?hos26 (fun K hK=>?_)
    case hos26=>simp only [zge]; rfl
    go_simp
    refine hK _ _ ?_
    clear hK K
    try simp only [zpt]
    exact ⟨_,_,_,_,_,rfl,BW,fun a=>h20 (by simpa using a),fun a=>h22 (by simpa using a),fun a=>h23 (by simpa using a),fun _=>⟨_,_,rfl,hR⟩,fun _=>rfl⟩
  case fin2 =>
   intro a w9 hI
   obtain ⟨x35,x37,x38,x39,x40,rfl,BW,h20,h22,h23,h24,h25⟩:=hI
   obtain rfl:=h23 (by decide)
   obtain rfl:=h25 (by decide)
   have W9:=Lib.hid (W8.out.trans (BW.out.mono W8.out.size))
   clear h20 h22 h23 h24 h25 BW
   dsimp only
   have hss:=str_same (l1 ++ l2)
   refine wpAny_take (i:=26) (oi:=?oi27) (v:=.bool true) ?hi27 (by kernel_rfl) (by kernel_rfl) (by kernel_rfl) ?hQ27 ?hy27 ?rest27
   case hi27=>simp only [zge]; rfl
   case hQ27=>exact fun _ _ _ h=>h
   case hy27=>exact Or.inl ⟨by rfl,by intro w; go_simp⟩
   try simp only [zpt]
   refine wpAny_take (i:=27) (oi:=?oi28) (v:=.bool true) ?hi28 (by kernel_rfl) (by kernel_rfl) (by kernel_rfl) ?hQ28 ?hy28 ?rest28
   case hi28=>simp only [zge]; rfl
   case hQ28=>exact fun _ _ _ h=>h
   case hy28=>exact Or.inl ⟨by rfl,by intro w; go_simp⟩
   try simp only [zpt]
   refine wpAny_take (i:=28) (oi:=?oi29) (v:=.bool true) ?hi29 (by kernel_rfl) (by kernel_rfl) (by kernel_rfl) ?hQ29 ?hy29 ?rest29
   case hi29=>simp only [zge]; rfl
   case hQ29=>exact fun _ _ _ h=>h
   case hy29=>exact Or.inl ⟨by rfl,by intro w; go_simp⟩
   try simp only [zpt]
   refine wpAny_done (by kernel_rfl) ?_ _
   go_wp2_with fail
   go_ret
   exact ⟨rfl,W9.out⟩
end Go.Proofs.YtajgjeialbgijaaDoor
namespace Go.Proofs.YtajgjeialbgijaaDoor
set_option linter.unusedVariables false
set_option linter.unusedSimpArgs false
set_option maxRecDepth 100000
open Go.RowKit
theorem TapeAt.by_ {w w':World} {g:Nat} {s:Int} {a:Nat} {row:Option Nat} (h:TapeAt w g s a) (hb:w.grownBy w' row) (hne:row ≠ some g):TapeAt w' g s a :=
 ⟨(hb.block g h.blk.lt (fun e=>hne e.symm)).trans h.blk,h.lo,h.hi⟩
theorem tapeOk:TapeOk TapeAt TapeMem where
 lt h:=h.blk.lt
 below h hb:=⟨h.blk.below hb h.blk.lt,h.lo,h.hi⟩
 apart h _ hne hb:=h.by_ hb (fun e=>hne (Option.some.inj e).symm)
 mlt h hm:=by unfold TapeMem at hm; subst hm; exact h.blk.lt
 belowM _ _ hm:=hm
 apartM _ _ _ _ hm:=hm
 own h hr hb:=⟨h.by_ hb (fun e=>hr _ e rfl),fun _ hm=>hm⟩
 new s w h1 h2:=tnew_any s w h1 h2
 next n hG h2 hT hn ha:=(tnext_any n hG h2 hT hn ha).mono fun _ _ ⟨A,c,e,hR,hT',hW,hf⟩=>⟨A,c,e,hR,hT',hW,fun _=>hf,fun _ hm=>.inl hm⟩
 none_ n _ hn:=tnone_any n hn
 nilNext n w:=tnilNext n w
 copy hT:=tcopy_any hT
 nilCopy w:=tnilCopy w
end Go.Proofs.YtajgjeialbgijaaDoor
