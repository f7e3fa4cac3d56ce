import Derived.Test.YtmidbpjdpakkoaaDoorSGsha3
import Derived.Test.YtmidbpjdpakkoaaDoorSTbg
namespace Go.Proofs.YtmidbpjdpakkoaaDoor.proofTurn
set_option linter.unusedVariables false
set_option linter.unusedSimpArgs false
set_option maxRecDepth 100000
open Go.RowKit
theorem push_hashes {w:World} {B:Nat} {ty:TypeId} {A:Option Addr} {n c:Nat} {l:List (List UInt8)} (h:Rd2 w 32 A n c (hashes l)) (hl:∀ x ∈ l,x.length=32) (hn:n<=1000) (hB:B<=w.heap.size) :
  ∃ v' w',(Builtin.append_ #[36,36] ty #[.slice none 0 0,.slice A n c]).run Tryd.prog w = .ok v' w'/\Ow2 w' B 30 32 v' (hashes l)/\w.grownBy w' none:=by
 obtain ⟨i0,hi,hz0,hz1,hz2⟩:=info_parts infoHash
 have hln:l.length=n:=by rw [<- h.len]; simp [hashes]
 have each:=hashes_cells hl
 rcases Nat.eq_zero_or_pos n with h0 | h0
 ·subst h0
  obtain rfl:l=[]:=List.eq_nil_of_length_eq_zero hln
  refine ⟨.slice none 0 0,w,?_,Ow2.empty _ _ _ _,only_refl _ _⟩
  cases A <;> simp [Builtin.append_,run_underlying Tryd.underlying36,sizeOf,typeInfo,hi,Builtin.lenOf,Builtin.firstCells,storeCells,loadCells,loadCellsFrom]
 ·obtain ⟨b,off,rfl,hb,hc⟩:=h.at_ h0
  have hf:=flat_len each
  have hlen:(hashes l).length=n:=h.len
  have hcell:∀ j u,(hashes l).flatten[j]?=some u->w.cell? ((⟨b,off,none⟩:Addr).add j)=some u:=fun j u hu=>by
   have hj:j < n * 32:=by have:=(List.getElem?_eq_some_iff.1 hu).1; rw [hf,hlen] at this; exact this
   have hg:=flat_get each (j:=j / 32) (by rw [hlen]; omega) (j % 32) (by omega)
   rw [show j / 32 * 32 + j % 32=j by omega,hu] at hg
   have:=hc (j / 32) (by omega) (j % 32) u hg.symm
   rw [add_plain]
   rwa [show off + j / 32 * 32 + j % 32=off + j by omega] at this
  have hone:=hashes_one (l:=l)
  obtain ⟨v',w',hr,h2,h3,_⟩:=run_append_own (P:=Tryd.prog) w B 36 ty 30 i0 (.agg (List.replicate 32 (Value.int .u8 0)).toArray) 32 32 Tryd.underlying36 hi hz0 hz1 hz2 (by rfl) (by decide) (.slice none 0 0) 0 [] (World.ownsRow_nil w B 30 32) ⟨b,off,none⟩ n c (hashes l).flatten (by rw [hf,hlen]) hcell hone (by unfold maxLen; omega) (by omega) hB
  refine ⟨v',w',hr,⟨?_,each⟩,h3⟩
  simpa [hlen] using h2
theorem tree_cell {w:World} {g q i:Nat} {l:List Tm.P} {t:TypeId} {cs0:List Value} (hT:TreeAt w g l) (hq:Blk w q t cs0) (h1:t ≠ 72) (h2:t ≠ 75) (h3:t ≠ 66) (v:Value):TreeAt (w.setCell ⟨q,i,none⟩ v) g l:=by
 obtain ⟨tp,hbt,_⟩:=hT.blk
 exact hT.keep (Go.RowKit.Below.heap_setCell _ _ _ _ (blk_ne hbt hq (Ne.symm h3))) ⟨fun g' cs hb=>(Go.RowKit.Below.heap_setCell _ _ _ _ (blk_ne hb hq (Ne.symm h1))).trans hb,fun g' cs hb=>(Go.RowKit.Below.heap_setCell _ _ _ _ (blk_ne hb hq (Ne.symm h2))).trans hb⟩
theorem slice_hh (b off n c e:Nat) (h2:e<=c) (hc:0 < c) (W:World) :
  (Instr.slice 36 (.slice (some ⟨b,off,none⟩) n c) none (some (.int .i64 (e:Int))) none).run Tryd.prog W = .ok (.slice (some ⟨b,off,none⟩) e c) W:=by
 obtain ⟨i0,hi,hz0,hz1,hz2⟩:=info_parts infoHash
 have hel:Tryd.prog.elem 36=30:=by kernel_rfl
 have:=run_slice_h (P:=Tryd.prog) W 36 (some ⟨b,off,none⟩) n c (by rw [hel]; exact Tryd.underlying36) .i64 (e:Int) (by omega) (by omega)
 rw [this,hel]
 simp [sizeOf,typeInfo,hi,hz1,sliced,add_plain]
theorem tree_own {w w':World} {g B:Nat} {l:List Tm.P} {v:Value} {els:List (List Value)} (hT:TreeAt w g l) (hO:Ow2 w B 30 32 v els) (hG:w.grownBy w' v.ownBlock):TreeAt w' g l:=by
 obtain ⟨tp,hbt,_⟩:=hT.blk
 exact hT.keep (hG.block g hT.lt (hO.ne hbt (by decide))) ⟨fun g' cs hb=>(hG.block _ hb.lt (hO.ne hb (by decide))).trans hb,fun g' cs hb=>(hG.block _ hb.lt (hO.ne hb (by decide))).trans hb⟩
theorem hashes_set {l:List (List UInt8)} {i:Nat} (hi:i < l.length) {j:Nat} (y:UInt8):(hashes l).set i ((l[i].map cellOf).take j ++ [cellOf y] ++ (l[i].map cellOf).drop (j + 1))=hashes (l.set i (l[i].take j ++ [y] ++ l[i].drop (j + 1))):=by
 unfold hashes
 rw [List.map_set]
 simp [List.map_take,List.map_drop]
theorem row_cell {w:World} {B:Nat} {l:List (List UInt8)} {r n c:Nat} {cur:List Value} (h:Ow2 w B 30 32 (.slice (some ⟨r,0,none⟩) (hashes l).length c) (hashes l)) (he:∀ x ∈ l,x.length=32) (hr:B<=r) (hb:Blk w r 30 cur) (h1:(hashes l).length<=c) (h2:c<=maxLen) (h3:cur.length=c * 32) (h4:cur.take ((hashes l).length * 32)=(hashes l).flatten) {i j:Nat} (hi:i < l.length) (hj:j < 32) (y:UInt8) :
  Ow2 (w.setCell ⟨r,i * 32 + j,none⟩ (cellOf y)) B 30 32 (.slice (some ⟨r,0,none⟩) (hashes l).length c) (hashes (l.set i (l[i].take j ++ [y] ++ l[i].drop (j + 1)))):=by
 have hlen:(hashes l).length=l.length:=by simp [hashes]
 have hi':i < (hashes l).length:=by rw [hlen]; exact hi
 have:=Ow2.part h hr hb h1 h2 h3 h4 (k:=i) (o:=j) hi' (vs:=[cellOf y]) (by simp; omega)
 have hel:(hashes l)[i]'hi'=l[i].map cellOf:=by simp [hashes]
 rw [hel,List.length_singleton,hashes_set hi] at this
 have hk:i * 32 + j < cur.length:=by
  rw [h3]
  have:i + 1<=c:=by omega
  have:=Nat.mul_le_mul_right 32 this
  omega
 rw [setCell_eq_setRow w r (i * 32 + j) cur.toArray _ (0,0) (cellOf y) hb,List.setIfInBounds_toArray,List.set_eq_take_append_cons_drop,if_pos hk]
 simpa using this
theorem turn_built (a:Int):Tryd.prog.built 30 [(0,.int .u8 a)]=some (.int .u8 a :: List.replicate 31 (.int .u8 0)).toArray:=by kernel_rfl
theorem set_parts (l:List UInt8) {j:Nat} (hj:j < l.length) (y:UInt8):(l.take j ++ [y] ++ l.drop (j + 1)).length=l.length:=by simp; omega
theorem prf_make {W:World} {A:Option Addr} {n c:Nat} {has:Bool} {lab sum:List UInt8} {sides:List (List UInt8)} (hr:Rd2 W 32 A n c (hashes sides)) (hn:n<=1000) (h1:lab.length=32) (h2:sum.length=32) (he:∀ x ∈ sides,x.length=32):PrfIn W (.agg (proofL (.slice A n c) has (lab.map cellOf) (sum.map cellOf)).toArray) ⟨sides,has,lab,sum⟩:=⟨⟨A,n,c,rfl,hr,hn⟩,h1,h2,he⟩
theorem proofL_set0 (v u:Value) (has:Bool) (L S:List Value):(proofL v has L S).set 0 u=proofL u has L S:=rfl
theorem proofL_set1 (v:Value) (has b:Bool) (L S:List Value):(proofL v has L S).set 1 (.bool b)=proofL v b L S:=rfl
theorem proofL_set2 (v u:Value) (has:Bool) (L S:List Value) {j:Nat} (hL:L.length=32) (hj:j < 32):(proofL v has L S).set (2 + j) u=proofL v has (L.set j u) S:=by
 unfold proofL
 rw [show 2 + j=j + 1 + 1 by omega,List.set_cons_succ,List.set_cons_succ,List.set_append_left _ _ (by omega)]
theorem proofL_set3 (v u:Value) (has:Bool) (L S:List Value) {j:Nat} (hL:L.length=32):(proofL v has L S).set (34 + j) u=proofL v has L (S.set j u):=by
 unfold proofL
 rw [show 34 + j=(32 + j) + 1 + 1 by omega,List.set_cons_succ,List.set_cons_succ,List.set_append_right _ _ (by omega),hL,Nat.add_sub_cancel_left]
theorem turn6 (t:Int):(t.tmod 6 + 6).tmod 6=0 ∨ (t.tmod 6 + 6).tmod 6=1 ∨ (t.tmod 6 + 6).tmod 6=2 ∨ (t.tmod 6 + 6).tmod 6=3 ∨ (t.tmod 6 + 6).tmod 6=4 ∨ (t.tmod 6 + 6).tmod 6=5:=by
 have h0:-6 < t.tmod 6:=by
  rcases Int.le_total 0 t with h | h
  ·have:=Int.tmod_nonneg 6 h; omega
  ·have h3:=Int.tmod_lt_of_pos (-t) (show (0:Int) < 6 by decide)
   rw [Int.neg_tmod] at h3
   omega
 have:=Int.tmod_lt_of_pos (t.tmod 6 + 6) (show (0:Int) < 6 by decide)
 have:=Int.tmod_nonneg 6 (show 0<=t.tmod 6 + 6 by omega)
 omega
theorem rd2_take {w:World} {s:Nat} {A:Option Addr} {n c m:Nat} {els:List (List Value)} (h:Rd2 w s A n c els) (hm:m<=n):Rd2 w s A m c (els.take m) :=
 ⟨by rw [List.length_take,h.len]; omega,Nat.le_trans hm h.cap,h.max,fun h0=>by
  obtain ⟨b,off,e,hb,hc⟩:=h.at_ (by omega)
  refine ⟨b,off,e,hb,fun j hj i x hx=>hc j (by omega) i x ?_⟩
  rw [List.getD_eq_getElem?_getD,List.getElem?_take,if_pos hj] at hx
  rw [List.getD_eq_getElem?_getD]
  exact hx⟩
set_option maxRecDepth 100000 in
set_option maxHeartbeats 4000000 in
theorem walk (hB:BegunOk) {A A':Option Addr} {n c n' c':Nat} {ks vs:List Int} (k other how at_:Int) (x:UInt8) (w:World) (hg:Gl w) (ha:RdZ w A n c ks) (hb:RdZ w A' n' c' vs) (hk1:-9223372036854775808<=k) (hk2:k<=9223372036854775807) (ho1:-9223372036854775808<=other) (ho2:other<=9223372036854775807) (hh1:-9223372036854775808<=how) (hh2:how<=9223372036854775807) (hat1:-9223372036854775808<=at_) (hat2:at_<=9223372036854775807) :
  Calls Tryd.prog 8 #[.slice A n c,.slice A' n' c',.int .i64 k,.int .i64 other,.int .i64 how,.int .i64 at_,.int .u8 (x.toNat:Int)] w fun e w'=>e = .returned (.bool true)/\Below w.heap.size w w':=by
 have HG:=Lib.hid hg
 have hsz:=hg.size
 have CG:Hid (∀ W,Below w.heap.size w W->Calls Tryd.prog 14 #[] W fun e w'=>e = .returned (.bool true)/\Below W.heap.size W w'):=fun W hW=>hB (hg.below hW hsz)
 have CGR:Hid (∀ W,Below w.heap.size w W->Calls Tryd.prog 15 #[.slice A n c,.slice A' n' c',.int .i64 9] W fun e w'=>∃ g v l,e = .returned (.tuple #[.pointer (some ⟨g,0,none⟩),v,.bool true])/\W.heap.size<=g/\TreeAt w' g l/\Ow2 w' W.heap.size 47 64 v (pairs l)/\l.length<=9/\Below W.heap.size W w'):=fun W hW=>grown_any (hg.below hW hsz) (ha.below hW) (hb.below hW) (most:=9) (by omega)
 have BZ0:=Lib.hid zero_built
 have IZ:=Lib.hid zero_info
 have OZ:=Lib.hid zero_one
 have HZL:Hid ((List.replicate 32 (Value.int .u8 0)).length=32):=rfl
 have HZN:Hid (Tm.none32.map cellOf=(List.replicate 32 (Value.int .u8 0))):=rfl
 have ZB0:Hid (∀ W:World,Blk (W.alloc (.cells (List.replicate 32 (Value.int .u8 0)).toArray 30)) W.heap.size 30 (List.replicate 32 (Value.int .u8 0))):=fun W=>Blk.new W 30 _
 have ZPB:Hid (∀ W:World,Blk (W.alloc (.cells (proofL (.slice none 0 0) false (List.replicate 32 (Value.int .u8 0)) (List.replicate 32 (Value.int .u8 0))).toArray 38)) W.heap.size 38 (proofL (.slice none 0 0) false (List.replicate 32 (Value.int .u8 0)) (List.replicate 32 (Value.int .u8 0)))):=fun W=>Blk.new W 38 _
 have HZP:Hid ((proofL (.slice none 0 0) false (List.replicate 32 (Value.int .u8 0)) (List.replicate 32 (Value.int .u8 0))).length=66):=rfl
 obtain ⟨Z,hZ⟩:∃ Z,Z=List.replicate 32 (Value.int .u8 0):=⟨_,rfl⟩
 rw [<- hZ] at BZ0 IZ OZ HZL HZN
 have ZB:Hid (∀ W:World,Blk (W.alloc (.cells (List.replicate 32 (Value.int .u8 0)).toArray 30)) W.heap.size 30 Z):=fun W=>by rw [hZ]; exact ZB0.out W
 have HZE:Hid ((List.replicate 32 (Value.int .u8 0))=Z):=hZ.symm
 obtain ⟨ZP,hZP⟩:∃ Z,Z=(proofL (.slice none 0 0) false (List.replicate 32 (Value.int .u8 0)) (List.replicate 32 (Value.int .u8 0))):=⟨_,rfl⟩
 have ZPB':Hid (∀ W:World,Blk (W.alloc (.cells (proofL (.slice none 0 0) false (List.replicate 32 (Value.int .u8 0)) (List.replicate 32 (Value.int .u8 0))).toArray 38)) W.heap.size 38 ZP):=fun W=>by rw [hZP]; exact ZPB.out W
 have HZPE:Hid ((proofL (.slice none 0 0) false (List.replicate 32 (Value.int .u8 0)) (List.replicate 32 (Value.int .u8 0)))=ZP):=hZP.symm
 rw [<- hZP] at HZP
 have W:=Lib.hid (Below.refl w.heap.size w)
 clear hg ha hb hZ hZP ZB0 ZPB
 go_enter Tryd.func8,Tryd.ntmps8
 go_upto_region 4 with (first
  | (go_at_call 14; refine (CG.out w W.out).mono ?_; rintro e w2 ⟨rfl,hX⟩; replace W:=Lib.hid (W.out.trans (hX.mono W.out.size)); clear hX))
 go_upto_if 35 with (first
  | (go_at_call 15; refine (CGR.out w2 W.out).mono ?_; rintro e w3 ⟨g,vl,l,rfl,hgw0,hT,hO,hlen,hX⟩; obtain ⟨AL,cl,hvl0,hRL,_⟩:=hO.rd; obtain rfl:=hvl0; have T:=Lib.hid hT; have RL:=Lib.hid hRL; have HLN:=Lib.hid hlen; have hgw:=Nat.le_trans W.out.size hgw0; have W2S:=W.out.size; replace W:=Lib.hid (W.out.trans (hX.mono W.out.size)); have OL:=Lib.hid (hO.base W2S); clear hT hO hX hRL hgw0 hlen W2S CGR CG))
 obtain ⟨nl,hnl⟩:∃ z,z=(pairs l).length:=⟨_,rfl⟩
 have HNL:Hid (nl=l.length):=by unfold Hid; rw [hnl]; simp [pairs]
 rw [<- hnl] at RL ⊢
 have OL':Hid (Ow2 w3 w.heap.size 47 64 (.slice AL nl cl) (pairs l)):=by rw [hnl]; exact OL.out
 clear hnl OL
 have hfit:=T.out.fit
 clear OL' RL HNL
 by_cases hat:at_ < 0
 case pos =>
  have d1:decide (at_ < 0)=true:=decide_eq_true hat
  go_wp2_with fail
  go_ret
  exact ⟨rfl,W.out⟩
 have d1:decide (at_ < 0)=false:=decide_eq_false hat
 obtain ⟨az,rfl⟩:=Int.eq_ofNat_of_zero_le (show 0<=at_ by omega)
 have hkl:=nm_length k
 have hol:=nm_length other
 have hrl:=Tm.root_length 0 l
 have h3l:=sm_length 3
 obtain ⟨P,hP⟩:∃ P,P=Tm.prove l (nm k):=⟨_,rfl⟩
 have hPe:∀ y ∈ P.sides,y.length=32:=by rw [hP]; exact Tm.prove_each
 have hPn:P.sides.length<=256:=by rw [hP]; exact Tm.prove_length hfit _
 have CN:Hid (∀ W,Calls Tryd.prog 20 #[.int .i64 k] W fun e w'=>e = .returned (hv (nm k))/\Below W.heap.size W w'):=fun W=>nm_any k hk1 hk2 W
 have CO:Hid (∀ W,Calls Tryd.prog 20 #[.int .i64 other] W fun e w'=>e = .returned (hv (nm other))/\Below W.heap.size W w'):=fun W=>nm_any other ho1 ho2 W
 have C3:Hid (∀ W,Calls Tryd.prog 27 #[.int .i64 3] W fun e w'=>e = .returned (hv (sm 3))/\Below W.heap.size W w'):=fun W=>sm_any 3 W
 have CR:Hid (∀ W,TreeAt W g l->Calls Tryd.prog 17 #[.pointer (some ⟨g,0,none⟩)] W fun e w'=>e = .returned (hv (Tm.root 0 l))/\Below W.heap.size W w'):=fun W hT=>troot_any hT
 have CV:Hid (∀ W,TreeAt W g l->Calls Tryd.prog 21 #[.pointer (some ⟨g,0,none⟩),hv (nm k)] W fun e w'=>∃ PP:List Value,e = .returned (.agg PP.toArray)/\PrfIn w' (.agg PP.toArray) P/\(Tryd.prog.info? 38).map (·.size)=some PP.length/\(∀ v ∈ PP,v.oneCell'=true)/\PP.length=66/\Below W.heap.size W w'):=fun W hT=>by rw [hP]; exact prove_cells hT hkl
 have CA:Hid (∀ W y p,Below w.heap.size w W->PrfIn W y p->Calls Tryd.prog 32 #[hv (Tm.root 0 l),hv (nm k),hv (sm 3),y] W fun e w'=>e = .returned (.bool true)/\Below W.heap.size W w'):=fun W y p h hp=>alike_any (HG.out.below h hsz) hp hrl hkl h3l
 have CB:Hid (∀ W y p,Below w.heap.size w W->PrfIn W y p->Calls Tryd.prog 32 #[hv (Tm.root 0 l),hv (nm other),hv (sm 3),y] W fun e w'=>e = .returned (.bool true)/\Below W.heap.size W w'):=fun W y p h hp=>alike_any (HG.out.below h hsz) hp hrl hol h3l
 unfold hv at CN CO C3 CR CV CA CB
 have INC:=Lib.hid (hash_info (hkl))
 have ONC:=Lib.hid (cells_u8 (nm k))
 have LNC:Hid (Z.length=((nm k).map cellOf).length):=by unfold Hid; rw [List.length_map,hkl,HZL.out]
 obtain ⟨NC,hNC⟩:∃ L,L=(nm k).map cellOf:=⟨_,rfl⟩
 have NNC:Hid (NC.length=32):=by unfold Hid; rw [hNC,List.length_map,hkl]
 rw [<- hNC] at INC ONC LNC CN CV CA
 have ENC:=Lib.hid hNC
 clear hNC
 have IOC:=Lib.hid (hash_info (hol))
 have OOC:=Lib.hid (cells_u8 (nm other))
 have LOC:Hid (Z.length=((nm other).map cellOf).length):=by unfold Hid; rw [List.length_map,hol,HZL.out]
 obtain ⟨OC,hOC⟩:∃ L,L=(nm other).map cellOf:=⟨_,rfl⟩
 have NOC:Hid (OC.length=32):=by unfold Hid; rw [hOC,List.length_map,hol]
 rw [<- hOC] at IOC OOC LOC CO CB
 have EOC:=Lib.hid hOC
 clear hOC
 have ISC:=Lib.hid (hash_info (h3l))
 have OSC:=Lib.hid (cells_u8 (sm 3))
 have LSC:Hid (Z.length=((sm 3).map cellOf).length):=by unfold Hid; rw [List.length_map,h3l,HZL.out]
 obtain ⟨SC,hSC⟩:∃ L,L=(sm 3).map cellOf:=⟨_,rfl⟩
 have NSC:Hid (SC.length=32):=by unfold Hid; rw [hSC,List.length_map,h3l]
 rw [<- hSC] at ISC OSC LSC C3 CA CB
 have ESC:=Lib.hid hSC
 clear hSC
 have IRC:=Lib.hid (hash_info (hrl))
 have ORC:=Lib.hid (cells_u8 (Tm.root 0 l))
 have LRC:Hid (Z.length=((Tm.root 0 l).map cellOf).length):=by unfold Hid; rw [List.length_map,hrl,HZL.out]
 obtain ⟨RC,hRC⟩:∃ L,L=(Tm.root 0 l).map cellOf:=⟨_,rfl⟩
 have NRC:Hid (RC.length=32):=by unfold Hid; rw [hRC,List.length_map,hrl]
 rw [<- hRC] at IRC ORC LRC CR CA CB
 have ERC:=Lib.hid hRC
 clear hRC
 obtain ⟨rb,hrb⟩:∃ z:Int,z=(x.toNat:Int):=⟨_,rfl⟩
 have HRB:=Lib.hid hrb
 have hmw:IntKind.i64.wrap (how.tmod 6 + 6)=how.tmod 6 + 6:=by
  have h1:=Int.tmod_lt_of_pos how (show (0:Int) < 6 by decide)
  have h2:-6 < how.tmod 6:=by
   rcases Int.le_total 0 how with h | h
   ·have:=Int.tmod_nonneg 6 h; omega
   ·have h3:=Int.tmod_lt_of_pos (-how) (show (0:Int) < 6 by decide)
    rw [Int.neg_tmod] at h3
    omega
  exact wrap_small _ (by omega) (by omega)
 clear hP hkl hol hrl h3l hfit hat hgw
 go_upto_region 7 with (fail)
 rw [<- hrb]
 clear d1 hrb
 go_upto_region 8 with (first
  | (go_at_call 20; refine (CN.out w3).mono ?_; rintro e w4 ⟨rfl,hX⟩; replace T:=Lib.hid (T.out.low hX); replace W:=Lib.hid (W.out.trans (hX.mono W.out.size)); clear hX)
  | (go_at_call 21; refine (CV.out w4 T.out).mono ?_; rintro e w5 ⟨PP,rfl,hPI,hp1,hp2,hp3,hX⟩; replace T:=Lib.hid (T.out.low hX); replace W:=Lib.hid (W.out.trans (hX.mono W.out.size)); clear hX; have PI:=Lib.hid hPI; have IPP:=Lib.hid hp1; have OPP:=Lib.hid hp2; have LPP:Hid (ZP.length=PP.length):=HZP.out.trans hp3.symm; clear hPI hp1 hp2 hp3; have hw5s:=W.out.size)
  | ((with_reducible refine storeGen_law rfl 38 (.tmp 19) (.tmp 40) rfl w5.heap.size rfl PP rfl 38 ZP IPP.out LPP.out OPP.out w5.heap.size w5 ?_ ?_ (Nat.le_refl _) ?_)
     ·exact ZPB'.out w5
     ·exact alloc_below w5 _
     intro w6 BQ hX'; have hX:=hX'.out; clear hX'; replace T:=Lib.hid (T.out.low hX); replace W:=Lib.hid (W.out.trans (hX.mono W.out.size)); replace PI:=Lib.hid (PI.out.below hX); clear hX))
 obtain ⟨q,hq⟩:∃ z,z=w5.heap.size:=⟨_,rfl⟩
 have hwq:w.heap.size<=q:=by rw [hq]; exact hw5s
 rw [<- hq] at BQ ⊢
 clear hq hw5s
 obtain ⟨A0,n0,c0',hx,hR,_⟩:=PI.out.at_
 have hLC:(P.lab.map cellOf).length=32:=by rw [List.length_map]; exact PI.out.lab
 have hSC:(P.sum.map cellOf).length=32:=by rw [List.length_map]; exact PI.out.sum
 have hlab:=PI.out.lab
 have hsum:=PI.out.sum
 have hPP:PP=proofL (.slice A0 n0 c0') P.has (P.lab.map cellOf) (P.sum.map cellOf):=by injection hx with hx; simpa using hx
 have hln:P.sides.length=n0:=by rw [<- hR.len]; simp [hashes]
 have HR:=Lib.hid hR
 have c0:w6.cell? ⟨q,0,none⟩=some (.slice A0 n0 c0'):=by rw [BQ.out.cell,hPP]; rfl
 have f0:w6.frozen? ⟨q,0,none⟩=false:=BQ.out.frozen 0
 clear hx hR PI
 obtain ⟨v1,w7,happ,hO,hG⟩:=push_hashes (ty:=36) HR.out hPe (by omega) W.out.size
 have hX:Below w6.heap.size w6 w7:=⟨hG.os,hG.tape,hG.output,hG.size,fun k hk=>hG.block k hk (by simp)⟩
 obtain ⟨A1,c1,hv1,hR1,hown⟩:=hO.rd
 obtain ⟨n1,hn1⟩:∃ z,z=(hashes P.sides).length:=⟨_,rfl⟩
 have hn1':n1=P.sides.length:=by rw [hn1]; simp [hashes]
 have HN1:=Lib.hid hn1'
 have hn256:n1<=256:=by omega
 rw [<- hn1] at hv1 hR1
 subst hv1
 have hqo:=hO.ne (BQ.out.below hX BQ.out.lt) (by decide)
 replace T:=Lib.hid (T.out.low hX)
 replace W:=Lib.hid (W.out.trans (hX.mono W.out.size))
 replace BQ:=Lib.hid (BQ.out.below hX BQ.out.lt)
 have f7:w7.frozen? ⟨q,0,none⟩=false:=BQ.out.frozen 0
 have c7:w7.cell? ⟨q,0,none⟩=some (.slice A0 n0 c0'):=by rw [BQ.out.cell,hPP]; rfl
 have OW:=Lib.hid hO
 clear hX hG hO HR hn1 hn1' hln
 have HAPP:=Lib.hid happ
 clear happ
 go_upto_region 9 with (first
  | ((with_reducible refine append_law ?hgd (.const (.slice none 0 0)) (.tmp 42) 36 36 ?ho ?hs ?hx HAPP.out ?_); (case ho=>with_reducible rfl); (case hgd=>rfl); (case hs=>rfl); (case hx=>rfl)))
 clear HAPP c0 f0 c7 f7
 have OW8:Hid (Ow2 (w7.setCell ⟨q,0,none⟩ (.slice A1 n1 c1)) w.heap.size 30 32 (.slice A1 n1 c1) (hashes P.sides)):=OW.out.keep fun z hz=>Go.RowKit.Below.heap_setCell _ _ _ _ (fun e=>hqo (by rw [hz]; exact congrArg some e.symm))
 have B8:Hid (Blk (w7.setCell ⟨q,0,none⟩ (.slice A1 n1 c1)) q 38 (proofL (.slice A1 n1 c1) P.has (P.lab.map cellOf) (P.sum.map cellOf))):=by
  have:=BQ.out.set_ 0 (.slice A1 n1 c1)
  rw [hPP,proofL_set0] at this
  exact this
 have T8:Hid (TreeAt (w7.setCell ⟨q,0,none⟩ (.slice A1 n1 c1)) g l):=tree_cell T.out BQ.out (by decide) (by decide) (by decide) _
 have W8:Hid (Below w.heap.size w (w7.setCell ⟨q,0,none⟩ (.slice A1 n1 c1))):=W.out.setCell hwq _
 generalize w7.setCell ⟨q,0,none⟩ (.slice A1 n1 c1)=w8 at *
 clear T W BQ OW
 have T:=T8
 have W:=W8
 have hlp:∀ j,j < 32->(P.lab.map cellOf)[j]?=some (.int .u8 ((P.lab.getD j 0).toNat:Int)):=fun j hj=>by rw [List.getElem?_map,List.getD_eq_getElem?_getD,List.getElem?_eq_getElem (by omega)]; rfl
 have hsp:∀ j,j < 32->(P.sum.map cellOf)[j]?=some (.int .u8 ((P.sum.getD j 0).toNat:Int)):=fun j hj=>by rw [List.getElem?_map,List.getD_eq_getElem?_getD,List.getElem?_eq_getElem (by omega)]; rfl
 have HLP:=Lib.hid hlp
 have HSP:=Lib.hid hsp
 have HPE:=Lib.hid hPe
 have RW8:=Lib.hid (OW8.out.rds.1)
 have hxor:∀ b:UInt8,bits .xor .u8 (b.toNat:Int) rb=((b ^^^ x).toNat:Int):=fun b=>by rw [HRB.out,xor_cell]
 have HXOR:=Lib.hid hxor
 have ha32:az % 32 < 32:=Nat.mod_lt _ (by decide)
 have hni:¬ (32:Int)<=(az:Int) % 32:=by omega
 clear T8 W8 hlp hsp hPe hxor hPP hqo
 rcases turn6 how with eh | eh | eh | eh | eh | eh
 ·have c8:w8.cell? ⟨q,0,none⟩=some (.slice A1 n1 c1):=B8.out.cell 0
  have f8:w8.frozen? ⟨q,0,none⟩=false:=B8.out.frozen 0
  by_cases h0:0 < n1
  ·have d0:decide ((0:Int) < (n1:Int))=true:=decide_eq_true (by omega)
   have hlen:(hashes P.sides).length=n1:=by rw [HN1.out]; simp [hashes]
   obtain ⟨r,cap,cur,hvr,hrw,hBR,hcap1,hcap2,hcl,hct⟩:=OW8.out.blk (by rw [hlen]; exact h0)
   rw [hlen] at hvr hcap1
   obtain ⟨hA1,hcc⟩:A1=some ⟨r,0,none⟩/\c1=cap:=by injection hvr with e1 _ e2; exact ⟨e1,e2⟩
   subst hA1
   subst hcc
   have BR:=Lib.hid hBR
   obtain ⟨i,hi⟩:∃ z,z=az % n1:=⟨_,rfl⟩
   have hin:i < n1:=by rw [hi]; exact Nat.mod_lt _ h0
   have hmi:((az:Int)).tmod (n1:Int)=(i:Int):=by rw [hi,Int.tmod_eq_emod_of_nonneg (by omega)]; simp
   have hnz:¬ (n1:Int)=0:=by omega
   have hnz':¬ n1=0:=by omega
   have hil:i < P.sides.length:=by rw [<- HN1.out]; exact hin
   obtain ⟨o,ho⟩:∃ z,z=i * 32:=⟨_,rfl⟩
   have hri:∀ W,(Instr.indexAt 36 (.slice (some ⟨r,0,none⟩) n1 c1) (.int .i64 (i:Int))).run Tryd.prog W = .ok (.pointer (some ⟨r,o,none⟩)) W:=fun W=>by rw [ho,index_hash r 0 n1 c1 i hin W,Nat.zero_add]
   obtain ⟨yb,hyb⟩:∃ z,z=P.sides[i].getD (az % 32) 0:=⟨_,rfl⟩
   have hsl32:=HPE.out P.sides[i] (List.getElem_mem hil)
   have HYC:Hid (∀ W,Ow2 W w.heap.size 30 32 (.slice (some ⟨r,0,none⟩) n1 c1) (hashes P.sides)->W.cell? ⟨r,o + az % 32,none⟩=some (.int .u8 (yb.toNat:Int))):=fun W hO=>by
    obtain ⟨b',off',hA',_,_,hx⟩:=rd2_hash hO.rds.1 hil
    obtain ⟨e1,e2⟩:r=b'/\0=off':=by simpa using hA'
    have:=hx (az % 32) (.int .u8 (yb.toNat:Int)) (by rw [List.getElem?_map,hyb,List.getD_eq_getElem?_getD,List.getElem?_eq_getElem (by omega)]; rfl)
    rwa [<- e1,<- e2,Nat.zero_add,<- ho] at this
   obtain ⟨sides',hsd'⟩:∃ z,z=P.sides.set i (P.sides[i].take (az % 32) ++ [yb ^^^ x] ++ P.sides[i].drop (az % 32 + 1)):=⟨_,rfl⟩
   have hse:∀ y ∈ sides',y.length=32:=fun y hy=>by
    rw [hsd'] at hy
    rcases List.mem_or_eq_of_mem_set hy with h | h
    ·exact HPE.out y h
    ·rw [h,set_parts _ (by omega)]; exact hsl32
   have HSE:=Lib.hid hse
   have HOW:Hid (∀ W,Ow2 W w.heap.size 30 32 (.slice (some ⟨r,0,none⟩) n1 c1) (hashes P.sides)->Blk W r 30 cur->Ow2 (W.setCell ⟨r,o + az % 32,none⟩ (.int .u8 (bits .xor .u8 (yb.toNat:Int) rb))) w.heap.size 30 32 (.slice (some ⟨r,0,none⟩) n1 c1) (hashes sides')):=fun W hO hB=>by
    rw [HXOR.out,hsd',ho]
    have:=row_cell (n:=n1) (by rw [hlen]; exact hO) HPE.out hrw hB (by rw [hlen]; exact hcap1) hcap2 hcl (by rw [hlen] at hct ⊢; exact hct) hil ha32 (yb ^^^ x)
    rw [hlen] at this
    exact this
   clear hvr hBR hcap1 hcap2 hcl hct hi hyb hsd' hse hsl32 hil ho hlen
   go_upto_region 14 with (fail)
   clear c8 f8 hmw d0
   have hX:=(Below.refl w8.heap.size w8).drew
   replace T:=Lib.hid (T.out.low hX)
   replace OW8:=Lib.hid (OW8.out.below hX)
   replace B8:=Lib.hid (B8.out.below hX B8.out.lt)
   replace BR:=Lib.hid (BR.out.below hX BR.out.lt)
   replace W:=Lib.hid (W.out.trans (hX.mono W.out.size))
   clear hX
   refine wp_region_any (by kernel_rfl) ?_
   change wpAny _ _ _ _ _ _ _ (World.drew _)
   generalize w8.drew=wd at *
   refine wpAny_take (i:=0) (oi:=?oi1) (v:=.pointer (some ⟨q,0,none⟩)) ?hi1 (by kernel_rfl) (by kernel_rfl) (by kernel_rfl) ?hQ1 ?hy1 ?rest1
   case hi1=>simp only [zge]; rfl
   case hQ1=>exact fun _ _ _ h=>h
   case hy1=>exact Or.inl ⟨by rfl,by intro w; go_simp <;> first | omega | exact Int.tmod_eq_emod_of_nonneg (by omega) | (rw [if_pos ⟨by omega,by omega⟩,show ((az:Int) % 32).toNat=az % 32 by omega])⟩
   try simp only [zpt]
   refine wpAny_take (i:=2) (oi:=?oi2) (v:=.int .i64 (az:Int)) ?hi2 (by kernel_rfl) (by kernel_rfl) (by kernel_rfl) ?hQ2 ?hy2 ?rest2
   case hi2=>simp only [zge]; rfl
   case hQ2=>exact fun _ _ _ h=>h
   case hy2=>exact Or.inl ⟨by rfl,by intro w; go_simp <;> first | omega | exact Int.tmod_eq_emod_of_nonneg (by omega) | (rw [if_pos ⟨by omega,by omega⟩,show ((az:Int) % 32).toNat=az % 32 by omega])⟩
   try simp only [zpt]
   refine wpAny_take (i:=3) (oi:=?oi3) (v:=.pointer (some ⟨q,0,none⟩)) ?hi3 (by kernel_rfl) (by kernel_rfl) (by kernel_rfl) ?hQ3 ?hy3 ?rest3
   case hi3=>simp only [zge]; rfl
   case hQ3=>exact fun _ _ _ h=>h
   case hy3=>exact Or.inl ⟨by rfl,by intro w; go_simp <;> first | omega | exact Int.tmod_eq_emod_of_nonneg (by omega) | (rw [if_pos ⟨by omega,by omega⟩,show ((az:Int) % 32).toNat=az % 32 by omega])⟩
   try simp only [zpt]
   refine wpAny_take (i:=7) (oi:=?oi4) (v:=.int .i64 (az:Int)) ?hi4 (by kernel_rfl) (by kernel_rfl) (by kernel_rfl) ?hQ4 ?hy4 ?rest4
   case hi4=>simp only [zge]; rfl
   case hQ4=>exact fun _ _ _ h=>h
   case hy4=>exact Or.inl ⟨by rfl,by intro w; go_simp <;> first | omega | exact Int.tmod_eq_emod_of_nonneg (by omega) | (rw [if_pos ⟨by omega,by omega⟩,show ((az:Int) % 32).toNat=az % 32 by omega])⟩
   try simp only [zpt]
   refine wpAny_take (i:=8) (oi:=?oi5) (v:=.int .i64 ((az:Int) % 32)) ?hi5 (by kernel_rfl) (by kernel_rfl) (by kernel_rfl) ?hQ5 ?hy5 ?rest5
   case hi5=>simp only [zge]; rfl
   case hQ5=>exact fun _ _ _ h=>h
   case hy5=>exact Or.inl ⟨by rfl,by intro w; go_simp <;> first | omega | exact Int.tmod_eq_emod_of_nonneg (by omega) | (rw [if_pos ⟨by omega,by omega⟩,show ((az:Int) % 32).toNat=az % 32 by omega])⟩
   try simp only [zpt]
   refine wpAny_take (i:=12) (oi:=?oi6) (v:=.int .u8 rb) ?hi6 (by kernel_rfl) (by kernel_rfl) (by kernel_rfl) ?hQ6 ?hy6 ?rest6
   case hi6=>simp only [zge]; rfl
   case hQ6=>exact fun _ _ _ h=>h
   case hy6=>exact Or.inl ⟨by rfl,by intro w; go_simp <;> first | omega | exact Int.tmod_eq_emod_of_nonneg (by omega) | (rw [if_pos ⟨by omega,by omega⟩,show ((az:Int) % 32).toNat=az % 32 by omega])⟩
   try simp only [zpt]
   refine phaseL (fun i=>if i=5 then [4] else if i=6 then [5] else []) (fun d a w'=>∃ x68 x71 x72 x73:Value,a={ tmps:=#[.slice A n c,.slice A' n' c',.int .i64 k,.int .i64 other,.int .i64 how,.int .i64 (az:Int),.int .u8 rb,undef,undef,undef,undef,undef,undef,undef,.bool false,.bool true,.pointer (some ⟨g,0,none⟩),.slice AL nl cl,.bool true,.pointer (some ⟨q,0,none⟩),.bool true,.bool true,.bool false,.tuple #[.pointer (some ⟨g,0,none⟩),.slice AL nl cl,.bool true],.slice A n c,.slice A' n' c',.tuple #[.pointer (some ⟨g,0,none⟩),.slice AL nl cl,.bool true],.pointer (some ⟨g,0,none⟩),.slice AL nl cl,.bool true,.bool true,.bool false,.bool false,.int .i64 (az:Int),.bool (decide ((az:Int) < 0)),.bool (decide ((az:Int) < 0)),undef,.pointer (some ⟨g,0,none⟩),.int .i64 k,.agg NC.toArray,.agg (proofL (.slice A0 n0 c0') P.has (List.map cellOf P.lab) (List.map cellOf P.sum)).toArray,.pointer (some ⟨q,0,none⟩),.slice A0 n0 c0',.slice (some ⟨r,0,none⟩) n1 c1,.pointer (some ⟨q,0,none⟩),.int .i64 how,.int .i64 (how.tmod 6),.int .i64 (how.tmod 6 + 6),.int .i64 0,undef,undef,undef,undef,undef,undef,undef,undef,undef,undef,undef,undef,.bool true,.bool true,.pointer (some ⟨q,0,none⟩),.slice (some ⟨r,0,none⟩) n1 c1,.int .i64 (n1:Int),.bool true,.pointer (some ⟨q,0,none⟩),x68,.int .i64 (az:Int),.pointer (some ⟨q,0,none⟩),x71,x72,x73,.int .i64 (az:Int),.int .i64 ((az:Int) % 32),undef,undef,undef,.int .u8 rb,undef,undef,undef,undef,undef,undef,undef,undef,undef,undef,undef,undef,undef,undef,undef,undef,undef,undef,undef,undef,undef,undef,undef,undef,undef,undef,undef,undef,undef,undef,undef,undef,undef,undef,undef,undef,undef,undef,undef,undef,undef,undef,undef,undef,undef,undef,undef,undef,undef,undef,undef,undef,undef,undef,undef,undef],defers:=[] }/\Hid (Below wd.heap.size wd w')/\(d 1=true->x68 = .slice (some ⟨r,0,none⟩) n1 c1)/\(d 4=true->x71 = .slice (some ⟨r,0,none⟩) n1 c1)/\(d 5=true->x72 = .int .i64 (n1:Int))/\(d 6=true->x73 = .int .i64 (i:Int))) [1,4,5,6] ?step7 7 4 [1,4,5,6] _ _ _ rfl (by decide) (fun _ h=>h) (Fits.of (by kernel_rfl)) ?init7 ?fin7
   case init7=>refine ⟨_,_,_,_,rfl,Below.refl _ _,?_,?_,?_,?_⟩ <;> (intro h; exact absurd h (by decide))
   case step7 =>
    intro i hi d a v7 hI hdi hdeps
    obtain ⟨x68,x71,x72,x73,rfl,BW,h1,h4,h5,h6⟩:=hI
    have hsw:=BW.out.size
    simp only [List.mem_cons,List.not_mem_nil,or_false] at hi
    rcases hi with rfl | rfl | rfl | rfl
    ·have c0:v7.cell? ⟨q,0,none⟩=some (.slice (some ⟨r,0,none⟩) n1 c1):=(B8.out.below BW.out B8.out.lt).cell 0
     refine wpOp_step (o:=?os8) ?hos8 (fun K hK=>?_)
     case hos8=>simp only [zge]; rfl
     go_simp
     refine hK _ _ ?_
     clear hK K
     try simp only [zpt]
     exact ⟨_,_,_,_,rfl,BW,fun _=>rfl,fun a=>by first | exact h4 (by simpa using a) | rfl,fun a=>by first | exact h5 (by simpa using a) | rfl,fun a=>by first | exact h6 (by simpa using a) | rfl⟩
    ·have c0:v7.cell? ⟨q,0,none⟩=some (.slice (some ⟨r,0,none⟩) n1 c1):=(B8.out.below BW.out B8.out.lt).cell 0
     refine wpOp_step (o:=?os9) ?hos9 (fun K hK=>?_)
     case hos9=>simp only [zge]; rfl
     go_simp
     refine hK _ _ ?_
     clear hK K
     try simp only [zpt]
     exact ⟨_,_,_,_,rfl,BW,fun a=>by first | exact h1 (by simpa using a) | rfl,fun _=>rfl,fun a=>by first | exact h5 (by simpa using a) | rfl,fun a=>by first | exact h6 (by simpa using a) | rfl⟩
    ·obtain rfl:=h4 (hdeps 4 (by simp))
     refine wpOp_step (o:=?os10) ?hos10 (fun K hK=>?_)
     case hos10=>simp only [zge]; rfl
     go_simp
     refine hK _ _ ?_
     clear hK K
     try simp only [zpt]
     exact ⟨_,_,_,_,rfl,BW,fun a=>by first | exact h1 (by simpa using a) | rfl,fun a=>by first | exact h4 (by simpa using a) | rfl,fun _=>rfl,fun a=>by first | exact h6 (by simpa using a) | rfl⟩
    ·obtain rfl:=h5 (hdeps 5 (by simp))
     refine wpOp_step (o:=?os11) ?hos11 (fun K hK=>?_)
     case hos11=>simp only [zge]; rfl
     go_simp
     refine hK _ _ ?_
     clear hK K
     try simp only [zpt]
     exact ⟨_,_,_,_,rfl,BW,fun a=>by first | exact h1 (by simpa using a) | rfl,fun a=>by first | exact h4 (by simpa using a) | rfl,fun a=>by first | exact h5 (by simpa using a) | rfl,fun _=>rfl⟩
   case fin7 =>
    intro a v7 hI
    obtain ⟨x68,x71,x72,x73,rfl,BW,h1,h4,h5,h6⟩:=hI
    obtain rfl:=h1 (by decide)
    obtain rfl:=h4 (by decide)
    obtain rfl:=h5 (by decide)
    obtain rfl:=h6 (by decide)
    clear h1 h4 h5 h6
    have hX:=BW.out
    replace T:=Lib.hid (T.out.low hX)
    replace OW8:=Lib.hid (OW8.out.below hX)
    replace B8:=Lib.hid (B8.out.below hX B8.out.lt)
    replace BR:=Lib.hid (BR.out.below hX BR.out.lt)
    replace W:=Lib.hid (W.out.trans (hX.mono W.out.size))
    clear hX BW
    try dsimp only
    refine wpAny_take (i:=9) (oi:=?oi12) (v:=.pointer (some ⟨r,o,none⟩)) ?hi12 (by kernel_rfl) (by kernel_rfl) (by kernel_rfl) ?hQ12 ?hy12 ?rest12
    case hi12=>simp only [zge]; rfl
    case hQ12=>exact fun _ _ _ h=>h
    case hy12=>exact Or.inl ⟨by rfl,by intro w; go_simp <;> first | omega | exact Int.tmod_eq_emod_of_nonneg (by omega) | (rw [if_pos ⟨by omega,by omega⟩,show ((az:Int) % 32).toNat=az % 32 by omega])⟩
    try simp only [zpt]
    refine wpAny_take (i:=10) (oi:=?oi13) (v:=.pointer (some ⟨r,o + az % 32,none⟩)) ?hi13 (by kernel_rfl) (by kernel_rfl) (by kernel_rfl) ?hQ13 ?hy13 ?rest13
    case hi13=>simp only [zge]; rfl
    case hQ13=>exact fun _ _ _ h=>h
    case hy13=>exact Or.inl ⟨by rfl,by intro w; go_simp <;> first | omega | exact Int.tmod_eq_emod_of_nonneg (by omega) | (rw [if_pos ⟨by omega,by omega⟩,show ((az:Int) % 32).toNat=az % 32 by omega])⟩
    try simp only [zpt]
    refine wpAny_take (i:=14) (oi:=?oi14) (v:=.pointer (some ⟨r,o,none⟩)) ?hi14 (by kernel_rfl) (by kernel_rfl) (by kernel_rfl) ?hQ14 ?hy14 ?rest14
    case hi14=>simp only [zge]; rfl
    case hQ14=>exact fun _ _ _ h=>h
    case hy14=>exact Or.inl ⟨by rfl,by intro w; go_simp <;> first | omega | exact Int.tmod_eq_emod_of_nonneg (by omega) | (rw [if_pos ⟨by omega,by omega⟩,show ((az:Int) % 32).toNat=az % 32 by omega])⟩
    try simp only [zpt]
    refine wpAny_ready (rs:=[11]) (by kernel_rfl) (by simp) ?_
    refine AllReady.cons (o:=?p15) ?q15 (fun K hK=>?_) AllReady.nil
    case q15=>simp only [zge]; rfl
    have c0:v7.cell? ⟨r,o + az % 32,none⟩=some (.int .u8 (yb.toNat:Int)):=HYC.out _ OW8.out
    go_simp
    refine hK _ _ ?_
    clear hK K
    try simp only [zpt]
    refine wpAny_take (i:=13) (oi:=?oi16) (v:=.int .u8 (bits .xor .u8 (yb.toNat:Int) rb)) ?hi16 (by kernel_rfl) (by kernel_rfl) (by kernel_rfl) ?hQ16 ?hy16 ?rest16
    case hi16=>simp only [zge]; rfl
    case hQ16=>exact fun _ _ _ h=>h
    case hy16=>exact Or.inl ⟨by rfl,by intro w; go_simp <;> first | omega | exact Int.tmod_eq_emod_of_nonneg (by omega) | (rw [if_pos ⟨by omega,by omega⟩,show ((az:Int) % 32).toNat=az % 32 by omega])⟩
    try simp only [zpt]
    refine wpAny_take (i:=15) (oi:=?oi17) (v:=.pointer (some ⟨r,o + az % 32,none⟩)) ?hi17 (by kernel_rfl) (by kernel_rfl) (by kernel_rfl) ?hQ17 ?hy17 ?rest17
    case hi17=>simp only [zge]; rfl
    case hQ17=>exact fun _ _ _ h=>h
    case hy17=>exact Or.inl ⟨by rfl,by intro w; go_simp <;> first | omega | exact Int.tmod_eq_emod_of_nonneg (by omega) | (rw [if_pos ⟨by omega,by omega⟩,show ((az:Int) % 32).toNat=az % 32 by omega])⟩
    try simp only [zpt]
    have f0:v7.frozen? ⟨r,o + az % 32,none⟩=false:=BR.out.frozen _
    have c0:v7.cell? ⟨r,o + az % 32,none⟩=some (.int .u8 (yb.toNat:Int)):=HYC.out _ OW8.out
    refine wpAny_ready (rs:=[16]) (by kernel_rfl) (by simp) ?_
    refine AllReady.cons (o:=?p18) ?q18 (fun K hK=>?_) AllReady.nil
    case q18=>simp only [zge]; rfl
    go_simp
    refine hK _ _ ?_
    clear hK K f0 c0
    try simp only [zpt]
    refine wpAny_done (by kernel_rfl) ?_ _
    have OW9:Hid (Ow2 (v7.setCell ⟨r,o + az % 32,none⟩ (.int .u8 (bits .xor .u8 (yb.toNat:Int) rb))) w.heap.size 30 32 (.slice (some ⟨r,0,none⟩) n1 c1) (hashes sides')):=HOW.out _ OW8.out BR.out
    have B9':Hid (Blk (v7.setCell ⟨r,o + az % 32,none⟩ (.int .u8 (bits .xor .u8 (yb.toNat:Int) rb))) q 38 (proofL (.slice (some ⟨r,0,none⟩) n1 c1) P.has (P.lab.map cellOf) (P.sum.map cellOf))):=(Go.RowKit.Below.heap_setCell _ _ _ _ (blk_ne B8.out BR.out (by decide))).trans B8.out
    have T9':Hid (TreeAt (v7.setCell ⟨r,o + az % 32,none⟩ (.int .u8 (bits .xor .u8 (yb.toNat:Int) rb))) g l):=tree_cell T.out BR.out (by decide) (by decide) (by decide) _
    have W9':Hid (Below w.heap.size w (v7.setCell ⟨r,o + az % 32,none⟩ (.int .u8 (bits .xor .u8 (yb.toNat:Int) rb)))):=W.out.setCell hrw _
    generalize v7.setCell ⟨r,o + az % 32,none⟩ (.int .u8 (bits .xor .u8 (yb.toNat:Int) rb))=w8' at *
    clear T W OW8 B8 BR
    have T:=Lib.hid T9'.out
    have W:=Lib.hid W9'.out
    have OW8:=Lib.hid OW9.out
    have B8:=Lib.hid B9'.out
    have RW8:=Lib.hid OW8.out.rds.1
    go_upto_region 23 with (fail)
    have BQ9:Hid (Blk (w8') q 38 (proofL (.slice (some ⟨r,0,none⟩) n1 c1) P.has (P.lab.map cellOf) (P.sum.map cellOf))):=B8.out
    have PI9:Hid (PrfIn (w8') (.agg (proofL (.slice (some ⟨r,0,none⟩) n1 c1) P.has (P.lab.map cellOf) (P.sum.map cellOf)).toArray) ⟨sides',P.has,P.lab,P.sum⟩):=prf_make RW8.out (by omega) hlab hsum HSE.out
    have T9:Hid (TreeAt (w8') g l):=T.out
    have W9:Hid (Below w.heap.size w (w8')):=W.out
    generalize w8'=w9 at *
    clear T W
    have T:=Lib.hid T9.out
    have W:=Lib.hid W9.out
    obtain ⟨QQ,hQQ⟩:∃ L,L=proofL (.slice (some ⟨r,0,none⟩) n1 c1) P.has (P.lab.map cellOf) (P.sum.map cellOf):=⟨_,rfl⟩
    rw [<- hQQ] at BQ9 PI9
    have BQ:=Lib.hid BQ9.out
    have PI:=Lib.hid PI9.out
    clear T9 W9 BQ9 PI9 hQQ OW8 B8 RW8 eh
    have IQ:Hid ((Tryd.prog.info? 38).map (·.size)=some QQ.length):=by
     obtain ⟨A9,n9,c9,e9,_,_⟩:=PI.out.at_
     unfold Hid
     rw [show QQ=proofL (.slice A9 n9 c9) _ _ _ by injection e9 with e9; simpa using e9]
     exact proofL_info (by simpa using PI.out.lab) (by simpa using PI.out.sum)
    have hX:=(Below.refl w9.heap.size w9).drew
    replace T:=Lib.hid (T.out.low hX)
    replace BQ:=Lib.hid (BQ.out.below hX BQ.out.lt)
    replace PI:=Lib.hid (PI.out.below hX)
    replace W:=Lib.hid (W.out.trans (hX.mono W.out.size))
    clear hX
    refine wp_region_any (by kernel_rfl) ?_
    change wpAny _ _ _ _ _ _ _ (World.drew _)
    generalize w9.drew=wd at *
    refine wpAny_take (i:=0) (oi:=?oi19) (v:=.pointer (some ⟨g,0,none⟩)) ?hi19 (by kernel_rfl) (by kernel_rfl) (by kernel_rfl) ?hQ19 ?hy19 ?rest19
    case hi19=>simp only [zge]; rfl
    case hQ19=>exact fun _ _ _ h=>h
    case hy19=>exact Or.inl ⟨by rfl,by intro w; go_simp <;> first | omega | exact Int.tmod_eq_emod_of_nonneg (by omega) | (rw [if_pos ⟨by omega,by omega⟩,show ((az:Int) % 32).toNat=az % 32 by omega])⟩
    try simp only [zpt]
    refine wpAny_take (i:=2) (oi:=?oi20) (v:=.int .i64 k) ?hi20 (by kernel_rfl) (by kernel_rfl) (by kernel_rfl) ?hQ20 ?hy20 ?rest20
    case hi20=>simp only [zge]; rfl
    case hQ20=>exact fun _ _ _ h=>h
    case hy20=>exact Or.inl ⟨by rfl,by intro w; go_simp <;> first | omega | exact Int.tmod_eq_emod_of_nonneg (by omega) | (rw [if_pos ⟨by omega,by omega⟩,show ((az:Int) % 32).toNat=az % 32 by omega])⟩
    try simp only [zpt]
    refine phaseL (fun i=>if i=3 then [1] else if i=4 then [3] else if i=6 then [1,3,4,5] else []) (fun d a w'=>∃ x121 x123 x124 x125 x126:Value,a={ tmps:=#[.slice A n c,.slice A' n' c',.int .i64 k,.int .i64 other,.int .i64 how,.int .i64 (az:Int),.int .u8 rb,undef,undef,undef,undef,undef,undef,undef,.bool false,.bool true,.pointer (some ⟨g,0,none⟩),.slice AL nl cl,.bool true,.pointer (some ⟨q,0,none⟩),.bool true,.bool true,.bool false,.tuple #[.pointer (some ⟨g,0,none⟩),.slice AL nl cl,.bool true],.slice A n c,.slice A' n' c',.tuple #[.pointer (some ⟨g,0,none⟩),.slice AL nl cl,.bool true],.pointer (some ⟨g,0,none⟩),.slice AL nl cl,.bool true,.bool true,.bool false,.bool false,.int .i64 (az:Int),.bool (decide ((az:Int) < 0)),.bool (decide ((az:Int) < 0)),undef,.pointer (some ⟨g,0,none⟩),.int .i64 k,.agg NC.toArray,.agg (proofL (.slice A0 n0 c0') P.has (List.map cellOf P.lab) (List.map cellOf P.sum)).toArray,.pointer (some ⟨q,0,none⟩),.slice A0 n0 c0',.slice (some ⟨r,0,none⟩) n1 c1,.pointer (some ⟨q,0,none⟩),.int .i64 how,.int .i64 (how.tmod 6),.int .i64 (how.tmod 6 + 6),.int .i64 0,undef,undef,undef,undef,undef,undef,undef,undef,undef,undef,undef,undef,.bool true,.bool true,.pointer (some ⟨q,0,none⟩),.slice (some ⟨r,0,none⟩) n1 c1,.int .i64 (n1:Int),.bool true,.pointer (some ⟨q,0,none⟩),.slice (some ⟨r,0,none⟩) n1 c1,.int .i64 (az:Int),.pointer (some ⟨q,0,none⟩),.slice (some ⟨r,0,none⟩) n1 c1,.int .i64 (n1:Int),.int .i64 (i:Int),.int .i64 (az:Int),.int .i64 ((az:Int) % 32),.pointer (some ⟨r,o,none⟩),.pointer (some ⟨r,o + az % 32,none⟩),.int .u8 (yb.toNat:Int),.int .u8 rb,.int .u8 (bits .xor .u8 (yb.toNat:Int) rb),.pointer (some ⟨r,o,none⟩),.pointer (some ⟨r,o + az % 32,none⟩),undef,undef,undef,undef,undef,undef,undef,undef,undef,undef,undef,undef,undef,undef,undef,undef,undef,undef,undef,undef,undef,undef,undef,undef,undef,undef,undef,undef,undef,undef,undef,undef,undef,undef,undef,undef,undef,.pointer (some ⟨g,0,none⟩),x121,.int .i64 k,x123,x124,x125,x126,undef,undef,undef,undef,undef,undef,undef,undef,undef],defers:=[] }/\Hid (Below wd.heap.size wd w')/\(d 1=true->x121 = .agg RC.toArray)/\(d 3=true->x123 = .agg NC.toArray)/\(d 4=true->x124 = .agg SC.toArray)/\(d 5=true->x125 = .agg QQ.toArray)/\(d 6=true->x126 = .bool true)) [1,3,4,5,6] ?step21 10 5 [1,3,4,5,6] _ _ _ rfl (by decide) (fun _ h=>h) (Fits.of (by kernel_rfl)) ?init21 ?fin21
    case init21=>refine ⟨_,_,_,_,_,rfl,Below.refl _ _,?_,?_,?_,?_,?_⟩ <;> (intro h; exact absurd h (by decide))
    case step21 =>
     intro i hi d a v21 hI hdi hdeps
     obtain ⟨x121,x123,x124,x125,x126,rfl,BW,h1,h3,h4,h5,h6⟩:=hI
     have hsw:=BW.out.size
     simp only [List.mem_cons,List.not_mem_nil,or_false] at hi
     rcases hi with rfl | rfl | rfl | rfl | rfl
     ·refine wpOp_step (o:=?os22) ?hos22 (fun K hK=>?_)
      case hos22=>simp only [zge]; rfl
      go_simp
      refine (CR.out v21 (T.out.low BW.out)).mono ?_
      rintro e u21 ⟨rfl,hX⟩
      refine hK _ _ ?_
      clear hK K
      try simp only [zpt]
      exact ⟨_,_,_,_,_,rfl,BW.out.trans (hX.mono hsw),fun _=>rfl,fun a=>by first | exact h3 (by simpa using a) | rfl,fun a=>by first | exact h4 (by simpa using a) | rfl,fun a=>by first | exact h5 (by simpa using a) | rfl,fun a=>by first | exact h6 (by simpa using a) | rfl⟩
     ·refine wpOp_step (o:=?os23) ?hos23 (fun K hK=>?_)
      case hos23=>simp only [zge]; rfl
      go_simp
      refine (CN.out v21 ).mono ?_
      rintro e u21 ⟨rfl,hX⟩
      refine hK _ _ ?_
      clear hK K
      try simp only [zpt]
      exact ⟨_,_,_,_,_,rfl,BW.out.trans (hX.mono hsw),fun a=>by first | exact h1 (by simpa using a) | rfl,fun _=>rfl,fun a=>by first | exact h4 (by simpa using a) | rfl,fun a=>by first | exact h5 (by simpa using a) | rfl,fun a=>by first | exact h6 (by simpa using a) | rfl⟩
     ·refine wpOp_step (o:=?os24) ?hos24 (fun K hK=>?_)
      case hos24=>simp only [zge]; rfl
      go_simp
      refine (C3.out v21 ).mono ?_
      rintro e u21 ⟨rfl,hX⟩
      refine hK _ _ ?_
      clear hK K
      try simp only [zpt]
      exact ⟨_,_,_,_,_,rfl,BW.out.trans (hX.mono hsw),fun a=>by first | exact h1 (by simpa using a) | rfl,fun a=>by first | exact h3 (by simpa using a) | rfl,fun _=>rfl,fun a=>by first | exact h5 (by simpa using a) | rfl,fun a=>by first | exact h6 (by simpa using a) | rfl⟩
     ·refine wpOp_step (o:=?os25) ?hos25 (fun K hK=>?_)
      case hos25=>simp only [zge]; rfl
      refine step_loadW rfl 38 (.tmp 19) rfl q 0 rfl QQ _ Tryd.underlying38 rfl IQ.out (BQ.out.below BW.out BQ.out.lt).cells (hK _ _ ?_)
      clear hK K
      try simp only [zpt]
      exact ⟨_,_,_,_,_,rfl,BW,fun a=>by first | exact h1 (by simpa using a) | rfl,fun a=>by first | exact h3 (by simpa using a) | rfl,fun a=>by first | exact h4 (by simpa using a) | rfl,fun _=>rfl,fun a=>by first | exact h6 (by simpa using a) | rfl⟩
     ·obtain rfl:=h1 (hdeps 1 (by simp))
      obtain rfl:=h3 (hdeps 3 (by simp))
      obtain rfl:=h4 (hdeps 4 (by simp))
      obtain rfl:=h5 (hdeps 5 (by simp))
      refine wpOp_step (o:=?os26) ?hos26 (fun K hK=>?_)
      case hos26=>simp only [zge]; rfl
      go_simp
      refine (CA.out v21 _ _ (W.out.trans (BW.out.mono W.out.size)) (PI.out.below BW.out)).mono ?_
      rintro e u21 ⟨rfl,hX⟩
      refine hK _ _ ?_
      clear hK K
      try simp only [zpt]
      exact ⟨_,_,_,_,_,rfl,BW.out.trans (hX.mono hsw),fun a=>by first | exact h1 (by simpa using a) | rfl,fun a=>by first | exact h3 (by simpa using a) | rfl,fun a=>by first | exact h4 (by simpa using a) | rfl,fun a=>by first | exact h5 (by simpa using a) | rfl,fun _=>rfl⟩
    case fin21 =>
     intro a v21 hI
     obtain ⟨x121,x123,x124,x125,x126,rfl,BW,h1,h3,h4,h5,h6⟩:=hI
     obtain rfl:=h1 (by decide)
     obtain rfl:=h3 (by decide)
     obtain rfl:=h4 (by decide)
     obtain rfl:=h5 (by decide)
     obtain rfl:=h6 (by decide)
     clear h1 h3 h4 h5 h6
     have hX:=BW.out
     replace T:=Lib.hid (T.out.low hX)
     replace BQ:=Lib.hid (BQ.out.below hX BQ.out.lt)
     replace PI:=Lib.hid (PI.out.below hX)
     replace W:=Lib.hid (W.out.trans (hX.mono W.out.size))
     clear hX BW
     try dsimp only
     refine wpAny_take (i:=7) (oi:=?oi27) (v:=.bool true) ?hi27 (by kernel_rfl) (by kernel_rfl) (by kernel_rfl) ?hQ27 ?hy27 ?rest27
     case hi27=>simp only [zge]; rfl
     case hQ27=>exact fun _ _ _ h=>h
     case hy27=>exact Or.inl ⟨by rfl,by intro w; go_simp <;> first | omega | exact Int.tmod_eq_emod_of_nonneg (by omega) | (rw [if_pos ⟨by omega,by omega⟩,show ((az:Int) % 32).toNat=az % 32 by omega])⟩
     try simp only [zpt]
     refine wpAny_take (i:=8) (oi:=?oi28) (v:=.pointer (some ⟨g,0,none⟩)) ?hi28 (by kernel_rfl) (by kernel_rfl) (by kernel_rfl) ?hQ28 ?hy28 ?rest28
     case hi28=>simp only [zge]; rfl
     case hQ28=>exact fun _ _ _ h=>h
     case hy28=>exact Or.inl ⟨by rfl,by intro w; go_simp <;> first | omega | exact Int.tmod_eq_emod_of_nonneg (by omega) | (rw [if_pos ⟨by omega,by omega⟩,show ((az:Int) % 32).toNat=az % 32 by omega])⟩
     try simp only [zpt]
     refine wpAny_take (i:=10) (oi:=?oi29) (v:=.int .i64 other) ?hi29 (by kernel_rfl) (by kernel_rfl) (by kernel_rfl) ?hQ29 ?hy29 ?rest29
     case hi29=>simp only [zge]; rfl
     case hQ29=>exact fun _ _ _ h=>h
     case hy29=>exact Or.inl ⟨by rfl,by intro w; go_simp <;> first | omega | exact Int.tmod_eq_emod_of_nonneg (by omega) | (rw [if_pos ⟨by omega,by omega⟩,show ((az:Int) % 32).toNat=az % 32 by omega])⟩
     try simp only [zpt]
     refine phaseL (fun i=>if i=11 then [9] else if i=12 then [11] else if i=14 then [9,11,12,13] else []) (fun d a w'=>∃ x129 x131 x132 x133 x134:Value,a={ tmps:=#[.slice A n c,.slice A' n' c',.int .i64 k,.int .i64 other,.int .i64 how,.int .i64 (az:Int),.int .u8 rb,undef,undef,undef,undef,undef,undef,undef,.bool false,.bool true,.pointer (some ⟨g,0,none⟩),.slice AL nl cl,.bool true,.pointer (some ⟨q,0,none⟩),.bool true,.bool true,.bool false,.tuple #[.pointer (some ⟨g,0,none⟩),.slice AL nl cl,.bool true],.slice A n c,.slice A' n' c',.tuple #[.pointer (some ⟨g,0,none⟩),.slice AL nl cl,.bool true],.pointer (some ⟨g,0,none⟩),.slice AL nl cl,.bool true,.bool true,.bool false,.bool false,.int .i64 (az:Int),.bool (decide ((az:Int) < 0)),.bool (decide ((az:Int) < 0)),undef,.pointer (some ⟨g,0,none⟩),.int .i64 k,.agg NC.toArray,.agg (proofL (.slice A0 n0 c0') P.has (List.map cellOf P.lab) (List.map cellOf P.sum)).toArray,.pointer (some ⟨q,0,none⟩),.slice A0 n0 c0',.slice (some ⟨r,0,none⟩) n1 c1,.pointer (some ⟨q,0,none⟩),.int .i64 how,.int .i64 (how.tmod 6),.int .i64 (how.tmod 6 + 6),.int .i64 0,undef,undef,undef,undef,undef,undef,undef,undef,undef,undef,undef,undef,.bool true,.bool true,.pointer (some ⟨q,0,none⟩),.slice (some ⟨r,0,none⟩) n1 c1,.int .i64 (n1:Int),.bool true,.pointer (some ⟨q,0,none⟩),.slice (some ⟨r,0,none⟩) n1 c1,.int .i64 (az:Int),.pointer (some ⟨q,0,none⟩),.slice (some ⟨r,0,none⟩) n1 c1,.int .i64 (n1:Int),.int .i64 (i:Int),.int .i64 (az:Int),.int .i64 ((az:Int) % 32),.pointer (some ⟨r,o,none⟩),.pointer (some ⟨r,o + az % 32,none⟩),.int .u8 (yb.toNat:Int),.int .u8 rb,.int .u8 (bits .xor .u8 (yb.toNat:Int) rb),.pointer (some ⟨r,o,none⟩),.pointer (some ⟨r,o + az % 32,none⟩),undef,undef,undef,undef,undef,undef,undef,undef,undef,undef,undef,undef,undef,undef,undef,undef,undef,undef,undef,undef,undef,undef,undef,undef,undef,undef,undef,undef,undef,undef,undef,undef,undef,undef,undef,undef,undef,.pointer (some ⟨g,0,none⟩),.agg RC.toArray,.int .i64 k,.agg NC.toArray,.agg SC.toArray,.agg QQ.toArray,.bool true,.bool true,.pointer (some ⟨g,0,none⟩),x129,.int .i64 other,x131,x132,x133,x134,undef],defers:=[] }/\Hid (Below v21.heap.size v21 w')/\(d 9=true->x129 = .agg RC.toArray)/\(d 11=true->x131 = .agg OC.toArray)/\(d 12=true->x132 = .agg SC.toArray)/\(d 13=true->x133 = .agg QQ.toArray)/\(d 14=true->x134 = .bool true)) [9,11,12,13,14] ?step30 2 5 [9,11,12,13,14] _ _ _ rfl (by decide) (fun _ h=>h) (Fits.of (by kernel_rfl)) ?init30 ?fin30
     case init30=>refine ⟨_,_,_,_,_,rfl,Below.refl _ _,?_,?_,?_,?_,?_⟩ <;> (intro h; exact absurd h (by decide))
     case step30 =>
      intro i hi d a v30 hI hdi hdeps
      obtain ⟨x129,x131,x132,x133,x134,rfl,BW,h9,h11,h12,h13,h14⟩:=hI
      have hsw:=BW.out.size
      simp only [List.mem_cons,List.not_mem_nil,or_false] at hi
      rcases hi with rfl | rfl | rfl | rfl | rfl
      ·refine wpOp_step (o:=?os31) ?hos31 (fun K hK=>?_)
       case hos31=>simp only [zge]; rfl
       go_simp
       refine (CR.out v30 (T.out.low BW.out)).mono ?_
       rintro e u30 ⟨rfl,hX⟩
       refine hK _ _ ?_
       clear hK K
       try simp only [zpt]
       exact ⟨_,_,_,_,_,rfl,BW.out.trans (hX.mono hsw),fun _=>rfl,fun a=>by first | exact h11 (by simpa using a) | rfl,fun a=>by first | exact h12 (by simpa using a) | rfl,fun a=>by first | exact h13 (by simpa using a) | rfl,fun a=>by first | exact h14 (by simpa using a) | rfl⟩
      ·refine wpOp_step (o:=?os32) ?hos32 (fun K hK=>?_)
       case hos32=>simp only [zge]; rfl
       go_simp
       refine (CO.out v30 ).mono ?_
       rintro e u30 ⟨rfl,hX⟩
       refine hK _ _ ?_
       clear hK K
       try simp only [zpt]
       exact ⟨_,_,_,_,_,rfl,BW.out.trans (hX.mono hsw),fun a=>by first | exact h9 (by simpa using a) | rfl,fun _=>rfl,fun a=>by first | exact h12 (by simpa using a) | rfl,fun a=>by first | exact h13 (by simpa using a) | rfl,fun a=>by first | exact h14 (by simpa using a) | rfl⟩
      ·refine wpOp_step (o:=?os33) ?hos33 (fun K hK=>?_)
       case hos33=>simp only [zge]; rfl
       go_simp
       refine (C3.out v30 ).mono ?_
       rintro e u30 ⟨rfl,hX⟩
       refine hK _ _ ?_
       clear hK K
       try simp only [zpt]
       exact ⟨_,_,_,_,_,rfl,BW.out.trans (hX.mono hsw),fun a=>by first | exact h9 (by simpa using a) | rfl,fun a=>by first | exact h11 (by simpa using a) | rfl,fun _=>rfl,fun a=>by first | exact h13 (by simpa using a) | rfl,fun a=>by first | exact h14 (by simpa using a) | rfl⟩
      ·refine wpOp_step (o:=?os34) ?hos34 (fun K hK=>?_)
       case hos34=>simp only [zge]; rfl
       refine step_loadW (by kernel_rfl) 38 (.tmp 19) rfl q 0 rfl QQ _ Tryd.underlying38 rfl IQ.out (BQ.out.below BW.out BQ.out.lt |>.cells) (hK _ _ ?_)
       clear hK K
       try simp only [zpt]
       exact ⟨_,_,_,_,_,rfl,BW,fun a=>by first | exact h9 (by simpa using a) | rfl,fun a=>by first | exact h11 (by simpa using a) | rfl,fun a=>by first | exact h12 (by simpa using a) | rfl,fun _=>rfl,fun a=>by first | exact h14 (by simpa using a) | rfl⟩
      ·obtain rfl:=h9 (hdeps 9 (by simp))
       obtain rfl:=h11 (hdeps 11 (by simp))
       obtain rfl:=h12 (hdeps 12 (by simp))
       obtain rfl:=h13 (hdeps 13 (by simp))
       refine wpOp_step (o:=?os35) ?hos35 (fun K hK=>?_)
       case hos35=>simp only [zge]; rfl
       go_simp
       refine (CB.out v30 _ _ (W.out.trans (BW.out.mono W.out.size)) (PI.out.below BW.out)).mono ?_
       rintro e u30 ⟨rfl,hX⟩
       refine hK _ _ ?_
       clear hK K
       try simp only [zpt]
       exact ⟨_,_,_,_,_,rfl,BW.out.trans (hX.mono hsw),fun a=>by first | exact h9 (by simpa using a) | rfl,fun a=>by first | exact h11 (by simpa using a) | rfl,fun a=>by first | exact h12 (by simpa using a) | rfl,fun a=>by first | exact h13 (by simpa using a) | rfl,fun _=>rfl⟩
     case fin30 =>
      intro a v30 hI
      obtain ⟨x129,x131,x132,x133,x134,rfl,BW,h9,h11,h12,h13,h14⟩:=hI
      obtain rfl:=h9 (by decide)
      obtain rfl:=h11 (by decide)
      obtain rfl:=h12 (by decide)
      obtain rfl:=h13 (by decide)
      obtain rfl:=h14 (by decide)
      clear h9 h11 h12 h13 h14
      have hX:=BW.out
      replace T:=Lib.hid (T.out.low hX)
      replace BQ:=Lib.hid (BQ.out.below hX BQ.out.lt)
      replace PI:=Lib.hid (PI.out.below hX)
      replace W:=Lib.hid (W.out.trans (hX.mono W.out.size))
      clear hX BW
      try dsimp only
      refine wpAny_take (i:=15) (oi:=?oi36) (v:=.bool true) ?hi36 (by kernel_rfl) (by kernel_rfl) (by kernel_rfl) ?hQ36 ?hy36 ?rest36
      case hi36=>simp only [zge]; rfl
      case hQ36=>exact fun _ _ _ h=>h
      case hy36=>exact Or.inl ⟨by rfl,by intro w; go_simp <;> first | omega | exact Int.tmod_eq_emod_of_nonneg (by omega) | (rw [if_pos ⟨by omega,by omega⟩,show ((az:Int) % 32).toNat=az % 32 by omega])⟩
      try simp only [zpt]
      refine wpAny_take (i:=16) (oi:=?oi37) (v:=.bool true) ?hi37 (by kernel_rfl) (by kernel_rfl) (by kernel_rfl) ?hQ37 ?hy37 ?rest37
      case hi37=>simp only [zge]; rfl
      case hQ37=>exact fun _ _ _ h=>h
      case hy37=>exact Or.inl ⟨by rfl,by intro w; go_simp <;> first | omega | exact Int.tmod_eq_emod_of_nonneg (by omega) | (rw [if_pos ⟨by omega,by omega⟩,show ((az:Int) % 32).toNat=az % 32 by omega])⟩
      try simp only [zpt]
      refine wpAny_done (by kernel_rfl) ?_ _
      go_wp2_with fail
      go_ret
      exact ⟨rfl,W.out⟩
  ·have d0:decide ((0:Int) < (n1:Int))=false:=decide_eq_false (by omega)
   go_upto_region 23 with (fail)
   clear c8 f8 hmw d0
   have BQ9:Hid (Blk (w8) q 38 (proofL (.slice A1 n1 c1) P.has (P.lab.map cellOf) (P.sum.map cellOf))):=B8.out
   have PI9:Hid (PrfIn (w8) (.agg (proofL (.slice A1 n1 c1) P.has (P.lab.map cellOf) (P.sum.map cellOf)).toArray) ⟨P.sides,P.has,P.lab,P.sum⟩):=prf_make RW8.out (by omega) hlab hsum HPE.out
   have T9:Hid (TreeAt (w8) g l):=T.out
   have W9:Hid (Below w.heap.size w (w8)):=W.out
   generalize w8=w9 at *
   clear T W
   have T:=Lib.hid T9.out
   have W:=Lib.hid W9.out
   obtain ⟨QQ,hQQ⟩:∃ L,L=proofL (.slice A1 n1 c1) P.has (P.lab.map cellOf) (P.sum.map cellOf):=⟨_,rfl⟩
   rw [<- hQQ] at BQ9 PI9
   have BQ:=Lib.hid BQ9.out
   have PI:=Lib.hid PI9.out
   clear T9 W9 BQ9 PI9 hQQ OW8 B8 RW8 eh
   have IQ:Hid ((Tryd.prog.info? 38).map (·.size)=some QQ.length):=by
    obtain ⟨A9,n9,c9,e9,_,_⟩:=PI.out.at_
    unfold Hid
    rw [show QQ=proofL (.slice A9 n9 c9) _ _ _ by injection e9 with e9; simpa using e9]
    exact proofL_info (by simpa using PI.out.lab) (by simpa using PI.out.sum)
   have hX:=(Below.refl w9.heap.size w9).drew
   replace T:=Lib.hid (T.out.low hX)
   replace BQ:=Lib.hid (BQ.out.below hX BQ.out.lt)
   replace PI:=Lib.hid (PI.out.below hX)
   replace W:=Lib.hid (W.out.trans (hX.mono W.out.size))
   clear hX
   refine wp_region_any (by kernel_rfl) ?_
   change wpAny _ _ _ _ _ _ _ (World.drew _)
   generalize w9.drew=wd at *
   refine wpAny_take (i:=0) (oi:=?oi38) (v:=.pointer (some ⟨g,0,none⟩)) ?hi38 (by kernel_rfl) (by kernel_rfl) (by kernel_rfl) ?hQ38 ?hy38 ?rest38
   case hi38=>simp only [zge]; rfl
   case hQ38=>exact fun _ _ _ h=>h
   case hy38=>exact Or.inl ⟨by rfl,by intro w; go_simp⟩
   try simp only [zpt]
   refine wpAny_take (i:=2) (oi:=?oi39) (v:=.int .i64 k) ?hi39 (by kernel_rfl) (by kernel_rfl) (by kernel_rfl) ?hQ39 ?hy39 ?rest39
   case hi39=>simp only [zge]; rfl
   case hQ39=>exact fun _ _ _ h=>h
   case hy39=>exact Or.inl ⟨by rfl,by intro w; go_simp⟩
   try simp only [zpt]
   refine phaseL (fun i=>if i=3 then [1] else if i=4 then [3] else if i=6 then [1,3,4,5] else []) (fun d a w'=>∃ x121 x123 x124 x125 x126:Value,a={ tmps:=#[.slice A n c,.slice A' n' c',.int .i64 k,.int .i64 other,.int .i64 how,.int .i64 (az:Int),.int .u8 rb,undef,undef,undef,undef,undef,undef,undef,.bool false,.bool true,.pointer (some ⟨g,0,none⟩),.slice AL nl cl,.bool true,.pointer (some ⟨q,0,none⟩),.bool true,.bool true,.bool false,.tuple #[.pointer (some ⟨g,0,none⟩),.slice AL nl cl,.bool true],.slice A n c,.slice A' n' c',.tuple #[.pointer (some ⟨g,0,none⟩),.slice AL nl cl,.bool true],.pointer (some ⟨g,0,none⟩),.slice AL nl cl,.bool true,.bool true,.bool false,.bool false,.int .i64 (az:Int),.bool (decide ((az:Int) < 0)),.bool (decide ((az:Int) < 0)),undef,.pointer (some ⟨g,0,none⟩),.int .i64 k,.agg NC.toArray,.agg (proofL (.slice A0 n0 c0') P.has (List.map cellOf P.lab) (List.map cellOf P.sum)).toArray,.pointer (some ⟨q,0,none⟩),.slice A0 n0 c0',.slice A1 n1 c1,.pointer (some ⟨q,0,none⟩),.int .i64 how,.int .i64 (how.tmod 6),.int .i64 (how.tmod 6 + 6),.int .i64 0,undef,undef,undef,undef,undef,undef,undef,undef,undef,undef,undef,undef,.bool true,.bool true,.pointer (some ⟨q,0,none⟩),.slice A1 n1 c1,.int .i64 (n1:Int),.bool false,undef,undef,undef,undef,undef,undef,undef,undef,undef,undef,undef,undef,undef,undef,undef,undef,undef,undef,undef,undef,undef,undef,undef,undef,undef,undef,undef,undef,undef,undef,undef,undef,undef,undef,undef,undef,undef,undef,undef,undef,undef,undef,undef,undef,undef,undef,undef,undef,undef,undef,undef,undef,undef,.pointer (some ⟨g,0,none⟩),x121,.int .i64 k,x123,x124,x125,x126,undef,undef,undef,undef,undef,undef,undef,undef,undef],defers:=[] }/\Hid (Below wd.heap.size wd w')/\(d 1=true->x121 = .agg RC.toArray)/\(d 3=true->x123 = .agg NC.toArray)/\(d 4=true->x124 = .agg SC.toArray)/\(d 5=true->x125 = .agg QQ.toArray)/\(d 6=true->x126 = .bool true)) [1,3,4,5,6] ?step40 10 5 [1,3,4,5,6] _ _ _ rfl (by decide) (fun _ h=>h) (Fits.of (by kernel_rfl)) ?init40 ?fin40
   case init40=>refine ⟨_,_,_,_,_,rfl,Below.refl _ _,?_,?_,?_,?_,?_⟩ <;> (intro h; exact absurd h (by decide))
   case step40 =>
    intro i hi d a v40 hI hdi hdeps
    obtain ⟨x121,x123,x124,x125,x126,rfl,BW,h1,h3,h4,h5,h6⟩:=hI
    have hsw:=BW.out.size
    simp only [List.mem_cons,List.not_mem_nil,or_false] at hi
    rcases hi with rfl | rfl | rfl | rfl | rfl
    ·refine wpOp_step (o:=?os41) ?hos41 (fun K hK=>?_)
     case hos41=>simp only [zge]; rfl
     go_simp
     refine (CR.out v40 (T.out.low BW.out)).mono ?_
     rintro e u40 ⟨rfl,hX⟩
     refine hK _ _ ?_
     clear hK K
     try simp only [zpt]
     exact ⟨_,_,_,_,_,rfl,BW.out.trans (hX.mono hsw),fun _=>rfl,fun a=>by first | exact h3 (by simpa using a) | rfl,fun a=>by first | exact h4 (by simpa using a) | rfl,fun a=>by first | exact h5 (by simpa using a) | rfl,fun a=>by first | exact h6 (by simpa using a) | rfl⟩
    ·refine wpOp_step (o:=?os42) ?hos42 (fun K hK=>?_)
     case hos42=>simp only [zge]; rfl
     go_simp
     refine (CN.out v40 ).mono ?_
     rintro e u40 ⟨rfl,hX⟩
     refine hK _ _ ?_
     clear hK K
     try simp only [zpt]
     exact ⟨_,_,_,_,_,rfl,BW.out.trans (hX.mono hsw),fun a=>by first | exact h1 (by simpa using a) | rfl,fun _=>rfl,fun a=>by first | exact h4 (by simpa using a) | rfl,fun a=>by first | exact h5 (by simpa using a) | rfl,fun a=>by first | exact h6 (by simpa using a) | rfl⟩
    ·refine wpOp_step (o:=?os43) ?hos43 (fun K hK=>?_)
     case hos43=>simp only [zge]; rfl
     go_simp
     refine (C3.out v40 ).mono ?_
     rintro e u40 ⟨rfl,hX⟩
     refine hK _ _ ?_
     clear hK K
     try simp only [zpt]
     exact ⟨_,_,_,_,_,rfl,BW.out.trans (hX.mono hsw),fun a=>by first | exact h1 (by simpa using a) | rfl,fun a=>by first | exact h3 (by simpa using a) | rfl,fun _=>rfl,fun a=>by first | exact h5 (by simpa using a) | rfl,fun a=>by first | exact h6 (by simpa using a) | rfl⟩
    ·refine wpOp_step (o:=?os44) ?hos44 (fun K hK=>?_)
     case hos44=>simp only [zge]; rfl
     refine step_loadW rfl 38 (.tmp 19) rfl q 0 rfl QQ _ Tryd.underlying38 rfl IQ.out (BQ.out.below BW.out BQ.out.lt).cells (hK _ _ ?_)
     clear hK K
     try simp only [zpt]
     exact ⟨_,_,_,_,_,rfl,BW,fun a=>by first | exact h1 (by simpa using a) | rfl,fun a=>by first | exact h3 (by simpa using a) | rfl,fun a=>by first | exact h4 (by simpa using a) | rfl,fun _=>rfl,fun a=>by first | exact h6 (by simpa using a) | rfl⟩
    ·obtain rfl:=h1 (hdeps 1 (by simp))
     obtain rfl:=h3 (hdeps 3 (by simp))
     obtain rfl:=h4 (hdeps 4 (by simp))
     obtain rfl:=h5 (hdeps 5 (by simp))
     refine wpOp_step (o:=?os45) ?hos45 (fun K hK=>?_)
     case hos45=>simp only [zge]; rfl
     go_simp
     refine (CA.out v40 _ _ (W.out.trans (BW.out.mono W.out.size)) (PI.out.below BW.out)).mono ?_
     rintro e u40 ⟨rfl,hX⟩
     refine hK _ _ ?_
     clear hK K
     try simp only [zpt]
     exact ⟨_,_,_,_,_,rfl,BW.out.trans (hX.mono hsw),fun a=>by first | exact h1 (by simpa using a) | rfl,fun a=>by first | exact h3 (by simpa using a) | rfl,fun a=>by first | exact h4 (by simpa using a) | rfl,fun a=>by first | exact h5 (by simpa using a) | rfl,fun _=>rfl⟩
   case fin40 =>
    intro a v40 hI
    obtain ⟨x121,x123,x124,x125,x126,rfl,BW,h1,h3,h4,h5,h6⟩:=hI
    obtain rfl:=h1 (by decide)
    obtain rfl:=h3 (by decide)
    obtain rfl:=h4 (by decide)
    obtain rfl:=h5 (by decide)
    obtain rfl:=h6 (by decide)
    clear h1 h3 h4 h5 h6
    have hX:=BW.out
    replace T:=Lib.hid (T.out.low hX)
    replace BQ:=Lib.hid (BQ.out.below hX BQ.out.lt)
    replace PI:=Lib.hid (PI.out.below hX)
    replace W:=Lib.hid (W.out.trans (hX.mono W.out.size))
    clear hX BW
    try dsimp only
    refine wpAny_take (i:=7) (oi:=?oi46) (v:=.bool true) ?hi46 (by kernel_rfl) (by kernel_rfl) (by kernel_rfl) ?hQ46 ?hy46 ?rest46
    case hi46=>simp only [zge]; rfl
    case hQ46=>exact fun _ _ _ h=>h
    case hy46=>exact Or.inl ⟨by rfl,by intro w; go_simp⟩
    try simp only [zpt]
    refine wpAny_take (i:=8) (oi:=?oi47) (v:=.pointer (some ⟨g,0,none⟩)) ?hi47 (by kernel_rfl) (by kernel_rfl) (by kernel_rfl) ?hQ47 ?hy47 ?rest47
    case hi47=>simp only [zge]; rfl
    case hQ47=>exact fun _ _ _ h=>h
    case hy47=>exact Or.inl ⟨by rfl,by intro w; go_simp⟩
    try simp only [zpt]
    refine wpAny_take (i:=10) (oi:=?oi48) (v:=.int .i64 other) ?hi48 (by kernel_rfl) (by kernel_rfl) (by kernel_rfl) ?hQ48 ?hy48 ?rest48
    case hi48=>simp only [zge]; rfl
    case hQ48=>exact fun _ _ _ h=>h
    case hy48=>exact Or.inl ⟨by rfl,by intro w; go_simp⟩
    try simp only [zpt]
    refine phaseL (fun i=>if i=11 then [9] else if i=12 then [11] else if i=14 then [9,11,12,13] else []) (fun d a w'=>∃ x129 x131 x132 x133 x134:Value,a={ tmps:=#[.slice A n c,.slice A' n' c',.int .i64 k,.int .i64 other,.int .i64 how,.int .i64 (az:Int),.int .u8 rb,undef,undef,undef,undef,undef,undef,undef,.bool false,.bool true,.pointer (some ⟨g,0,none⟩),.slice AL nl cl,.bool true,.pointer (some ⟨q,0,none⟩),.bool true,.bool true,.bool false,.tuple #[.pointer (some ⟨g,0,none⟩),.slice AL nl cl,.bool true],.slice A n c,.slice A' n' c',.tuple #[.pointer (some ⟨g,0,none⟩),.slice AL nl cl,.bool true],.pointer (some ⟨g,0,none⟩),.slice AL nl cl,.bool true,.bool true,.bool false,.bool false,.int .i64 (az:Int),.bool (decide ((az:Int) < 0)),.bool (decide ((az:Int) < 0)),undef,.pointer (some ⟨g,0,none⟩),.int .i64 k,.agg NC.toArray,.agg (proofL (.slice A0 n0 c0') P.has (List.map cellOf P.lab) (List.map cellOf P.sum)).toArray,.pointer (some ⟨q,0,none⟩),.slice A0 n0 c0',.slice A1 n1 c1,.pointer (some ⟨q,0,none⟩),.int .i64 how,.int .i64 (how.tmod 6),.int .i64 (how.tmod 6 + 6),.int .i64 0,undef,undef,undef,undef,undef,undef,undef,undef,undef,undef,undef,undef,.bool true,.bool true,.pointer (some ⟨q,0,none⟩),.slice A1 n1 c1,.int .i64 (n1:Int),.bool false,undef,undef,undef,undef,undef,undef,undef,undef,undef,undef,undef,undef,undef,undef,undef,undef,undef,undef,undef,undef,undef,undef,undef,undef,undef,undef,undef,undef,undef,undef,undef,undef,undef,undef,undef,undef,undef,undef,undef,undef,undef,undef,undef,undef,undef,undef,undef,undef,undef,undef,undef,undef,undef,.pointer (some ⟨g,0,none⟩),.agg RC.toArray,.int .i64 k,.agg NC.toArray,.agg SC.toArray,.agg QQ.toArray,.bool true,.bool true,.pointer (some ⟨g,0,none⟩),x129,.int .i64 other,x131,x132,x133,x134,undef],defers:=[] }/\Hid (Below v40.heap.size v40 w')/\(d 9=true->x129 = .agg RC.toArray)/\(d 11=true->x131 = .agg OC.toArray)/\(d 12=true->x132 = .agg SC.toArray)/\(d 13=true->x133 = .agg QQ.toArray)/\(d 14=true->x134 = .bool true)) [9,11,12,13,14] ?step49 2 5 [9,11,12,13,14] _ _ _ rfl (by decide) (fun _ h=>h) (Fits.of (by kernel_rfl)) ?init49 ?fin49
    case init49=>refine ⟨_,_,_,_,_,rfl,Below.refl _ _,?_,?_,?_,?_,?_⟩ <;> (intro h; exact absurd h (by decide))
    case step49 =>
     intro i hi d a v49 hI hdi hdeps
     obtain ⟨x129,x131,x132,x133,x134,rfl,BW,h9,h11,h12,h13,h14⟩:=hI
     have hsw:=BW.out.size
     simp only [List.mem_cons,List.not_mem_nil,or_false] at hi
     rcases hi with rfl | rfl | rfl | rfl | rfl
     ·refine wpOp_step (o:=?os50) ?hos50 (fun K hK=>?_)
      case hos50=>simp only [zge]; rfl
      go_simp
      refine (CR.out v49 (T.out.low BW.out)).mono ?_
      rintro e u49 ⟨rfl,hX⟩
      refine hK _ _ ?_
      clear hK K
      try simp only [zpt]
      exact ⟨_,_,_,_,_,rfl,BW.out.trans (hX.mono hsw),fun _=>rfl,fun a=>by first | exact h11 (by simpa using a) | rfl,fun a=>by first | exact h12 (by simpa using a) | rfl,fun a=>by first | exact h13 (by simpa using a) | rfl,fun a=>by first | exact h14 (by simpa using a) | rfl⟩
     ·refine wpOp_step (o:=?os51) ?hos51 (fun K hK=>?_)
      case hos51=>simp only [zge]; rfl
      go_simp
      refine (CO.out v49 ).mono ?_
      rintro e u49 ⟨rfl,hX⟩
      refine hK _ _ ?_
      clear hK K
      try simp only [zpt]
      exact ⟨_,_,_,_,_,rfl,BW.out.trans (hX.mono hsw),fun a=>by first | exact h9 (by simpa using a) | rfl,fun _=>rfl,fun a=>by first | exact h12 (by simpa using a) | rfl,fun a=>by first | exact h13 (by simpa using a) | rfl,fun a=>by first | exact h14 (by simpa using a) | rfl⟩
     ·refine wpOp_step (o:=?os52) ?hos52 (fun K hK=>?_)
      case hos52=>simp only [zge]; rfl
      go_simp
      refine (C3.out v49 ).mono ?_
      rintro e u49 ⟨rfl,hX⟩
      refine hK _ _ ?_
      clear hK K
      try simp only [zpt]
      exact ⟨_,_,_,_,_,rfl,BW.out.trans (hX.mono hsw),fun a=>by first | exact h9 (by simpa using a) | rfl,fun a=>by first | exact h11 (by simpa using a) | rfl,fun _=>rfl,fun a=>by first | exact h13 (by simpa using a) | rfl,fun a=>by first | exact h14 (by simpa using a) | rfl⟩
     ·refine wpOp_step (o:=?os53) ?hos53 (fun K hK=>?_)
      case hos53=>simp only [zge]; rfl
      refine step_loadW (by kernel_rfl) 38 (.tmp 19) rfl q 0 rfl QQ _ Tryd.underlying38 rfl IQ.out (BQ.out.below BW.out BQ.out.lt |>.cells) (hK _ _ ?_)
      clear hK K
      try simp only [zpt]
      exact ⟨_,_,_,_,_,rfl,BW,fun a=>by first | exact h9 (by simpa using a) | rfl,fun a=>by first | exact h11 (by simpa using a) | rfl,fun a=>by first | exact h12 (by simpa using a) | rfl,fun _=>rfl,fun a=>by first | exact h14 (by simpa using a) | rfl⟩
     ·obtain rfl:=h9 (hdeps 9 (by simp))
      obtain rfl:=h11 (hdeps 11 (by simp))
      obtain rfl:=h12 (hdeps 12 (by simp))
      obtain rfl:=h13 (hdeps 13 (by simp))
      refine wpOp_step (o:=?os54) ?hos54 (fun K hK=>?_)
      case hos54=>simp only [zge]; rfl
      go_simp
      refine (CB.out v49 _ _ (W.out.trans (BW.out.mono W.out.size)) (PI.out.below BW.out)).mono ?_
      rintro e u49 ⟨rfl,hX⟩
      refine hK _ _ ?_
      clear hK K
      try simp only [zpt]
      exact ⟨_,_,_,_,_,rfl,BW.out.trans (hX.mono hsw),fun a=>by first | exact h9 (by simpa using a) | rfl,fun a=>by first | exact h11 (by simpa using a) | rfl,fun a=>by first | exact h12 (by simpa using a) | rfl,fun a=>by first | exact h13 (by simpa using a) | rfl,fun _=>rfl⟩
    case fin49 =>
     intro a v49 hI
     obtain ⟨x129,x131,x132,x133,x134,rfl,BW,h9,h11,h12,h13,h14⟩:=hI
     obtain rfl:=h9 (by decide)
     obtain rfl:=h11 (by decide)
     obtain rfl:=h12 (by decide)
     obtain rfl:=h13 (by decide)
     obtain rfl:=h14 (by decide)
     clear h9 h11 h12 h13 h14
     have hX:=BW.out
     replace T:=Lib.hid (T.out.low hX)
     replace BQ:=Lib.hid (BQ.out.below hX BQ.out.lt)
     replace PI:=Lib.hid (PI.out.below hX)
     replace W:=Lib.hid (W.out.trans (hX.mono W.out.size))
     clear hX BW
     try dsimp only
     refine wpAny_take (i:=15) (oi:=?oi55) (v:=.bool true) ?hi55 (by kernel_rfl) (by kernel_rfl) (by kernel_rfl) ?hQ55 ?hy55 ?rest55
     case hi55=>simp only [zge]; rfl
     case hQ55=>exact fun _ _ _ h=>h
     case hy55=>exact Or.inl ⟨by rfl,by intro w; go_simp⟩
     try simp only [zpt]
     refine wpAny_take (i:=16) (oi:=?oi56) (v:=.bool true) ?hi56 (by kernel_rfl) (by kernel_rfl) (by kernel_rfl) ?hQ56 ?hy56 ?rest56
     case hi56=>simp only [zge]; rfl
     case hQ56=>exact fun _ _ _ h=>h
     case hy56=>exact Or.inl ⟨by rfl,by intro w; go_simp⟩
     try simp only [zpt]
     refine wpAny_done (by kernel_rfl) ?_ _
     go_wp2_with fail
     go_ret
     exact ⟨rfl,W.out⟩
 ·have c8:w8.cell? ⟨q,1,none⟩=some (.bool P.has):=B8.out.cell 1
  have f8:w8.frozen? ⟨q,1,none⟩=false:=B8.out.frozen 1
  go_upto_region 23 with (fail)
  clear c8 f8 hmw
  have RW9:∀ (off:Nat) (v:Value),Rd2 (w8.setCell ⟨q,off,none⟩ v) 32 A1 n1 c1 (hashes P.sides):=fun off v=>RW8.out.keep (by simp [World.setCell]) fun ad h0 _ _=>Go.RowKit.Below.heap_setCell _ _ _ _ (fun e=>by
   obtain ⟨A2,c2,hv2,_,hown2⟩:=OW8.out.rd
   have hA2:A1=A2:=by injection hv2
   have h3:=(hown2 ad (by rw [<- hA2]; exact h0)).2.2
   exact OW8.out.ne B8.out (by decide) (by rw [h3]; exact congrArg some e.symm))
  have BQ9:Hid (Blk (w8.setCell ⟨q,1,none⟩ (.bool (!P.has))) q 38 (proofL (.slice A1 n1 c1) (!P.has) (P.lab.map cellOf) (P.sum.map cellOf))):=by have:=B8.out.set_ 1 (.bool (!P.has)); rw [proofL_set1] at this; exact this
  have PI9:Hid (PrfIn (w8.setCell ⟨q,1,none⟩ (.bool (!P.has))) (.agg (proofL (.slice A1 n1 c1) (!P.has) (P.lab.map cellOf) (P.sum.map cellOf)).toArray) ⟨P.sides,!P.has,P.lab,P.sum⟩):=prf_make (RW9 _ _) (by omega) hlab hsum HPE.out
  have T9:Hid (TreeAt (w8.setCell ⟨q,1,none⟩ (.bool (!P.has))) g l):=tree_cell T.out B8.out (by decide) (by decide) (by decide) _
  have W9:Hid (Below w.heap.size w (w8.setCell ⟨q,1,none⟩ (.bool (!P.has)))):=W.out.setCell hwq _
  generalize w8.setCell ⟨q,1,none⟩ (.bool (!P.has))=w9 at *
  clear T W
  have T:=Lib.hid T9.out
  have W:=Lib.hid W9.out
  obtain ⟨QQ,hQQ⟩:∃ L,L=proofL (.slice A1 n1 c1) (!P.has) (P.lab.map cellOf) (P.sum.map cellOf):=⟨_,rfl⟩
  rw [<- hQQ] at BQ9 PI9
  have BQ:=Lib.hid BQ9.out
  have PI:=Lib.hid PI9.out
  clear T9 W9 BQ9 PI9 hQQ OW8 B8 RW8 eh
  have IQ:Hid ((Tryd.prog.info? 38).map (·.size)=some QQ.length):=by
   obtain ⟨A9,n9,c9,e9,_,_⟩:=PI.out.at_
   unfold Hid
   rw [show QQ=proofL (.slice A9 n9 c9) _ _ _ by injection e9 with e9; simpa using e9]
   exact proofL_info (by simpa using PI.out.lab) (by simpa using PI.out.sum)
  have hX:=(Below.refl w9.heap.size w9).drew
  replace T:=Lib.hid (T.out.low hX)
  replace BQ:=Lib.hid (BQ.out.below hX BQ.out.lt)
  replace PI:=Lib.hid (PI.out.below hX)
  replace W:=Lib.hid (W.out.trans (hX.mono W.out.size))
  clear hX
  refine wp_region_any (by kernel_rfl) ?_
  change wpAny _ _ _ _ _ _ _ (World.drew _)
  generalize w9.drew=wd at *
  refine wpAny_take (i:=0) (oi:=?oi114) (v:=.pointer (some ⟨g,0,none⟩)) ?hi114 (by kernel_rfl) (by kernel_rfl) (by kernel_rfl) ?hQ114 ?hy114 ?rest114
  case hi114=>simp only [zge]; rfl
  case hQ114=>exact fun _ _ _ h=>h
  case hy114=>exact Or.inl ⟨by rfl,by intro w; go_simp⟩
  try simp only [zpt]
  refine wpAny_take (i:=2) (oi:=?oi115) (v:=.int .i64 k) ?hi115 (by kernel_rfl) (by kernel_rfl) (by kernel_rfl) ?hQ115 ?hy115 ?rest115
  case hi115=>simp only [zge]; rfl
  case hQ115=>exact fun _ _ _ h=>h
  case hy115=>exact Or.inl ⟨by rfl,by intro w; go_simp⟩
  try simp only [zpt]
  refine phaseL (fun i=>if i=3 then [1] else if i=4 then [3] else if i=6 then [1,3,4,5] else []) (fun d a w'=>∃ x121 x123 x124 x125 x126:Value,a={ tmps:=#[.slice A n c,.slice A' n' c',.int .i64 k,.int .i64 other,.int .i64 how,.int .i64 (az:Int),.int .u8 rb,undef,undef,undef,undef,undef,undef,undef,.bool false,.bool true,.pointer (some ⟨g,0,none⟩),.slice AL nl cl,.bool true,.pointer (some ⟨q,0,none⟩),.bool true,.bool true,.bool false,.tuple #[.pointer (some ⟨g,0,none⟩),.slice AL nl cl,.bool true],.slice A n c,.slice A' n' c',.tuple #[.pointer (some ⟨g,0,none⟩),.slice AL nl cl,.bool true],.pointer (some ⟨g,0,none⟩),.slice AL nl cl,.bool true,.bool true,.bool false,.bool false,.int .i64 (az:Int),.bool (decide ((az:Int) < 0)),.bool (decide ((az:Int) < 0)),undef,.pointer (some ⟨g,0,none⟩),.int .i64 k,.agg NC.toArray,.agg (proofL (.slice A0 n0 c0') P.has (List.map cellOf P.lab) (List.map cellOf P.sum)).toArray,.pointer (some ⟨q,0,none⟩),.slice A0 n0 c0',.slice A1 n1 c1,.pointer (some ⟨q,0,none⟩),.int .i64 how,.int .i64 (how.tmod 6),.int .i64 (how.tmod 6 + 6),.int .i64 1,undef,undef,undef,undef,undef,undef,undef,undef,undef,undef,undef,undef,.bool false,.bool false,undef,undef,undef,undef,undef,undef,undef,undef,undef,undef,undef,undef,undef,undef,undef,undef,undef,undef,undef,undef,.bool true,.bool true,.pointer (some ⟨q,1,none⟩),.bool P.has,.bool (!P.has),.pointer (some ⟨q,1,none⟩),undef,undef,undef,undef,undef,undef,undef,undef,undef,undef,undef,undef,undef,undef,undef,undef,undef,undef,undef,undef,undef,undef,undef,undef,undef,undef,undef,undef,undef,undef,undef,.pointer (some ⟨g,0,none⟩),x121,.int .i64 k,x123,x124,x125,x126,undef,undef,undef,undef,undef,undef,undef,undef,undef],defers:=[] }/\Hid (Below wd.heap.size wd w')/\(d 1=true->x121 = .agg RC.toArray)/\(d 3=true->x123 = .agg NC.toArray)/\(d 4=true->x124 = .agg SC.toArray)/\(d 5=true->x125 = .agg QQ.toArray)/\(d 6=true->x126 = .bool true)) [1,3,4,5,6] ?step116 10 5 [1,3,4,5,6] _ _ _ rfl (by decide) (fun _ h=>h) (Fits.of (by kernel_rfl)) ?init116 ?fin116
  case init116=>refine ⟨_,_,_,_,_,rfl,Below.refl _ _,?_,?_,?_,?_,?_⟩ <;> (intro h; exact absurd h (by decide))
  case step116 =>
   intro i hi d a v116 hI hdi hdeps
   obtain ⟨x121,x123,x124,x125,x126,rfl,BW,h1,h3,h4,h5,h6⟩:=hI
   have hsw:=BW.out.size
   simp only [List.mem_cons,List.not_mem_nil,or_false] at hi
   rcases hi with rfl | rfl | rfl | rfl | rfl
   ·refine wpOp_step (o:=?os117) ?hos117 (fun K hK=>?_)
    case hos117=>simp only [zge]; rfl
    go_simp
    refine (CR.out v116 (T.out.low BW.out)).mono ?_
    rintro e u116 ⟨rfl,hX⟩
    refine hK _ _ ?_
    clear hK K
    try simp only [zpt]
    exact ⟨_,_,_,_,_,rfl,BW.out.trans (hX.mono hsw),fun _=>rfl,fun a=>by first | exact h3 (by simpa using a) | rfl,fun a=>by first | exact h4 (by simpa using a) | rfl,fun a=>by first | exact h5 (by simpa using a) | rfl,fun a=>by first | exact h6 (by simpa using a) | rfl⟩
   ·refine wpOp_step (o:=?os118) ?hos118 (fun K hK=>?_)
    case hos118=>simp only [zge]; rfl
    go_simp
    refine (CN.out v116 ).mono ?_
    rintro e u116 ⟨rfl,hX⟩
    refine hK _ _ ?_
    clear hK K
    try simp only [zpt]
    exact ⟨_,_,_,_,_,rfl,BW.out.trans (hX.mono hsw),fun a=>by first | exact h1 (by simpa using a) | rfl,fun _=>rfl,fun a=>by first | exact h4 (by simpa using a) | rfl,fun a=>by first | exact h5 (by simpa using a) | rfl,fun a=>by first | exact h6 (by simpa using a) | rfl⟩
   ·refine wpOp_step (o:=?os119) ?hos119 (fun K hK=>?_)
    case hos119=>simp only [zge]; rfl
    go_simp
    refine (C3.out v116 ).mono ?_
    rintro e u116 ⟨rfl,hX⟩
    refine hK _ _ ?_
    clear hK K
    try simp only [zpt]
    exact ⟨_,_,_,_,_,rfl,BW.out.trans (hX.mono hsw),fun a=>by first | exact h1 (by simpa using a) | rfl,fun a=>by first | exact h3 (by simpa using a) | rfl,fun _=>rfl,fun a=>by first | exact h5 (by simpa using a) | rfl,fun a=>by first | exact h6 (by simpa using a) | rfl⟩
   ·refine wpOp_step (o:=?os120) ?hos120 (fun K hK=>?_)
    case hos120=>simp only [zge]; rfl
    refine step_loadW rfl 38 (.tmp 19) rfl q 0 rfl QQ _ Tryd.underlying38 rfl IQ.out (BQ.out.below BW.out BQ.out.lt).cells (hK _ _ ?_)
    clear hK K
    try simp only [zpt]
    exact ⟨_,_,_,_,_,rfl,BW,fun a=>by first | exact h1 (by simpa using a) | rfl,fun a=>by first | exact h3 (by simpa using a) | rfl,fun a=>by first | exact h4 (by simpa using a) | rfl,fun _=>rfl,fun a=>by first | exact h6 (by simpa using a) | rfl⟩
   ·obtain rfl:=h1 (hdeps 1 (by simp))
    obtain rfl:=h3 (hdeps 3 (by simp))
    obtain rfl:=h4 (hdeps 4 (by simp))
    obtain rfl:=h5 (hdeps 5 (by simp))
    refine wpOp_step (o:=?os121) ?hos121 (fun K hK=>?_)
    case hos121=>simp only [zge]; rfl
    go_simp
    refine (CA.out v116 _ _ (W.out.trans (BW.out.mono W.out.size)) (PI.out.below BW.out)).mono ?_
    rintro e u116 ⟨rfl,hX⟩
    refine hK _ _ ?_
    clear hK K
    try simp only [zpt]
    exact ⟨_,_,_,_,_,rfl,BW.out.trans (hX.mono hsw),fun a=>by first | exact h1 (by simpa using a) | rfl,fun a=>by first | exact h3 (by simpa using a) | rfl,fun a=>by first | exact h4 (by simpa using a) | rfl,fun a=>by first | exact h5 (by simpa using a) | rfl,fun _=>rfl⟩
  case fin116 =>
   intro a v116 hI
   obtain ⟨x121,x123,x124,x125,x126,rfl,BW,h1,h3,h4,h5,h6⟩:=hI
   obtain rfl:=h1 (by decide)
   obtain rfl:=h3 (by decide)
   obtain rfl:=h4 (by decide)
   obtain rfl:=h5 (by decide)
   obtain rfl:=h6 (by decide)
   clear h1 h3 h4 h5 h6
   have hX:=BW.out
   replace T:=Lib.hid (T.out.low hX)
   replace BQ:=Lib.hid (BQ.out.below hX BQ.out.lt)
   replace PI:=Lib.hid (PI.out.below hX)
   replace W:=Lib.hid (W.out.trans (hX.mono W.out.size))
   clear hX BW
   try dsimp only
   refine wpAny_take (i:=7) (oi:=?oi122) (v:=.bool true) ?hi122 (by kernel_rfl) (by kernel_rfl) (by kernel_rfl) ?hQ122 ?hy122 ?rest122
   case hi122=>simp only [zge]; rfl
   case hQ122=>exact fun _ _ _ h=>h
   case hy122=>exact Or.inl ⟨by rfl,by intro w; go_simp⟩
   try simp only [zpt]
   refine wpAny_take (i:=8) (oi:=?oi123) (v:=.pointer (some ⟨g,0,none⟩)) ?hi123 (by kernel_rfl) (by kernel_rfl) (by kernel_rfl) ?hQ123 ?hy123 ?rest123
   case hi123=>simp only [zge]; rfl
   case hQ123=>exact fun _ _ _ h=>h
   case hy123=>exact Or.inl ⟨by rfl,by intro w; go_simp⟩
   try simp only [zpt]
   refine wpAny_take (i:=10) (oi:=?oi124) (v:=.int .i64 other) ?hi124 (by kernel_rfl) (by kernel_rfl) (by kernel_rfl) ?hQ124 ?hy124 ?rest124
   case hi124=>simp only [zge]; rfl
   case hQ124=>exact fun _ _ _ h=>h
   case hy124=>exact Or.inl ⟨by rfl,by intro w; go_simp⟩
   try simp only [zpt]
   refine phaseL (fun i=>if i=11 then [9] else if i=12 then [11] else if i=14 then [9,11,12,13] else []) (fun d a w'=>∃ x129 x131 x132 x133 x134:Value,a={ tmps:=#[.slice A n c,.slice A' n' c',.int .i64 k,.int .i64 other,.int .i64 how,.int .i64 (az:Int),.int .u8 rb,undef,undef,undef,undef,undef,undef,undef,.bool false,.bool true,.pointer (some ⟨g,0,none⟩),.slice AL nl cl,.bool true,.pointer (some ⟨q,0,none⟩),.bool true,.bool true,.bool false,.tuple #[.pointer (some ⟨g,0,none⟩),.slice AL nl cl,.bool true],.slice A n c,.slice A' n' c',.tuple #[.pointer (some ⟨g,0,none⟩),.slice AL nl cl,.bool true],.pointer (some ⟨g,0,none⟩),.slice AL nl cl,.bool true,.bool true,.bool false,.bool false,.int .i64 (az:Int),.bool (decide ((az:Int) < 0)),.bool (decide ((az:Int) < 0)),undef,.pointer (some ⟨g,0,none⟩),.int .i64 k,.agg NC.toArray,.agg (proofL (.slice A0 n0 c0') P.has (List.map cellOf P.lab) (List.map cellOf P.sum)).toArray,.pointer (some ⟨q,0,none⟩),.slice A0 n0 c0',.slice A1 n1 c1,.pointer (some ⟨q,0,none⟩),.int .i64 how,.int .i64 (how.tmod 6),.int .i64 (how.tmod 6 + 6),.int .i64 1,undef,undef,undef,undef,undef,undef,undef,undef,undef,undef,undef,undef,.bool false,.bool false,undef,undef,undef,undef,undef,undef,undef,undef,undef,undef,undef,undef,undef,undef,undef,undef,undef,undef,undef,undef,.bool true,.bool true,.pointer (some ⟨q,1,none⟩),.bool P.has,.bool (!P.has),.pointer (some ⟨q,1,none⟩),undef,undef,undef,undef,undef,undef,undef,undef,undef,undef,undef,undef,undef,undef,undef,undef,undef,undef,undef,undef,undef,undef,undef,undef,undef,undef,undef,undef,undef,undef,undef,.pointer (some ⟨g,0,none⟩),.agg RC.toArray,.int .i64 k,.agg NC.toArray,.agg SC.toArray,.agg QQ.toArray,.bool true,.bool true,.pointer (some ⟨g,0,none⟩),x129,.int .i64 other,x131,x132,x133,x134,undef],defers:=[] }/\Hid (Below v116.heap.size v116 w')/\(d 9=true->x129 = .agg RC.toArray)/\(d 11=true->x131 = .agg OC.toArray)/\(d 12=true->x132 = .agg SC.toArray)/\(d 13=true->x133 = .agg QQ.toArray)/\(d 14=true->x134 = .bool true)) [9,11,12,13,14] ?step125 2 5 [9,11,12,13,14] _ _ _ rfl (by decide) (fun _ h=>h) (Fits.of (by kernel_rfl)) ?init125 ?fin125
   case init125=>refine ⟨_,_,_,_,_,rfl,Below.refl _ _,?_,?_,?_,?_,?_⟩ <;> (intro h; exact absurd h (by decide))
   case step125 =>
    intro i hi d a v125 hI hdi hdeps
    obtain ⟨x129,x131,x132,x133,x134,rfl,BW,h9,h11,h12,h13,h14⟩:=hI
    have hsw:=BW.out.size
    simp only [List.mem_cons,List.not_mem_nil,or_false] at hi
    rcases hi with rfl | rfl | rfl | rfl | rfl
    ·refine wpOp_step (o:=?os126) ?hos126 (fun K hK=>?_)
     case hos126=>simp only [zge]; rfl
     go_simp
     refine (CR.out v125 (T.out.low BW.out)).mono ?_
     rintro e u125 ⟨rfl,hX⟩
     refine hK _ _ ?_
     clear hK K
     try simp only [zpt]
     exact ⟨_,_,_,_,_,rfl,BW.out.trans (hX.mono hsw),fun _=>rfl,fun a=>by first | exact h11 (by simpa using a) | rfl,fun a=>by first | exact h12 (by simpa using a) | rfl,fun a=>by first | exact h13 (by simpa using a) | rfl,fun a=>by first | exact h14 (by simpa using a) | rfl⟩
    ·refine wpOp_step (o:=?os127) ?hos127 (fun K hK=>?_)
     case hos127=>simp only [zge]; rfl
     go_simp
     refine (CO.out v125 ).mono ?_
     rintro e u125 ⟨rfl,hX⟩
     refine hK _ _ ?_
     clear hK K
     try simp only [zpt]
     exact ⟨_,_,_,_,_,rfl,BW.out.trans (hX.mono hsw),fun a=>by first | exact h9 (by simpa using a) | rfl,fun _=>rfl,fun a=>by first | exact h12 (by simpa using a) | rfl,fun a=>by first | exact h13 (by simpa using a) | rfl,fun a=>by first | exact h14 (by simpa using a) | rfl⟩
    ·refine wpOp_step (o:=?os128) ?hos128 (fun K hK=>?_)
     case hos128=>simp only [zge]; rfl
     go_simp
     refine (C3.out v125 ).mono ?_
     rintro e u125 ⟨rfl,hX⟩
     refine hK _ _ ?_
     clear hK K
     try simp only [zpt]
     exact ⟨_,_,_,_,_,rfl,BW.out.trans (hX.mono hsw),fun a=>by first | exact h9 (by simpa using a) | rfl,fun a=>by first | exact h11 (by simpa using a) | rfl,fun _=>rfl,fun a=>by first | exact h13 (by simpa using a) | rfl,fun a=>by first | exact h14 (by simpa using a) | rfl⟩
    ·refine wpOp_step (o:=?os129) ?hos129 (fun K hK=>?_)
     case hos129=>simp only [zge]; rfl
     refine step_loadW (by kernel_rfl) 38 (.tmp 19) rfl q 0 rfl QQ _ Tryd.underlying38 rfl IQ.out (BQ.out.below BW.out BQ.out.lt |>.cells) (hK _ _ ?_)
     clear hK K
     try simp only [zpt]
     exact ⟨_,_,_,_,_,rfl,BW,fun a=>by first | exact h9 (by simpa using a) | rfl,fun a=>by first | exact h11 (by simpa using a) | rfl,fun a=>by first | exact h12 (by simpa using a) | rfl,fun _=>rfl,fun a=>by first | exact h14 (by simpa using a) | rfl⟩
    ·obtain rfl:=h9 (hdeps 9 (by simp))
     obtain rfl:=h11 (hdeps 11 (by simp))
     obtain rfl:=h12 (hdeps 12 (by simp))
     obtain rfl:=h13 (hdeps 13 (by simp))
     refine wpOp_step (o:=?os130) ?hos130 (fun K hK=>?_)
     case hos130=>simp only [zge]; rfl
     go_simp
     refine (CB.out v125 _ _ (W.out.trans (BW.out.mono W.out.size)) (PI.out.below BW.out)).mono ?_
     rintro e u125 ⟨rfl,hX⟩
     refine hK _ _ ?_
     clear hK K
     try simp only [zpt]
     exact ⟨_,_,_,_,_,rfl,BW.out.trans (hX.mono hsw),fun a=>by first | exact h9 (by simpa using a) | rfl,fun a=>by first | exact h11 (by simpa using a) | rfl,fun a=>by first | exact h12 (by simpa using a) | rfl,fun a=>by first | exact h13 (by simpa using a) | rfl,fun _=>rfl⟩
   case fin125 =>
    intro a v125 hI
    obtain ⟨x129,x131,x132,x133,x134,rfl,BW,h9,h11,h12,h13,h14⟩:=hI
    obtain rfl:=h9 (by decide)
    obtain rfl:=h11 (by decide)
    obtain rfl:=h12 (by decide)
    obtain rfl:=h13 (by decide)
    obtain rfl:=h14 (by decide)
    clear h9 h11 h12 h13 h14
    have hX:=BW.out
    replace T:=Lib.hid (T.out.low hX)
    replace BQ:=Lib.hid (BQ.out.below hX BQ.out.lt)
    replace PI:=Lib.hid (PI.out.below hX)
    replace W:=Lib.hid (W.out.trans (hX.mono W.out.size))
    clear hX BW
    try dsimp only
    refine wpAny_take (i:=15) (oi:=?oi131) (v:=.bool true) ?hi131 (by kernel_rfl) (by kernel_rfl) (by kernel_rfl) ?hQ131 ?hy131 ?rest131
    case hi131=>simp only [zge]; rfl
    case hQ131=>exact fun _ _ _ h=>h
    case hy131=>exact Or.inl ⟨by rfl,by intro w; go_simp⟩
    try simp only [zpt]
    refine wpAny_take (i:=16) (oi:=?oi132) (v:=.bool true) ?hi132 (by kernel_rfl) (by kernel_rfl) (by kernel_rfl) ?hQ132 ?hy132 ?rest132
    case hi132=>simp only [zge]; rfl
    case hQ132=>exact fun _ _ _ h=>h
    case hy132=>exact Or.inl ⟨by rfl,by intro w; go_simp⟩
    try simp only [zpt]
    refine wpAny_done (by kernel_rfl) ?_ _
    go_wp2_with fail
    go_ret
    exact ⟨rfl,W.out⟩
 ·obtain ⟨yb,hyb⟩:∃ y,y=P.lab.getD (az % 32) 0:=⟨_,rfl⟩
  have c8:w8.cell? ⟨q,2 + az % 32,none⟩=some (.int .u8 (yb.toNat:Int)):=by
   rw [hyb,B8.out.cell,<- HLP.out (az % 32) ha32]
   rw [proofL,show 2 + az % 32=az % 32 + 1 + 1 by omega,List.getElem?_cons_succ,List.getElem?_cons_succ,List.getElem?_append_left (by omega)]
  have HYB:=Lib.hid hyb
  clear hyb
  have f8:w8.frozen? ⟨q,2 + az % 32,none⟩=false:=B8.out.frozen _
  go_upto_region 23 with (fail)
  clear c8 f8 hmw
  have RW9:∀ (off:Nat) (v:Value),Rd2 (w8.setCell ⟨q,off,none⟩ v) 32 A1 n1 c1 (hashes P.sides):=fun off v=>RW8.out.keep (by simp [World.setCell]) fun ad h0 _ _=>Go.RowKit.Below.heap_setCell _ _ _ _ (fun e=>by
   obtain ⟨A2,c2,hv2,_,hown2⟩:=OW8.out.rd
   have hA2:A1=A2:=by injection hv2
   have h3:=(hown2 ad (by rw [<- hA2]; exact h0)).2.2
   exact OW8.out.ne B8.out (by decide) (by rw [h3]; exact congrArg some e.symm))
  have BQ9:Hid (Blk (w8.setCell ⟨q,2 + az % 32,none⟩ (.int .u8 (bits .xor .u8 (yb.toNat:Int) rb))) q 38 (proofL (.slice A1 n1 c1) P.has ((P.lab.set (az % 32) (P.lab.getD (az % 32) 0 ^^^ x)).map cellOf) (P.sum.map cellOf))):=by have:=B8.out.set_ (2 + az % 32) (.int .u8 (bits .xor .u8 (yb.toNat:Int) rb)); rw [proofL_set2 _ _ _ _ _ hLC ha32,HXOR.out,show Value.int .u8 ((yb ^^^ x).toNat:Int)=cellOf (yb ^^^ x) from rfl,HYB.out,<- List.map_set] at this; rw [HXOR.out,HYB.out]; exact this
  have PI9:Hid (PrfIn (w8.setCell ⟨q,2 + az % 32,none⟩ (.int .u8 (bits .xor .u8 (yb.toNat:Int) rb))) (.agg (proofL (.slice A1 n1 c1) P.has ((P.lab.set (az % 32) (P.lab.getD (az % 32) 0 ^^^ x)).map cellOf) (P.sum.map cellOf)).toArray) ⟨P.sides,P.has,(P.lab.set (az % 32) (P.lab.getD (az % 32) 0 ^^^ x)),P.sum⟩):=prf_make (RW9 _ _) (by omega) (by simp [hlab]) (by simp [hsum]) HPE.out
  have T9:Hid (TreeAt (w8.setCell ⟨q,2 + az % 32,none⟩ (.int .u8 (bits .xor .u8 (yb.toNat:Int) rb))) g l):=tree_cell T.out B8.out (by decide) (by decide) (by decide) _
  have W9:Hid (Below w.heap.size w (w8.setCell ⟨q,2 + az % 32,none⟩ (.int .u8 (bits .xor .u8 (yb.toNat:Int) rb)))):=W.out.setCell hwq _
  generalize w8.setCell ⟨q,2 + az % 32,none⟩ (.int .u8 (bits .xor .u8 (yb.toNat:Int) rb))=w9 at *
  clear T W
  have T:=Lib.hid T9.out
  have W:=Lib.hid W9.out
  obtain ⟨QQ,hQQ⟩:∃ L,L=proofL (.slice A1 n1 c1) P.has ((P.lab.set (az % 32) (P.lab.getD (az % 32) 0 ^^^ x)).map cellOf) (P.sum.map cellOf):=⟨_,rfl⟩
  rw [<- hQQ] at BQ9 PI9
  have BQ:=Lib.hid BQ9.out
  have PI:=Lib.hid PI9.out
  clear T9 W9 BQ9 PI9 hQQ OW8 B8 RW8 eh
  have IQ:Hid ((Tryd.prog.info? 38).map (·.size)=some QQ.length):=by
   obtain ⟨A9,n9,c9,e9,_,_⟩:=PI.out.at_
   unfold Hid
   rw [show QQ=proofL (.slice A9 n9 c9) _ _ _ by injection e9 with e9; simpa using e9]
   exact proofL_info (by simpa using PI.out.lab) (by simpa using PI.out.sum)
  have hX:=(Below.refl w9.heap.size w9).drew
  replace T:=Lib.hid (T.out.low hX)
  replace BQ:=Lib.hid (BQ.out.below hX BQ.out.lt)
  replace PI:=Lib.hid (PI.out.below hX)
  replace W:=Lib.hid (W.out.trans (hX.mono W.out.size))
  clear hX
  refine wp_region_any (by kernel_rfl) ?_
  change wpAny _ _ _ _ _ _ _ (World.drew _)
  generalize w9.drew=wd at *
  refine wpAny_take (i:=0) (oi:=?oi133) (v:=.pointer (some ⟨g,0,none⟩)) ?hi133 (by kernel_rfl) (by kernel_rfl) (by kernel_rfl) ?hQ133 ?hy133 ?rest133
  case hi133=>simp only [zge]; rfl
  case hQ133=>exact fun _ _ _ h=>h
  case hy133=>exact Or.inl ⟨by rfl,by intro w; go_simp⟩
  try simp only [zpt]
  refine wpAny_take (i:=2) (oi:=?oi134) (v:=.int .i64 k) ?hi134 (by kernel_rfl) (by kernel_rfl) (by kernel_rfl) ?hQ134 ?hy134 ?rest134
  case hi134=>simp only [zge]; rfl
  case hQ134=>exact fun _ _ _ h=>h
  case hy134=>exact Or.inl ⟨by rfl,by intro w; go_simp⟩
  try simp only [zpt]
  refine phaseL (fun i=>if i=3 then [1] else if i=4 then [3] else if i=6 then [1,3,4,5] else []) (fun d a w'=>∃ x121 x123 x124 x125 x126:Value,a={ tmps:=#[.slice A n c,.slice A' n' c',.int .i64 k,.int .i64 other,.int .i64 how,.int .i64 (az:Int),.int .u8 rb,undef,undef,undef,undef,undef,undef,undef,.bool false,.bool true,.pointer (some ⟨g,0,none⟩),.slice AL nl cl,.bool true,.pointer (some ⟨q,0,none⟩),.bool true,.bool true,.bool false,.tuple #[.pointer (some ⟨g,0,none⟩),.slice AL nl cl,.bool true],.slice A n c,.slice A' n' c',.tuple #[.pointer (some ⟨g,0,none⟩),.slice AL nl cl,.bool true],.pointer (some ⟨g,0,none⟩),.slice AL nl cl,.bool true,.bool true,.bool false,.bool false,.int .i64 (az:Int),.bool (decide ((az:Int) < 0)),.bool (decide ((az:Int) < 0)),undef,.pointer (some ⟨g,0,none⟩),.int .i64 k,.agg NC.toArray,.agg (proofL (.slice A0 n0 c0') P.has (List.map cellOf P.lab) (List.map cellOf P.sum)).toArray,.pointer (some ⟨q,0,none⟩),.slice A0 n0 c0',.slice A1 n1 c1,.pointer (some ⟨q,0,none⟩),.int .i64 how,.int .i64 (how.tmod 6),.int .i64 (how.tmod 6 + 6),.int .i64 2,undef,undef,undef,undef,undef,undef,undef,undef,undef,undef,undef,undef,.bool false,.bool false,undef,undef,undef,undef,undef,undef,undef,undef,undef,undef,undef,undef,undef,undef,undef,undef,undef,undef,undef,undef,.bool false,.bool false,undef,undef,undef,undef,.bool true,.bool true,.int .i64 (az:Int),.int .i64 ((az:Int) % 32),.pointer (some ⟨q,2,none⟩),.pointer (some ⟨q,2 + az % 32,none⟩),.int .u8 (yb.toNat:Int),.int .u8 rb,.int .u8 (bits .xor .u8 (yb.toNat:Int) rb),.pointer (some ⟨q,2,none⟩),.pointer (some ⟨q,2 + az % 32,none⟩),undef,undef,undef,undef,undef,undef,undef,undef,undef,undef,undef,undef,undef,undef,undef,undef,undef,undef,undef,undef,.pointer (some ⟨g,0,none⟩),x121,.int .i64 k,x123,x124,x125,x126,undef,undef,undef,undef,undef,undef,undef,undef,undef],defers:=[] }/\Hid (Below wd.heap.size wd w')/\(d 1=true->x121 = .agg RC.toArray)/\(d 3=true->x123 = .agg NC.toArray)/\(d 4=true->x124 = .agg SC.toArray)/\(d 5=true->x125 = .agg QQ.toArray)/\(d 6=true->x126 = .bool true)) [1,3,4,5,6] ?step135 10 5 [1,3,4,5,6] _ _ _ rfl (by decide) (fun _ h=>h) (Fits.of (by kernel_rfl)) ?init135 ?fin135
  case init135=>refine ⟨_,_,_,_,_,rfl,Below.refl _ _,?_,?_,?_,?_,?_⟩ <;> (intro h; exact absurd h (by decide))
  case step135 =>
   intro i hi d a v135 hI hdi hdeps
   obtain ⟨x121,x123,x124,x125,x126,rfl,BW,h1,h3,h4,h5,h6⟩:=hI
   have hsw:=BW.out.size
   simp only [List.mem_cons,List.not_mem_nil,or_false] at hi
   rcases hi with rfl | rfl | rfl | rfl | rfl
   ·refine wpOp_step (o:=?os136) ?hos136 (fun K hK=>?_)
    case hos136=>simp only [zge]; rfl
    go_simp
    refine (CR.out v135 (T.out.low BW.out)).mono ?_
    rintro e u135 ⟨rfl,hX⟩
    refine hK _ _ ?_
    clear hK K
    try simp only [zpt]
    exact ⟨_,_,_,_,_,rfl,BW.out.trans (hX.mono hsw),fun _=>rfl,fun a=>by first | exact h3 (by simpa using a) | rfl,fun a=>by first | exact h4 (by simpa using a) | rfl,fun a=>by first | exact h5 (by simpa using a) | rfl,fun a=>by first | exact h6 (by simpa using a) | rfl⟩
   ·refine wpOp_step (o:=?os137) ?hos137 (fun K hK=>?_)
    case hos137=>simp only [zge]; rfl
    go_simp
    refine (CN.out v135 ).mono ?_
    rintro e u135 ⟨rfl,hX⟩
    refine hK _ _ ?_
    clear hK K
    try simp only [zpt]
    exact ⟨_,_,_,_,_,rfl,BW.out.trans (hX.mono hsw),fun a=>by first | exact h1 (by simpa using a) | rfl,fun _=>rfl,fun a=>by first | exact h4 (by simpa using a) | rfl,fun a=>by first | exact h5 (by simpa using a) | rfl,fun a=>by first | exact h6 (by simpa using a) | rfl⟩
   ·refine wpOp_step (o:=?os138) ?hos138 (fun K hK=>?_)
    case hos138=>simp only [zge]; rfl
    go_simp
    refine (C3.out v135 ).mono ?_
    rintro e u135 ⟨rfl,hX⟩
    refine hK _ _ ?_
    clear hK K
    try simp only [zpt]
    exact ⟨_,_,_,_,_,rfl,BW.out.trans (hX.mono hsw),fun a=>by first | exact h1 (by simpa using a) | rfl,fun a=>by first | exact h3 (by simpa using a) | rfl,fun _=>rfl,fun a=>by first | exact h5 (by simpa using a) | rfl,fun a=>by first | exact h6 (by simpa using a) | rfl⟩
   ·refine wpOp_step (o:=?os139) ?hos139 (fun K hK=>?_)
    case hos139=>simp only [zge]; rfl
    refine step_loadW rfl 38 (.tmp 19) rfl q 0 rfl QQ _ Tryd.underlying38 rfl IQ.out (BQ.out.below BW.out BQ.out.lt).cells (hK _ _ ?_)
    clear hK K
    try simp only [zpt]
    exact ⟨_,_,_,_,_,rfl,BW,fun a=>by first | exact h1 (by simpa using a) | rfl,fun a=>by first | exact h3 (by simpa using a) | rfl,fun a=>by first | exact h4 (by simpa using a) | rfl,fun _=>rfl,fun a=>by first | exact h6 (by simpa using a) | rfl⟩
   ·obtain rfl:=h1 (hdeps 1 (by simp))
    obtain rfl:=h3 (hdeps 3 (by simp))
    obtain rfl:=h4 (hdeps 4 (by simp))
    obtain rfl:=h5 (hdeps 5 (by simp))
    refine wpOp_step (o:=?os140) ?hos140 (fun K hK=>?_)
    case hos140=>simp only [zge]; rfl
    go_simp
    refine (CA.out v135 _ _ (W.out.trans (BW.out.mono W.out.size)) (PI.out.below BW.out)).mono ?_
    rintro e u135 ⟨rfl,hX⟩
    refine hK _ _ ?_
    clear hK K
    try simp only [zpt]
    exact ⟨_,_,_,_,_,rfl,BW.out.trans (hX.mono hsw),fun a=>by first | exact h1 (by simpa using a) | rfl,fun a=>by first | exact h3 (by simpa using a) | rfl,fun a=>by first | exact h4 (by simpa using a) | rfl,fun a=>by first | exact h5 (by simpa using a) | rfl,fun _=>rfl⟩
  case fin135 =>
   intro a v135 hI
   obtain ⟨x121,x123,x124,x125,x126,rfl,BW,h1,h3,h4,h5,h6⟩:=hI
   obtain rfl:=h1 (by decide)
   obtain rfl:=h3 (by decide)
   obtain rfl:=h4 (by decide)
   obtain rfl:=h5 (by decide)
   obtain rfl:=h6 (by decide)
   clear h1 h3 h4 h5 h6
   have hX:=BW.out
   replace T:=Lib.hid (T.out.low hX)
   replace BQ:=Lib.hid (BQ.out.below hX BQ.out.lt)
   replace PI:=Lib.hid (PI.out.below hX)
   replace W:=Lib.hid (W.out.trans (hX.mono W.out.size))
   clear hX BW
   try dsimp only
   refine wpAny_take (i:=7) (oi:=?oi141) (v:=.bool true) ?hi141 (by kernel_rfl) (by kernel_rfl) (by kernel_rfl) ?hQ141 ?hy141 ?rest141
   case hi141=>simp only [zge]; rfl
   case hQ141=>exact fun _ _ _ h=>h
   case hy141=>exact Or.inl ⟨by rfl,by intro w; go_simp⟩
   try simp only [zpt]
   refine wpAny_take (i:=8) (oi:=?oi142) (v:=.pointer (some ⟨g,0,none⟩)) ?hi142 (by kernel_rfl) (by kernel_rfl) (by kernel_rfl) ?hQ142 ?hy142 ?rest142
   case hi142=>simp only [zge]; rfl
   case hQ142=>exact fun _ _ _ h=>h
   case hy142=>exact Or.inl ⟨by rfl,by intro w; go_simp⟩
   try simp only [zpt]
   refine wpAny_take (i:=10) (oi:=?oi143) (v:=.int .i64 other) ?hi143 (by kernel_rfl) (by kernel_rfl) (by kernel_rfl) ?hQ143 ?hy143 ?rest143
   case hi143=>simp only [zge]; rfl
   case hQ143=>exact fun _ _ _ h=>h
   case hy143=>exact Or.inl ⟨by rfl,by intro w; go_simp⟩
   try simp only [zpt]
   refine phaseL (fun i=>if i=11 then [9] else if i=12 then [11] else if i=14 then [9,11,12,13] else []) (fun d a w'=>∃ x129 x131 x132 x133 x134:Value,a={ tmps:=#[.slice A n c,.slice A' n' c',.int .i64 k,.int .i64 other,.int .i64 how,.int .i64 (az:Int),.int .u8 rb,undef,undef,undef,undef,undef,undef,undef,.bool false,.bool true,.pointer (some ⟨g,0,none⟩),.slice AL nl cl,.bool true,.pointer (some ⟨q,0,none⟩),.bool true,.bool true,.bool false,.tuple #[.pointer (some ⟨g,0,none⟩),.slice AL nl cl,.bool true],.slice A n c,.slice A' n' c',.tuple #[.pointer (some ⟨g,0,none⟩),.slice AL nl cl,.bool true],.pointer (some ⟨g,0,none⟩),.slice AL nl cl,.bool true,.bool true,.bool false,.bool false,.int .i64 (az:Int),.bool (decide ((az:Int) < 0)),.bool (decide ((az:Int) < 0)),undef,.pointer (some ⟨g,0,none⟩),.int .i64 k,.agg NC.toArray,.agg (proofL (.slice A0 n0 c0') P.has (List.map cellOf P.lab) (List.map cellOf P.sum)).toArray,.pointer (some ⟨q,0,none⟩),.slice A0 n0 c0',.slice A1 n1 c1,.pointer (some ⟨q,0,none⟩),.int .i64 how,.int .i64 (how.tmod 6),.int .i64 (how.tmod 6 + 6),.int .i64 2,undef,undef,undef,undef,undef,undef,undef,undef,undef,undef,undef,undef,.bool false,.bool false,undef,undef,undef,undef,undef,undef,undef,undef,undef,undef,undef,undef,undef,undef,undef,undef,undef,undef,undef,undef,.bool false,.bool false,undef,undef,undef,undef,.bool true,.bool true,.int .i64 (az:Int),.int .i64 ((az:Int) % 32),.pointer (some ⟨q,2,none⟩),.pointer (some ⟨q,2 + az % 32,none⟩),.int .u8 (yb.toNat:Int),.int .u8 rb,.int .u8 (bits .xor .u8 (yb.toNat:Int) rb),.pointer (some ⟨q,2,none⟩),.pointer (some ⟨q,2 + az % 32,none⟩),undef,undef,undef,undef,undef,undef,undef,undef,undef,undef,undef,undef,undef,undef,undef,undef,undef,undef,undef,undef,.pointer (some ⟨g,0,none⟩),.agg RC.toArray,.int .i64 k,.agg NC.toArray,.agg SC.toArray,.agg QQ.toArray,.bool true,.bool true,.pointer (some ⟨g,0,none⟩),x129,.int .i64 other,x131,x132,x133,x134,undef],defers:=[] }/\Hid (Below v135.heap.size v135 w')/\(d 9=true->x129 = .agg RC.toArray)/\(d 11=true->x131 = .agg OC.toArray)/\(d 12=true->x132 = .agg SC.toArray)/\(d 13=true->x133 = .agg QQ.toArray)/\(d 14=true->x134 = .bool true)) [9,11,12,13,14] ?step144 2 5 [9,11,12,13,14] _ _ _ rfl (by decide) (fun _ h=>h) (Fits.of (by kernel_rfl)) ?init144 ?fin144
   case init144=>refine ⟨_,_,_,_,_,rfl,Below.refl _ _,?_,?_,?_,?_,?_⟩ <;> (intro h; exact absurd h (by decide))
   case step144 =>
    intro i hi d a v144 hI hdi hdeps
    obtain ⟨x129,x131,x132,x133,x134,rfl,BW,h9,h11,h12,h13,h14⟩:=hI
    have hsw:=BW.out.size
    simp only [List.mem_cons,List.not_mem_nil,or_false] at hi
    rcases hi with rfl | rfl | rfl | rfl | rfl
    ·refine wpOp_step (o:=?os145) ?hos145 (fun K hK=>?_)
     case hos145=>simp only [zge]; rfl
     go_simp
     refine (CR.out v144 (T.out.low BW.out)).mono ?_
     rintro e u144 ⟨rfl,hX⟩
     refine hK _ _ ?_
     clear hK K
     try simp only [zpt]
     exact ⟨_,_,_,_,_,rfl,BW.out.trans (hX.mono hsw),fun _=>rfl,fun a=>by first | exact h11 (by simpa using a) | rfl,fun a=>by first | exact h12 (by simpa using a) | rfl,fun a=>by first | exact h13 (by simpa using a) | rfl,fun a=>by first | exact h14 (by simpa using a) | rfl⟩
    ·refine wpOp_step (o:=?os146) ?hos146 (fun K hK=>?_)
     case hos146=>simp only [zge]; rfl
     go_simp
     refine (CO.out v144 ).mono ?_
     rintro e u144 ⟨rfl,hX⟩
     refine hK _ _ ?_
     clear hK K
     try simp only [zpt]
     exact ⟨_,_,_,_,_,rfl,BW.out.trans (hX.mono hsw),fun a=>by first | exact h9 (by simpa using a) | rfl,fun _=>rfl,fun a=>by first | exact h12 (by simpa using a) | rfl,fun a=>by first | exact h13 (by simpa using a) | rfl,fun a=>by first | exact h14 (by simpa using a) | rfl⟩
    ·refine wpOp_step (o:=?os147) ?hos147 (fun K hK=>?_)
     case hos147=>simp only [zge]; rfl
     go_simp
     refine (C3.out v144 ).mono ?_
     rintro e u144 ⟨rfl,hX⟩
     refine hK _ _ ?_
     clear hK K
     try simp only [zpt]
     exact ⟨_,_,_,_,_,rfl,BW.out.trans (hX.mono hsw),fun a=>by first | exact h9 (by simpa using a) | rfl,fun a=>by first | exact h11 (by simpa using a) | rfl,fun _=>rfl,fun a=>by first | exact h13 (by simpa using a) | rfl,fun a=>by first | exact h14 (by simpa using a) | rfl⟩
    ·refine wpOp_step (o:=?os148) ?hos148 (fun K hK=>?_)
     case hos148=>simp only [zge]; rfl
     refine step_loadW (by kernel_rfl) 38 (.tmp 19) rfl q 0 rfl QQ _ Tryd.underlying38 rfl IQ.out (BQ.out.below BW.out BQ.out.lt |>.cells) (hK _ _ ?_)
     clear hK K
     try simp only [zpt]
     exact ⟨_,_,_,_,_,rfl,BW,fun a=>by first | exact h9 (by simpa using a) | rfl,fun a=>by first | exact h11 (by simpa using a) | rfl,fun a=>by first | exact h12 (by simpa using a) | rfl,fun _=>rfl,fun a=>by first | exact h14 (by simpa using a) | rfl⟩
    ·obtain rfl:=h9 (hdeps 9 (by simp))
     obtain rfl:=h11 (hdeps 11 (by simp))
     obtain rfl:=h12 (hdeps 12 (by simp))
     obtain rfl:=h13 (hdeps 13 (by simp))
     refine wpOp_step (o:=?os149) ?hos149 (fun K hK=>?_)
     case hos149=>simp only [zge]; rfl
     go_simp
     refine (CB.out v144 _ _ (W.out.trans (BW.out.mono W.out.size)) (PI.out.below BW.out)).mono ?_
     rintro e u144 ⟨rfl,hX⟩
     refine hK _ _ ?_
     clear hK K
     try simp only [zpt]
     exact ⟨_,_,_,_,_,rfl,BW.out.trans (hX.mono hsw),fun a=>by first | exact h9 (by simpa using a) | rfl,fun a=>by first | exact h11 (by simpa using a) | rfl,fun a=>by first | exact h12 (by simpa using a) | rfl,fun a=>by first | exact h13 (by simpa using a) | rfl,fun _=>rfl⟩
   case fin144 =>
    intro a v144 hI
    obtain ⟨x129,x131,x132,x133,x134,rfl,BW,h9,h11,h12,h13,h14⟩:=hI
    obtain rfl:=h9 (by decide)
    obtain rfl:=h11 (by decide)
    obtain rfl:=h12 (by decide)
    obtain rfl:=h13 (by decide)
    obtain rfl:=h14 (by decide)
    clear h9 h11 h12 h13 h14
    have hX:=BW.out
    replace T:=Lib.hid (T.out.low hX)
    replace BQ:=Lib.hid (BQ.out.below hX BQ.out.lt)
    replace PI:=Lib.hid (PI.out.below hX)
    replace W:=Lib.hid (W.out.trans (hX.mono W.out.size))
    clear hX BW
    try dsimp only
    refine wpAny_take (i:=15) (oi:=?oi150) (v:=.bool true) ?hi150 (by kernel_rfl) (by kernel_rfl) (by kernel_rfl) ?hQ150 ?hy150 ?rest150
    case hi150=>simp only [zge]; rfl
    case hQ150=>exact fun _ _ _ h=>h
    case hy150=>exact Or.inl ⟨by rfl,by intro w; go_simp⟩
    try simp only [zpt]
    refine wpAny_take (i:=16) (oi:=?oi151) (v:=.bool true) ?hi151 (by kernel_rfl) (by kernel_rfl) (by kernel_rfl) ?hQ151 ?hy151 ?rest151
    case hi151=>simp only [zge]; rfl
    case hQ151=>exact fun _ _ _ h=>h
    case hy151=>exact Or.inl ⟨by rfl,by intro w; go_simp⟩
    try simp only [zpt]
    refine wpAny_done (by kernel_rfl) ?_ _
    go_wp2_with fail
    go_ret
    exact ⟨rfl,W.out⟩
 ·obtain ⟨yb,hyb⟩:∃ y,y=P.sum.getD (az % 32) 0:=⟨_,rfl⟩
  have c8:w8.cell? ⟨q,34 + az % 32,none⟩=some (.int .u8 (yb.toNat:Int)):=by
   rw [hyb,B8.out.cell,<- HSP.out (az % 32) ha32]
   rw [proofL,show 34 + az % 32=(32 + az % 32) + 1 + 1 by omega,List.getElem?_cons_succ,List.getElem?_cons_succ,List.getElem?_append_right (by omega),hLC,Nat.add_sub_cancel_left]
  have HYB:=Lib.hid hyb
  clear hyb
  have f8:w8.frozen? ⟨q,34 + az % 32,none⟩=false:=B8.out.frozen _
  go_upto_region 23 with (fail)
  clear c8 f8 hmw
  have RW9:∀ (off:Nat) (v:Value),Rd2 (w8.setCell ⟨q,off,none⟩ v) 32 A1 n1 c1 (hashes P.sides):=fun off v=>RW8.out.keep (by simp [World.setCell]) fun ad h0 _ _=>Go.RowKit.Below.heap_setCell _ _ _ _ (fun e=>by
   obtain ⟨A2,c2,hv2,_,hown2⟩:=OW8.out.rd
   have hA2:A1=A2:=by injection hv2
   have h3:=(hown2 ad (by rw [<- hA2]; exact h0)).2.2
   exact OW8.out.ne B8.out (by decide) (by rw [h3]; exact congrArg some e.symm))
  have BQ9:Hid (Blk (w8.setCell ⟨q,34 + az % 32,none⟩ (.int .u8 (bits .xor .u8 (yb.toNat:Int) rb))) q 38 (proofL (.slice A1 n1 c1) P.has (P.lab.map cellOf) ((P.sum.set (az % 32) (P.sum.getD (az % 32) 0 ^^^ x)).map cellOf))):=by have:=B8.out.set_ (34 + az % 32) (.int .u8 (bits .xor .u8 (yb.toNat:Int) rb)); rw [proofL_set3 _ _ _ _ _ hLC,HXOR.out,show Value.int .u8 ((yb ^^^ x).toNat:Int)=cellOf (yb ^^^ x) from rfl,HYB.out,<- List.map_set] at this; rw [HXOR.out,HYB.out]; exact this
  have PI9:Hid (PrfIn (w8.setCell ⟨q,34 + az % 32,none⟩ (.int .u8 (bits .xor .u8 (yb.toNat:Int) rb))) (.agg (proofL (.slice A1 n1 c1) P.has (P.lab.map cellOf) ((P.sum.set (az % 32) (P.sum.getD (az % 32) 0 ^^^ x)).map cellOf)).toArray) ⟨P.sides,P.has,P.lab,(P.sum.set (az % 32) (P.sum.getD (az % 32) 0 ^^^ x))⟩):=prf_make (RW9 _ _) (by omega) (by simp [hlab]) (by simp [hsum]) HPE.out
  have T9:Hid (TreeAt (w8.setCell ⟨q,34 + az % 32,none⟩ (.int .u8 (bits .xor .u8 (yb.toNat:Int) rb))) g l):=tree_cell T.out B8.out (by decide) (by decide) (by decide) _
  have W9:Hid (Below w.heap.size w (w8.setCell ⟨q,34 + az % 32,none⟩ (.int .u8 (bits .xor .u8 (yb.toNat:Int) rb)))):=W.out.setCell hwq _
  generalize w8.setCell ⟨q,34 + az % 32,none⟩ (.int .u8 (bits .xor .u8 (yb.toNat:Int) rb))=w9 at *
  clear T W
  have T:=Lib.hid T9.out
  have W:=Lib.hid W9.out
  obtain ⟨QQ,hQQ⟩:∃ L,L=proofL (.slice A1 n1 c1) P.has (P.lab.map cellOf) ((P.sum.set (az % 32) (P.sum.getD (az % 32) 0 ^^^ x)).map cellOf):=⟨_,rfl⟩
  rw [<- hQQ] at BQ9 PI9
  have BQ:=Lib.hid BQ9.out
  have PI:=Lib.hid PI9.out
  clear T9 W9 BQ9 PI9 hQQ OW8 B8 RW8 eh
  have IQ:Hid ((Tryd.prog.info? 38).map (·.size)=some QQ.length):=by
   obtain ⟨A9,n9,c9,e9,_,_⟩:=PI.out.at_
   unfold Hid
   rw [show QQ=proofL (.slice A9 n9 c9) _ _ _ by injection e9 with e9; simpa using e9]
   exact proofL_info (by simpa using PI.out.lab) (by simpa using PI.out.sum)
  have hX:=(Below.refl w9.heap.size w9).drew
  replace T:=Lib.hid (T.out.low hX)
  replace BQ:=Lib.hid (BQ.out.below hX BQ.out.lt)
  replace PI:=Lib.hid (PI.out.below hX)
  replace W:=Lib.hid (W.out.trans (hX.mono W.out.size))
  clear hX
  refine wp_region_any (by kernel_rfl) ?_
  change wpAny _ _ _ _ _ _ _ (World.drew _)
  generalize w9.drew=wd at *
  refine wpAny_take (i:=0) (oi:=?oi152) (v:=.pointer (some ⟨g,0,none⟩)) ?hi152 (by kernel_rfl) (by kernel_rfl) (by kernel_rfl) ?hQ152 ?hy152 ?rest152
  case hi152=>simp only [zge]; rfl
  case hQ152=>exact fun _ _ _ h=>h
  case hy152=>exact Or.inl ⟨by rfl,by intro w; go_simp⟩
  try simp only [zpt]
  refine wpAny_take (i:=2) (oi:=?oi153) (v:=.int .i64 k) ?hi153 (by kernel_rfl) (by kernel_rfl) (by kernel_rfl) ?hQ153 ?hy153 ?rest153
  case hi153=>simp only [zge]; rfl
  case hQ153=>exact fun _ _ _ h=>h
  case hy153=>exact Or.inl ⟨by rfl,by intro w; go_simp⟩
  try simp only [zpt]
  refine phaseL (fun i=>if i=3 then [1] else if i=4 then [3] else if i=6 then [1,3,4,5] else []) (fun d a w'=>∃ x121 x123 x124 x125 x126:Value,a={ tmps:=#[.slice A n c,.slice A' n' c',.int .i64 k,.int .i64 other,.int .i64 how,.int .i64 (az:Int),.int .u8 rb,undef,undef,undef,undef,undef,undef,undef,.bool false,.bool true,.pointer (some ⟨g,0,none⟩),.slice AL nl cl,.bool true,.pointer (some ⟨q,0,none⟩),.bool true,.bool true,.bool false,.tuple #[.pointer (some ⟨g,0,none⟩),.slice AL nl cl,.bool true],.slice A n c,.slice A' n' c',.tuple #[.pointer (some ⟨g,0,none⟩),.slice AL nl cl,.bool true],.pointer (some ⟨g,0,none⟩),.slice AL nl cl,.bool true,.bool true,.bool false,.bool false,.int .i64 (az:Int),.bool (decide ((az:Int) < 0)),.bool (decide ((az:Int) < 0)),undef,.pointer (some ⟨g,0,none⟩),.int .i64 k,.agg NC.toArray,.agg (proofL (.slice A0 n0 c0') P.has (List.map cellOf P.lab) (List.map cellOf P.sum)).toArray,.pointer (some ⟨q,0,none⟩),.slice A0 n0 c0',.slice A1 n1 c1,.pointer (some ⟨q,0,none⟩),.int .i64 how,.int .i64 (how.tmod 6),.int .i64 (how.tmod 6 + 6),.int .i64 3,undef,undef,undef,undef,undef,undef,undef,undef,undef,undef,undef,undef,.bool false,.bool false,undef,undef,undef,undef,undef,undef,undef,undef,undef,undef,undef,undef,undef,undef,undef,undef,undef,undef,undef,undef,.bool false,.bool false,undef,undef,undef,undef,.bool false,.bool false,undef,undef,undef,undef,undef,undef,undef,undef,undef,.bool true,.bool true,.int .i64 (az:Int),.int .i64 ((az:Int) % 32),.pointer (some ⟨q,34,none⟩),.pointer (some ⟨q,34 + az % 32,none⟩),.int .u8 (yb.toNat:Int),.int .u8 rb,.int .u8 (bits .xor .u8 (yb.toNat:Int) rb),.pointer (some ⟨q,34,none⟩),.pointer (some ⟨q,34 + az % 32,none⟩),undef,undef,undef,undef,undef,undef,undef,undef,undef,.pointer (some ⟨g,0,none⟩),x121,.int .i64 k,x123,x124,x125,x126,undef,undef,undef,undef,undef,undef,undef,undef,undef],defers:=[] }/\Hid (Below wd.heap.size wd w')/\(d 1=true->x121 = .agg RC.toArray)/\(d 3=true->x123 = .agg NC.toArray)/\(d 4=true->x124 = .agg SC.toArray)/\(d 5=true->x125 = .agg QQ.toArray)/\(d 6=true->x126 = .bool true)) [1,3,4,5,6] ?step154 10 5 [1,3,4,5,6] _ _ _ rfl (by decide) (fun _ h=>h) (Fits.of (by kernel_rfl)) ?init154 ?fin154
  case init154=>refine ⟨_,_,_,_,_,rfl,Below.refl _ _,?_,?_,?_,?_,?_⟩ <;> (intro h; exact absurd h (by decide))
  case step154 =>
   intro i hi d a v154 hI hdi hdeps
   obtain ⟨x121,x123,x124,x125,x126,rfl,BW,h1,h3,h4,h5,h6⟩:=hI
   have hsw:=BW.out.size
   simp only [List.mem_cons,List.not_mem_nil,or_false] at hi
   rcases hi with rfl | rfl | rfl | rfl | rfl
   ·refine wpOp_step (o:=?os155) ?hos155 (fun K hK=>?_)
    case hos155=>simp only [zge]; rfl
    go_simp
    refine (CR.out v154 (T.out.low BW.out)).mono ?_
    rintro e u154 ⟨rfl,hX⟩
    refine hK _ _ ?_
    clear hK K
    try simp only [zpt]
    exact ⟨_,_,_,_,_,rfl,BW.out.trans (hX.mono hsw),fun _=>rfl,fun a=>by first | exact h3 (by simpa using a) | rfl,fun a=>by first | exact h4 (by simpa using a) | rfl,fun a=>by first | exact h5 (by simpa using a) | rfl,fun a=>by first | exact h6 (by simpa using a) | rfl⟩
   ·refine wpOp_step (o:=?os156) ?hos156 (fun K hK=>?_)
    case hos156=>simp only [zge]; rfl
    go_simp
    refine (CN.out v154 ).mono ?_
    rintro e u154 ⟨rfl,hX⟩
    refine hK _ _ ?_
    clear hK K
    try simp only [zpt]
    exact ⟨_,_,_,_,_,rfl,BW.out.trans (hX.mono hsw),fun a=>by first | exact h1 (by simpa using a) | rfl,fun _=>rfl,fun a=>by first | exact h4 (by simpa using a) | rfl,fun a=>by first | exact h5 (by simpa using a) | rfl,fun a=>by first | exact h6 (by simpa using a) | rfl⟩
   ·refine wpOp_step (o:=?os157) ?hos157 (fun K hK=>?_)
    case hos157=>simp only [zge]; rfl
    go_simp
    refine (C3.out v154 ).mono ?_
    rintro e u154 ⟨rfl,hX⟩
    refine hK _ _ ?_
    clear hK K
    try simp only [zpt]
    exact ⟨_,_,_,_,_,rfl,BW.out.trans (hX.mono hsw),fun a=>by first | exact h1 (by simpa using a) | rfl,fun a=>by first | exact h3 (by simpa using a) | rfl,fun _=>rfl,fun a=>by first | exact h5 (by simpa using a) | rfl,fun a=>by first | exact h6 (by simpa using a) | rfl⟩
   ·refine wpOp_step (o:=?os158) ?hos158 (fun K hK=>?_)
    case hos158=>simp only [zge]; rfl
    refine step_loadW rfl 38 (.tmp 19) rfl q 0 rfl QQ _ Tryd.underlying38 rfl IQ.out (BQ.out.below BW.out BQ.out.lt).cells (hK _ _ ?_)
    clear hK K
    try simp only [zpt]
    exact ⟨_,_,_,_,_,rfl,BW,fun a=>by first | exact h1 (by simpa using a) | rfl,fun a=>by first | exact h3 (by simpa using a) | rfl,fun a=>by first | exact h4 (by simpa using a) | rfl,fun _=>rfl,fun a=>by first | exact h6 (by simpa using a) | rfl⟩
   ·obtain rfl:=h1 (hdeps 1 (by simp))
    obtain rfl:=h3 (hdeps 3 (by simp))
    obtain rfl:=h4 (hdeps 4 (by simp))
    obtain rfl:=h5 (hdeps 5 (by simp))
    refine wpOp_step (o:=?os159) ?hos159 (fun K hK=>?_)
    case hos159=>simp only [zge]; rfl
    go_simp
    refine (CA.out v154 _ _ (W.out.trans (BW.out.mono W.out.size)) (PI.out.below BW.out)).mono ?_
    rintro e u154 ⟨rfl,hX⟩
    refine hK _ _ ?_
    clear hK K
    try simp only [zpt]
    exact ⟨_,_,_,_,_,rfl,BW.out.trans (hX.mono hsw),fun a=>by first | exact h1 (by simpa using a) | rfl,fun a=>by first | exact h3 (by simpa using a) | rfl,fun a=>by first | exact h4 (by simpa using a) | rfl,fun a=>by first | exact h5 (by simpa using a) | rfl,fun _=>rfl⟩
  case fin154 =>
   intro a v154 hI
   obtain ⟨x121,x123,x124,x125,x126,rfl,BW,h1,h3,h4,h5,h6⟩:=hI
   obtain rfl:=h1 (by decide)
   obtain rfl:=h3 (by decide)
   obtain rfl:=h4 (by decide)
   obtain rfl:=h5 (by decide)
   obtain rfl:=h6 (by decide)
   clear h1 h3 h4 h5 h6
   have hX:=BW.out
   replace T:=Lib.hid (T.out.low hX)
   replace BQ:=Lib.hid (BQ.out.below hX BQ.out.lt)
   replace PI:=Lib.hid (PI.out.below hX)
   replace W:=Lib.hid (W.out.trans (hX.mono W.out.size))
   clear hX BW
   try dsimp only
   refine wpAny_take (i:=7) (oi:=?oi160) (v:=.bool true) ?hi160 (by kernel_rfl) (by kernel_rfl) (by kernel_rfl) ?hQ160 ?hy160 ?rest160
   case hi160=>simp only [zge]; rfl
   case hQ160=>exact fun _ _ _ h=>h
   case hy160=>exact Or.inl ⟨by rfl,by intro w; go_simp⟩
   try simp only [zpt]
   refine wpAny_take (i:=8) (oi:=?oi161) (v:=.pointer (some ⟨g,0,none⟩)) ?hi161 (by kernel_rfl) (by kernel_rfl) (by kernel_rfl) ?hQ161 ?hy161 ?rest161
   case hi161=>simp only [zge]; rfl
   case hQ161=>exact fun _ _ _ h=>h
   case hy161=>exact Or.inl ⟨by rfl,by intro w; go_simp⟩
   try simp only [zpt]
   refine wpAny_take (i:=10) (oi:=?oi162) (v:=.int .i64 other) ?hi162 (by kernel_rfl) (by kernel_rfl) (by kernel_rfl) ?hQ162 ?hy162 ?rest162
   case hi162=>simp only [zge]; rfl
   case hQ162=>exact fun _ _ _ h=>h
   case hy162=>exact Or.inl ⟨by rfl,by intro w; go_simp⟩
   try simp only [zpt]
   refine phaseL (fun i=>if i=11 then [9] else if i=12 then [11] else if i=14 then [9,11,12,13] else []) (fun d a w'=>∃ x129 x131 x132 x133 x134:Value,a={ tmps:=#[.slice A n c,.slice A' n' c',.int .i64 k,.int .i64 other,.int .i64 how,.int .i64 (az:Int),.int .u8 rb,undef,undef,undef,undef,undef,undef,undef,.bool false,.bool true,.pointer (some ⟨g,0,none⟩),.slice AL nl cl,.bool true,.pointer (some ⟨q,0,none⟩),.bool true,.bool true,.bool false,.tuple #[.pointer (some ⟨g,0,none⟩),.slice AL nl cl,.bool true],.slice A n c,.slice A' n' c',.tuple #[.pointer (some ⟨g,0,none⟩),.slice AL nl cl,.bool true],.pointer (some ⟨g,0,none⟩),.slice AL nl cl,.bool true,.bool true,.bool false,.bool false,.int .i64 (az:Int),.bool (decide ((az:Int) < 0)),.bool (decide ((az:Int) < 0)),undef,.pointer (some ⟨g,0,none⟩),.int .i64 k,.agg NC.toArray,.agg (proofL (.slice A0 n0 c0') P.has (List.map cellOf P.lab) (List.map cellOf P.sum)).toArray,.pointer (some ⟨q,0,none⟩),.slice A0 n0 c0',.slice A1 n1 c1,.pointer (some ⟨q,0,none⟩),.int .i64 how,.int .i64 (how.tmod 6),.int .i64 (how.tmod 6 + 6),.int .i64 3,undef,undef,undef,undef,undef,undef,undef,undef,undef,undef,undef,undef,.bool false,.bool false,undef,undef,undef,undef,undef,undef,undef,undef,undef,undef,undef,undef,undef,undef,undef,undef,undef,undef,undef,undef,.bool false,.bool false,undef,undef,undef,undef,.bool false,.bool false,undef,undef,undef,undef,undef,undef,undef,undef,undef,.bool true,.bool true,.int .i64 (az:Int),.int .i64 ((az:Int) % 32),.pointer (some ⟨q,34,none⟩),.pointer (some ⟨q,34 + az % 32,none⟩),.int .u8 (yb.toNat:Int),.int .u8 rb,.int .u8 (bits .xor .u8 (yb.toNat:Int) rb),.pointer (some ⟨q,34,none⟩),.pointer (some ⟨q,34 + az % 32,none⟩),undef,undef,undef,undef,undef,undef,undef,undef,undef,.pointer (some ⟨g,0,none⟩),.agg RC.toArray,.int .i64 k,.agg NC.toArray,.agg SC.toArray,.agg QQ.toArray,.bool true,.bool true,.pointer (some ⟨g,0,none⟩),x129,.int .i64 other,x131,x132,x133,x134,undef],defers:=[] }/\Hid (Below v154.heap.size v154 w')/\(d 9=true->x129 = .agg RC.toArray)/\(d 11=true->x131 = .agg OC.toArray)/\(d 12=true->x132 = .agg SC.toArray)/\(d 13=true->x133 = .agg QQ.toArray)/\(d 14=true->x134 = .bool true)) [9,11,12,13,14] ?step163 2 5 [9,11,12,13,14] _ _ _ rfl (by decide) (fun _ h=>h) (Fits.of (by kernel_rfl)) ?init163 ?fin163
   case init163=>refine ⟨_,_,_,_,_,rfl,Below.refl _ _,?_,?_,?_,?_,?_⟩ <;> (intro h; exact absurd h (by decide))
   case step163 =>
    intro i hi d a v163 hI hdi hdeps
    obtain ⟨x129,x131,x132,x133,x134,rfl,BW,h9,h11,h12,h13,h14⟩:=hI
    have hsw:=BW.out.size
    simp only [List.mem_cons,List.not_mem_nil,or_false] at hi
    rcases hi with rfl | rfl | rfl | rfl | rfl
    ·refine wpOp_step (o:=?os164) ?hos164 (fun K hK=>?_)
     case hos164=>simp only [zge]; rfl
     go_simp
     refine (CR.out v163 (T.out.low BW.out)).mono ?_
     rintro e u163 ⟨rfl,hX⟩
     refine hK _ _ ?_
     clear hK K
     try simp only [zpt]
     exact ⟨_,_,_,_,_,rfl,BW.out.trans (hX.mono hsw),fun _=>rfl,fun a=>by first | exact h11 (by simpa using a) | rfl,fun a=>by first | exact h12 (by simpa using a) | rfl,fun a=>by first | exact h13 (by simpa using a) | rfl,fun a=>by first | exact h14 (by simpa using a) | rfl⟩
    ·refine wpOp_step (o:=?os165) ?hos165 (fun K hK=>?_)
     case hos165=>simp only [zge]; rfl
     go_simp
     refine (CO.out v163 ).mono ?_
     rintro e u163 ⟨rfl,hX⟩
     refine hK _ _ ?_
     clear hK K
     try simp only [zpt]
     exact ⟨_,_,_,_,_,rfl,BW.out.trans (hX.mono hsw),fun a=>by first | exact h9 (by simpa using a) | rfl,fun _=>rfl,fun a=>by first | exact h12 (by simpa using a) | rfl,fun a=>by first | exact h13 (by simpa using a) | rfl,fun a=>by first | exact h14 (by simpa using a) | rfl⟩
    ·refine wpOp_step (o:=?os166) ?hos166 (fun K hK=>?_)
     case hos166=>simp only [zge]; rfl
     go_simp
     refine (C3.out v163 ).mono ?_
     rintro e u163 ⟨rfl,hX⟩
     refine hK _ _ ?_
     clear hK K
     try simp only [zpt]
     exact ⟨_,_,_,_,_,rfl,BW.out.trans (hX.mono hsw),fun a=>by first | exact h9 (by simpa using a) | rfl,fun a=>by first | exact h11 (by simpa using a) | rfl,fun _=>rfl,fun a=>by first | exact h13 (by simpa using a) | rfl,fun a=>by first | exact h14 (by simpa using a) | rfl⟩
    ·refine wpOp_step (o:=?os167) ?hos167 (fun K hK=>?_)
     case hos167=>simp only [zge]; rfl
     refine step_loadW (by kernel_rfl) 38 (.tmp 19) rfl q 0 rfl QQ _ Tryd.underlying38 rfl IQ.out (BQ.out.below BW.out BQ.out.lt |>.cells) (hK _ _ ?_)
     clear hK K
     try simp only [zpt]
     exact ⟨_,_,_,_,_,rfl,BW,fun a=>by first | exact h9 (by simpa using a) | rfl,fun a=>by first | exact h11 (by simpa using a) | rfl,fun a=>by first | exact h12 (by simpa using a) | rfl,fun _=>rfl,fun a=>by first | exact h14 (by simpa using a) | rfl⟩
    ·obtain rfl:=h9 (hdeps 9 (by simp))
     obtain rfl:=h11 (hdeps 11 (by simp))
     obtain rfl:=h12 (hdeps 12 (by simp))
     obtain rfl:=h13 (hdeps 13 (by simp))
     refine wpOp_step (o:=?os168) ?hos168 (fun K hK=>?_)
     case hos168=>simp only [zge]; rfl
     go_simp
     refine (CB.out v163 _ _ (W.out.trans (BW.out.mono W.out.size)) (PI.out.below BW.out)).mono ?_
     rintro e u163 ⟨rfl,hX⟩
     refine hK _ _ ?_
     clear hK K
     try simp only [zpt]
     exact ⟨_,_,_,_,_,rfl,BW.out.trans (hX.mono hsw),fun a=>by first | exact h9 (by simpa using a) | rfl,fun a=>by first | exact h11 (by simpa using a) | rfl,fun a=>by first | exact h12 (by simpa using a) | rfl,fun a=>by first | exact h13 (by simpa using a) | rfl,fun _=>rfl⟩
   case fin163 =>
    intro a v163 hI
    obtain ⟨x129,x131,x132,x133,x134,rfl,BW,h9,h11,h12,h13,h14⟩:=hI
    obtain rfl:=h9 (by decide)
    obtain rfl:=h11 (by decide)
    obtain rfl:=h12 (by decide)
    obtain rfl:=h13 (by decide)
    obtain rfl:=h14 (by decide)
    clear h9 h11 h12 h13 h14
    have hX:=BW.out
    replace T:=Lib.hid (T.out.low hX)
    replace BQ:=Lib.hid (BQ.out.below hX BQ.out.lt)
    replace PI:=Lib.hid (PI.out.below hX)
    replace W:=Lib.hid (W.out.trans (hX.mono W.out.size))
    clear hX BW
    try dsimp only
    refine wpAny_take (i:=15) (oi:=?oi169) (v:=.bool true) ?hi169 (by kernel_rfl) (by kernel_rfl) (by kernel_rfl) ?hQ169 ?hy169 ?rest169
    case hi169=>simp only [zge]; rfl
    case hQ169=>exact fun _ _ _ h=>h
    case hy169=>exact Or.inl ⟨by rfl,by intro w; go_simp⟩
    try simp only [zpt]
    refine wpAny_take (i:=16) (oi:=?oi170) (v:=.bool true) ?hi170 (by kernel_rfl) (by kernel_rfl) (by kernel_rfl) ?hQ170 ?hy170 ?rest170
    case hi170=>simp only [zge]; rfl
    case hQ170=>exact fun _ _ _ h=>h
    case hy170=>exact Or.inl ⟨by rfl,by intro w; go_simp⟩
    try simp only [zpt]
    refine wpAny_done (by kernel_rfl) ?_ _
    go_wp2_with fail
    go_ret
    exact ⟨rfl,W.out⟩
 ·have c8:w8.cell? ⟨q,0,none⟩=some (.slice A1 n1 c1):=B8.out.cell 0
  have f8:w8.frozen? ⟨q,0,none⟩=false:=B8.out.frozen 0
  obtain ⟨XC,hXC⟩:∃ L,L=(x :: List.replicate 31 0).map cellOf:=⟨_,rfl⟩
  have hxl:(x :: List.replicate 31 (0:UInt8)).length=32:=rfl
  have hXl:XC.length=32:=by rw [hXC]; rfl
  have HBX:Hid (Tryd.prog.built 30 [(0,.int .u8 rb)]=some XC.toArray):=by unfold Hid; rw [turn_built,hXC,HRB.out]; rfl
  have HRX:=Lib.hid (hashRow hXl w8)
  obtain ⟨v2,w10,happ2,hO2,hG2,_⟩:=push_hash (ty:=36) (c:=1) (OW8.out.below (alloc_below w8 (.cells XC.toArray 30))) (by rw [hXC]; exact Blk.new w8 30 _:Blk (w8.alloc (.cells XC.toArray 30)) w8.heap.size 30 ((x :: List.replicate 31 0).map cellOf)) hxl (by have:=HN1.out; omega) (by have:=W.out.size; simp; omega)
  have hlr:w8.heap.size<=(w8.alloc (.cells XC.toArray 30)).heap.size:=by simp
  have hXa:=alloc_below w8 (.cells XC.toArray 30)
  have OWa:=OW8.out.below hXa
  have T10:Hid (TreeAt w10 g l):=tree_own (T.out.low hXa) OWa hG2
  have B10:Hid (Blk w10 q 38 (proofL (.slice A1 n1 c1) P.has (P.lab.map cellOf) (P.sum.map cellOf))):=(hG2.block q (B8.out.below hXa B8.out.lt).lt (OWa.ne (B8.out.below hXa B8.out.lt) (by decide))).trans (B8.out.below hXa B8.out.lt)
  have W10:Hid (Below w.heap.size w w10):=(W.out.trans (hXa.mono W.out.size)).grown hG2 (Nat.le_trans W.out.size hlr) (fun z hz=>(World.ownsRow.lt OWa.own z hz).1)
  obtain ⟨A2,c2,hv2,hR2,hown2⟩:=hO2.rd
  obtain ⟨n2,hn2⟩:∃ z,z=(hashes (P.sides ++ [x :: List.replicate 31 0])).length:=⟨_,rfl⟩
  have hn2':n2<=257:=by rw [hn2]; simp [hashes]; have:=HN1.out; omega
  rw [<- hn2] at hv2 hR2
  subst hv2
  have HAPP:=Lib.hid happ2
  have HR2:=Lib.hid hR2
  have HO2:=Lib.hid hO2
  have c10:w10.cell? ⟨q,0,none⟩=some (.slice A1 n1 c1):=B10.out.cell 0
  have f10:w10.frozen? ⟨q,0,none⟩=false:=B10.out.frozen 0
  clear happ2 hR2 hO2 hG2 hXC hn2 OWa hXa hXl hxl
  go_upto_region 23 with (first
   | ((with_reducible refine build_law ?hgd 30 #[(0,.tmp 115)] ?ho XC ?hb ?_); (case ho=>with_reducible rfl); (case hgd=>rfl); (case hb=>simp only [List.map_toArray,List.map_cons,List.map_nil]; exact HBX.out))
   | ((with_reducible refine bslice_law (v:=.slice (some ⟨w8.heap.size,0,none⟩) 1 1) (w':=w8.alloc (.cells XC.toArray 30)) ?hgd 36 1 #[(0,.tmp 116)] ?ho ?hr ?_); (case ho=>with_reducible rfl); (case hgd=>rfl); (case hr=>simp only [List.map_toArray,List.map_cons,List.map_nil]; exact HRX.out))
   | ((with_reducible refine append_law ?hgd (.tmp 114) (.tmp 117) 36 36 ?ho ?hs ?hx HAPP.out ?_); (case ho=>with_reducible rfl); (case hgd=>rfl); (case hs=>rfl); (case hx=>rfl)))
  clear c8 f8 hmw c10 f10
  have RW9:∀ (off:Nat) (v:Value),Rd2 (w10.setCell ⟨q,off,none⟩ v) 32 A2 n2 c2 (hashes (P.sides ++ [x :: List.replicate 31 0])):=fun off v=>HR2.out.keep (by simp [World.setCell]) fun ad h0 _ _=>Go.RowKit.Below.heap_setCell _ _ _ _ (fun e=>by
   have h3:=(hown2 ad h0).2.2
   exact HO2.out.ne B10.out (by decide) (by rw [h3]; exact congrArg some e.symm))
  have BQ9:Hid (Blk (w10.setCell ⟨q,0,none⟩ (.slice A2 n2 c2)) q 38 (proofL (.slice A2 n2 c2) P.has (P.lab.map cellOf) (P.sum.map cellOf))):=by have:=B10.out.set_ 0 (.slice A2 n2 c2); rw [proofL_set0] at this; exact this
  have PI9:Hid (PrfIn (w10.setCell ⟨q,0,none⟩ (.slice A2 n2 c2)) (.agg (proofL (.slice A2 n2 c2) P.has (P.lab.map cellOf) (P.sum.map cellOf)).toArray) ⟨P.sides ++ [x :: List.replicate 31 0],P.has,P.lab,P.sum⟩):=prf_make (RW9 _ _) (by omega) hlab hsum (fun y hy=>by rcases List.mem_append.1 hy with h | h; exact HPE.out y h; rw [List.mem_singleton.1 h]; rfl)
  have T9:Hid (TreeAt (w10.setCell ⟨q,0,none⟩ (.slice A2 n2 c2)) g l):=tree_cell T10.out B10.out (by decide) (by decide) (by decide) _
  have W9:Hid (Below w.heap.size w (w10.setCell ⟨q,0,none⟩ (.slice A2 n2 c2))):=W10.out.setCell hwq _
  generalize w10.setCell ⟨q,0,none⟩ (.slice A2 n2 c2)=w9 at *
  clear T W
  have T:=Lib.hid T9.out
  have W:=Lib.hid W9.out
  obtain ⟨QQ,hQQ⟩:∃ L,L=proofL (.slice A2 n2 c2) P.has (P.lab.map cellOf) (P.sum.map cellOf):=⟨_,rfl⟩
  rw [<- hQQ] at BQ9 PI9
  have BQ:=Lib.hid BQ9.out
  have PI:=Lib.hid PI9.out
  clear T9 W9 BQ9 PI9 hQQ OW8 B8 RW8 eh
  have IQ:Hid ((Tryd.prog.info? 38).map (·.size)=some QQ.length):=by
   obtain ⟨A9,n9,c9,e9,_,_⟩:=PI.out.at_
   unfold Hid
   rw [show QQ=proofL (.slice A9 n9 c9) _ _ _ by injection e9 with e9; simpa using e9]
   exact proofL_info (by simpa using PI.out.lab) (by simpa using PI.out.sum)
  have hX:=(Below.refl w9.heap.size w9).drew
  replace T:=Lib.hid (T.out.low hX)
  replace BQ:=Lib.hid (BQ.out.below hX BQ.out.lt)
  replace PI:=Lib.hid (PI.out.below hX)
  replace W:=Lib.hid (W.out.trans (hX.mono W.out.size))
  clear hX
  refine wp_region_any (by kernel_rfl) ?_
  change wpAny _ _ _ _ _ _ _ (World.drew _)
  generalize w9.drew=wd at *
  refine wpAny_take (i:=0) (oi:=?oi57) (v:=.pointer (some ⟨g,0,none⟩)) ?hi57 (by kernel_rfl) (by kernel_rfl) (by kernel_rfl) ?hQ57 ?hy57 ?rest57
  case hi57=>simp only [zge]; rfl
  case hQ57=>exact fun _ _ _ h=>h
  case hy57=>exact Or.inl ⟨by rfl,by intro w; go_simp⟩
  try simp only [zpt]
  refine wpAny_take (i:=2) (oi:=?oi58) (v:=.int .i64 k) ?hi58 (by kernel_rfl) (by kernel_rfl) (by kernel_rfl) ?hQ58 ?hy58 ?rest58
  case hi58=>simp only [zge]; rfl
  case hQ58=>exact fun _ _ _ h=>h
  case hy58=>exact Or.inl ⟨by rfl,by intro w; go_simp⟩
  try simp only [zpt]
  refine phaseL (fun i=>if i=3 then [1] else if i=4 then [3] else if i=6 then [1,3,4,5] else []) (fun d a w'=>∃ x121 x123 x124 x125 x126:Value,a={ tmps:=#[.slice A n c,.slice A' n' c',.int .i64 k,.int .i64 other,.int .i64 how,.int .i64 (az:Int),.int .u8 rb,undef,undef,undef,undef,undef,undef,undef,.bool false,.bool true,.pointer (some ⟨g,0,none⟩),.slice AL nl cl,.bool true,.pointer (some ⟨q,0,none⟩),.bool true,.bool true,.bool false,.tuple #[.pointer (some ⟨g,0,none⟩),.slice AL nl cl,.bool true],.slice A n c,.slice A' n' c',.tuple #[.pointer (some ⟨g,0,none⟩),.slice AL nl cl,.bool true],.pointer (some ⟨g,0,none⟩),.slice AL nl cl,.bool true,.bool true,.bool false,.bool false,.int .i64 (az:Int),.bool (decide ((az:Int) < 0)),.bool (decide ((az:Int) < 0)),undef,.pointer (some ⟨g,0,none⟩),.int .i64 k,.agg NC.toArray,.agg (proofL (.slice A0 n0 c0') P.has (List.map cellOf P.lab) (List.map cellOf P.sum)).toArray,.pointer (some ⟨q,0,none⟩),.slice A0 n0 c0',.slice A1 n1 c1,.pointer (some ⟨q,0,none⟩),.int .i64 how,.int .i64 (how.tmod 6),.int .i64 (how.tmod 6 + 6),.int .i64 4,undef,undef,undef,undef,undef,undef,undef,undef,undef,undef,undef,undef,.bool false,.bool false,undef,undef,undef,undef,undef,undef,undef,undef,undef,undef,undef,undef,undef,undef,undef,undef,undef,undef,undef,undef,.bool false,.bool false,undef,undef,undef,undef,.bool false,.bool false,undef,undef,undef,undef,undef,undef,undef,undef,undef,.bool false,.bool false,undef,undef,undef,undef,undef,undef,undef,undef,undef,.bool true,.bool true,.pointer (some ⟨q,0,none⟩),.slice A1 n1 c1,.int .u8 rb,.agg XC.toArray,.slice (some ⟨w8.heap.size,0,none⟩) 1 1,.slice A2 n2 c2,.pointer (some ⟨q,0,none⟩),.pointer (some ⟨g,0,none⟩),x121,.int .i64 k,x123,x124,x125,x126,undef,undef,undef,undef,undef,undef,undef,undef,undef],defers:=[] }/\Hid (Below wd.heap.size wd w')/\(d 1=true->x121 = .agg RC.toArray)/\(d 3=true->x123 = .agg NC.toArray)/\(d 4=true->x124 = .agg SC.toArray)/\(d 5=true->x125 = .agg QQ.toArray)/\(d 6=true->x126 = .bool true)) [1,3,4,5,6] ?step59 10 5 [1,3,4,5,6] _ _ _ rfl (by decide) (fun _ h=>h) (Fits.of (by kernel_rfl)) ?init59 ?fin59
  case init59=>refine ⟨_,_,_,_,_,rfl,Below.refl _ _,?_,?_,?_,?_,?_⟩ <;> (intro h; exact absurd h (by decide))
  case step59 =>
   intro i hi d a v59 hI hdi hdeps
   obtain ⟨x121,x123,x124,x125,x126,rfl,BW,h1,h3,h4,h5,h6⟩:=hI
   have hsw:=BW.out.size
   simp only [List.mem_cons,List.not_mem_nil,or_false] at hi
   rcases hi with rfl | rfl | rfl | rfl | rfl
   ·refine wpOp_step (o:=?os60) ?hos60 (fun K hK=>?_)
    case hos60=>simp only [zge]; rfl
    go_simp
    refine (CR.out v59 (T.out.low BW.out)).mono ?_
    rintro e u59 ⟨rfl,hX⟩
    refine hK _ _ ?_
    clear hK K
    try simp only [zpt]
    exact ⟨_,_,_,_,_,rfl,BW.out.trans (hX.mono hsw),fun _=>rfl,fun a=>by first | exact h3 (by simpa using a) | rfl,fun a=>by first | exact h4 (by simpa using a) | rfl,fun a=>by first | exact h5 (by simpa using a) | rfl,fun a=>by first | exact h6 (by simpa using a) | rfl⟩
   ·refine wpOp_step (o:=?os61) ?hos61 (fun K hK=>?_)
    case hos61=>simp only [zge]; rfl
    go_simp
    refine (CN.out v59 ).mono ?_
    rintro e u59 ⟨rfl,hX⟩
    refine hK _ _ ?_
    clear hK K
    try simp only [zpt]
    exact ⟨_,_,_,_,_,rfl,BW.out.trans (hX.mono hsw),fun a=>by first | exact h1 (by simpa using a) | rfl,fun _=>rfl,fun a=>by first | exact h4 (by simpa using a) | rfl,fun a=>by first | exact h5 (by simpa using a) | rfl,fun a=>by first | exact h6 (by simpa using a) | rfl⟩
   ·refine wpOp_step (o:=?os62) ?hos62 (fun K hK=>?_)
    case hos62=>simp only [zge]; rfl
    go_simp
    refine (C3.out v59 ).mono ?_
    rintro e u59 ⟨rfl,hX⟩
    refine hK _ _ ?_
    clear hK K
    try simp only [zpt]
    exact ⟨_,_,_,_,_,rfl,BW.out.trans (hX.mono hsw),fun a=>by first | exact h1 (by simpa using a) | rfl,fun a=>by first | exact h3 (by simpa using a) | rfl,fun _=>rfl,fun a=>by first | exact h5 (by simpa using a) | rfl,fun a=>by first | exact h6 (by simpa using a) | rfl⟩
   ·refine wpOp_step (o:=?os63) ?hos63 (fun K hK=>?_)
    case hos63=>simp only [zge]; rfl
    refine step_loadW rfl 38 (.tmp 19) rfl q 0 rfl QQ _ Tryd.underlying38 rfl IQ.out (BQ.out.below BW.out BQ.out.lt).cells (hK _ _ ?_)
    clear hK K
    try simp only [zpt]
    exact ⟨_,_,_,_,_,rfl,BW,fun a=>by first | exact h1 (by simpa using a) | rfl,fun a=>by first | exact h3 (by simpa using a) | rfl,fun a=>by first | exact h4 (by simpa using a) | rfl,fun _=>rfl,fun a=>by first | exact h6 (by simpa using a) | rfl⟩
   ·obtain rfl:=h1 (hdeps 1 (by simp))
    obtain rfl:=h3 (hdeps 3 (by simp))
    obtain rfl:=h4 (hdeps 4 (by simp))
    obtain rfl:=h5 (hdeps 5 (by simp))
    refine wpOp_step (o:=?os64) ?hos64 (fun K hK=>?_)
    case hos64=>simp only [zge]; rfl
    go_simp
    refine (CA.out v59 _ _ (W.out.trans (BW.out.mono W.out.size)) (PI.out.below BW.out)).mono ?_
    rintro e u59 ⟨rfl,hX⟩
    refine hK _ _ ?_
    clear hK K
    try simp only [zpt]
    exact ⟨_,_,_,_,_,rfl,BW.out.trans (hX.mono hsw),fun a=>by first | exact h1 (by simpa using a) | rfl,fun a=>by first | exact h3 (by simpa using a) | rfl,fun a=>by first | exact h4 (by simpa using a) | rfl,fun a=>by first | exact h5 (by simpa using a) | rfl,fun _=>rfl⟩
  case fin59 =>
   intro a v59 hI
   obtain ⟨x121,x123,x124,x125,x126,rfl,BW,h1,h3,h4,h5,h6⟩:=hI
   obtain rfl:=h1 (by decide)
   obtain rfl:=h3 (by decide)
   obtain rfl:=h4 (by decide)
   obtain rfl:=h5 (by decide)
   obtain rfl:=h6 (by decide)
   clear h1 h3 h4 h5 h6
   have hX:=BW.out
   replace T:=Lib.hid (T.out.low hX)
   replace BQ:=Lib.hid (BQ.out.below hX BQ.out.lt)
   replace PI:=Lib.hid (PI.out.below hX)
   replace W:=Lib.hid (W.out.trans (hX.mono W.out.size))
   clear hX BW
   try dsimp only
   refine wpAny_take (i:=7) (oi:=?oi65) (v:=.bool true) ?hi65 (by kernel_rfl) (by kernel_rfl) (by kernel_rfl) ?hQ65 ?hy65 ?rest65
   case hi65=>simp only [zge]; rfl
   case hQ65=>exact fun _ _ _ h=>h
   case hy65=>exact Or.inl ⟨by rfl,by intro w; go_simp⟩
   try simp only [zpt]
   refine wpAny_take (i:=8) (oi:=?oi66) (v:=.pointer (some ⟨g,0,none⟩)) ?hi66 (by kernel_rfl) (by kernel_rfl) (by kernel_rfl) ?hQ66 ?hy66 ?rest66
   case hi66=>simp only [zge]; rfl
   case hQ66=>exact fun _ _ _ h=>h
   case hy66=>exact Or.inl ⟨by rfl,by intro w; go_simp⟩
   try simp only [zpt]
   refine wpAny_take (i:=10) (oi:=?oi67) (v:=.int .i64 other) ?hi67 (by kernel_rfl) (by kernel_rfl) (by kernel_rfl) ?hQ67 ?hy67 ?rest67
   case hi67=>simp only [zge]; rfl
   case hQ67=>exact fun _ _ _ h=>h
   case hy67=>exact Or.inl ⟨by rfl,by intro w; go_simp⟩
   try simp only [zpt]
   refine phaseL (fun i=>if i=11 then [9] else if i=12 then [11] else if i=14 then [9,11,12,13] else []) (fun d a w'=>∃ x129 x131 x132 x133 x134:Value,a={ tmps:=#[.slice A n c,.slice A' n' c',.int .i64 k,.int .i64 other,.int .i64 how,.int .i64 (az:Int),.int .u8 rb,undef,undef,undef,undef,undef,undef,undef,.bool false,.bool true,.pointer (some ⟨g,0,none⟩),.slice AL nl cl,.bool true,.pointer (some ⟨q,0,none⟩),.bool true,.bool true,.bool false,.tuple #[.pointer (some ⟨g,0,none⟩),.slice AL nl cl,.bool true],.slice A n c,.slice A' n' c',.tuple #[.pointer (some ⟨g,0,none⟩),.slice AL nl cl,.bool true],.pointer (some ⟨g,0,none⟩),.slice AL nl cl,.bool true,.bool true,.bool false,.bool false,.int .i64 (az:Int),.bool (decide ((az:Int) < 0)),.bool (decide ((az:Int) < 0)),undef,.pointer (some ⟨g,0,none⟩),.int .i64 k,.agg NC.toArray,.agg (proofL (.slice A0 n0 c0') P.has (List.map cellOf P.lab) (List.map cellOf P.sum)).toArray,.pointer (some ⟨q,0,none⟩),.slice A0 n0 c0',.slice A1 n1 c1,.pointer (some ⟨q,0,none⟩),.int .i64 how,.int .i64 (how.tmod 6),.int .i64 (how.tmod 6 + 6),.int .i64 4,undef,undef,undef,undef,undef,undef,undef,undef,undef,undef,undef,undef,.bool false,.bool false,undef,undef,undef,undef,undef,undef,undef,undef,undef,undef,undef,undef,undef,undef,undef,undef,undef,undef,undef,undef,.bool false,.bool false,undef,undef,undef,undef,.bool false,.bool false,undef,undef,undef,undef,undef,undef,undef,undef,undef,.bool false,.bool false,undef,undef,undef,undef,undef,undef,undef,undef,undef,.bool true,.bool true,.pointer (some ⟨q,0,none⟩),.slice A1 n1 c1,.int .u8 rb,.agg XC.toArray,.slice (some ⟨w8.heap.size,0,none⟩) 1 1,.slice A2 n2 c2,.pointer (some ⟨q,0,none⟩),.pointer (some ⟨g,0,none⟩),.agg RC.toArray,.int .i64 k,.agg NC.toArray,.agg SC.toArray,.agg QQ.toArray,.bool true,.bool true,.pointer (some ⟨g,0,none⟩),x129,.int .i64 other,x131,x132,x133,x134,undef],defers:=[] }/\Hid (Below v59.heap.size v59 w')/\(d 9=true->x129 = .agg RC.toArray)/\(d 11=true->x131 = .agg OC.toArray)/\(d 12=true->x132 = .agg SC.toArray)/\(d 13=true->x133 = .agg QQ.toArray)/\(d 14=true->x134 = .bool true)) [9,11,12,13,14] ?step68 2 5 [9,11,12,13,14] _ _ _ rfl (by decide) (fun _ h=>h) (Fits.of (by kernel_rfl)) ?init68 ?fin68
   case init68=>refine ⟨_,_,_,_,_,rfl,Below.refl _ _,?_,?_,?_,?_,?_⟩ <;> (intro h; exact absurd h (by decide))
   case step68 =>
    intro i hi d a v68 hI hdi hdeps
    obtain ⟨x129,x131,x132,x133,x134,rfl,BW,h9,h11,h12,h13,h14⟩:=hI
    have hsw:=BW.out.size
    simp only [List.mem_cons,List.not_mem_nil,or_false] at hi
    rcases hi with rfl | rfl | rfl | rfl | rfl
    ·refine wpOp_step (o:=?os69) ?hos69 (fun K hK=>?_)
     case hos69=>simp only [zge]; rfl
     go_simp
     refine (CR.out v68 (T.out.low BW.out)).mono ?_
     rintro e u68 ⟨rfl,hX⟩
     refine hK _ _ ?_
     clear hK K
     try simp only [zpt]
     exact ⟨_,_,_,_,_,rfl,BW.out.trans (hX.mono hsw),fun _=>rfl,fun a=>by first | exact h11 (by simpa using a) | rfl,fun a=>by first | exact h12 (by simpa using a) | rfl,fun a=>by first | exact h13 (by simpa using a) | rfl,fun a=>by first | exact h14 (by simpa using a) | rfl⟩
    ·refine wpOp_step (o:=?os70) ?hos70 (fun K hK=>?_)
     case hos70=>simp only [zge]; rfl
     go_simp
     refine (CO.out v68 ).mono ?_
     rintro e u68 ⟨rfl,hX⟩
     refine hK _ _ ?_
     clear hK K
     try simp only [zpt]
     exact ⟨_,_,_,_,_,rfl,BW.out.trans (hX.mono hsw),fun a=>by first | exact h9 (by simpa using a) | rfl,fun _=>rfl,fun a=>by first | exact h12 (by simpa using a) | rfl,fun a=>by first | exact h13 (by simpa using a) | rfl,fun a=>by first | exact h14 (by simpa using a) | rfl⟩
    ·refine wpOp_step (o:=?os71) ?hos71 (fun K hK=>?_)
     case hos71=>simp only [zge]; rfl
     go_simp
     refine (C3.out v68 ).mono ?_
     rintro e u68 ⟨rfl,hX⟩
     refine hK _ _ ?_
     clear hK K
     try simp only [zpt]
     exact ⟨_,_,_,_,_,rfl,BW.out.trans (hX.mono hsw),fun a=>by first | exact h9 (by simpa using a) | rfl,fun a=>by first | exact h11 (by simpa using a) | rfl,fun _=>rfl,fun a=>by first | exact h13 (by simpa using a) | rfl,fun a=>by first | exact h14 (by simpa using a) | rfl⟩
    ·refine wpOp_step (o:=?os72) ?hos72 (fun K hK=>?_)
     case hos72=>simp only [zge]; rfl
     refine step_loadW (by kernel_rfl) 38 (.tmp 19) rfl q 0 rfl QQ _ Tryd.underlying38 rfl IQ.out (BQ.out.below BW.out BQ.out.lt |>.cells) (hK _ _ ?_)
     clear hK K
     try simp only [zpt]
     exact ⟨_,_,_,_,_,rfl,BW,fun a=>by first | exact h9 (by simpa using a) | rfl,fun a=>by first | exact h11 (by simpa using a) | rfl,fun a=>by first | exact h12 (by simpa using a) | rfl,fun _=>rfl,fun a=>by first | exact h14 (by simpa using a) | rfl⟩
    ·obtain rfl:=h9 (hdeps 9 (by simp))
     obtain rfl:=h11 (hdeps 11 (by simp))
     obtain rfl:=h12 (hdeps 12 (by simp))
     obtain rfl:=h13 (hdeps 13 (by simp))
     refine wpOp_step (o:=?os73) ?hos73 (fun K hK=>?_)
     case hos73=>simp only [zge]; rfl
     go_simp
     refine (CB.out v68 _ _ (W.out.trans (BW.out.mono W.out.size)) (PI.out.below BW.out)).mono ?_
     rintro e u68 ⟨rfl,hX⟩
     refine hK _ _ ?_
     clear hK K
     try simp only [zpt]
     exact ⟨_,_,_,_,_,rfl,BW.out.trans (hX.mono hsw),fun a=>by first | exact h9 (by simpa using a) | rfl,fun a=>by first | exact h11 (by simpa using a) | rfl,fun a=>by first | exact h12 (by simpa using a) | rfl,fun a=>by first | exact h13 (by simpa using a) | rfl,fun _=>rfl⟩
   case fin68 =>
    intro a v68 hI
    obtain ⟨x129,x131,x132,x133,x134,rfl,BW,h9,h11,h12,h13,h14⟩:=hI
    obtain rfl:=h9 (by decide)
    obtain rfl:=h11 (by decide)
    obtain rfl:=h12 (by decide)
    obtain rfl:=h13 (by decide)
    obtain rfl:=h14 (by decide)
    clear h9 h11 h12 h13 h14
    have hX:=BW.out
    replace T:=Lib.hid (T.out.low hX)
    replace BQ:=Lib.hid (BQ.out.below hX BQ.out.lt)
    replace PI:=Lib.hid (PI.out.below hX)
    replace W:=Lib.hid (W.out.trans (hX.mono W.out.size))
    clear hX BW
    try dsimp only
    refine wpAny_take (i:=15) (oi:=?oi74) (v:=.bool true) ?hi74 (by kernel_rfl) (by kernel_rfl) (by kernel_rfl) ?hQ74 ?hy74 ?rest74
    case hi74=>simp only [zge]; rfl
    case hQ74=>exact fun _ _ _ h=>h
    case hy74=>exact Or.inl ⟨by rfl,by intro w; go_simp⟩
    try simp only [zpt]
    refine wpAny_take (i:=16) (oi:=?oi75) (v:=.bool true) ?hi75 (by kernel_rfl) (by kernel_rfl) (by kernel_rfl) ?hQ75 ?hy75 ?rest75
    case hi75=>simp only [zge]; rfl
    case hQ75=>exact fun _ _ _ h=>h
    case hy75=>exact Or.inl ⟨by rfl,by intro w; go_simp⟩
    try simp only [zpt]
    refine wpAny_done (by kernel_rfl) ?_ _
    go_wp2_with fail
    go_ret
    exact ⟨rfl,W.out⟩
 ·have c8:w8.cell? ⟨q,0,none⟩=some (.slice A1 n1 c1):=B8.out.cell 0
  have f8:w8.frozen? ⟨q,0,none⟩=false:=B8.out.frozen 0
  by_cases h0:0 < n1
  ·have d0:decide ((0:Int) < (n1:Int))=true:=decide_eq_true (by omega)
   obtain ⟨r,off,hA1,_,_⟩:=RW8.out.at_ h0
   subst hA1
   obtain ⟨n2,hn2⟩:∃ z,z=n1 - 1:=⟨_,rfl⟩
   have hn2i:((n2:Nat):Int)=(n1:Int) - 1:=by omega
   have hcap:=RW8.out.cap
   have hsl:∀ W,(Instr.slice 36 (.slice (some ⟨r,off,none⟩) n1 c1) none (some (.int .i64 ((n1:Int) - 1))) none).run Tryd.prog W = .ok (.slice (some ⟨r,off,none⟩) n2 c1) W:=fun W=>by rw [<- hn2i]; exact slice_hh r off n1 c1 n2 (by omega) (by omega) W
   have RT:=Lib.hid (rd2_take RW8.out (m:=n2) (by omega))
   have hn2n:n2<=1000:=by omega
   clear hn2 hn2i hcap
   go_upto_region 23 with (fail)
   clear c8 f8 hmw d0 hsl
   have RW9:∀ (off2:Nat) (v:Value),Rd2 (w8.setCell ⟨q,off2,none⟩ v) 32 (some ⟨r,off,none⟩) n1 c1 (hashes P.sides):=fun off2 v=>RW8.out.keep (by simp [World.setCell]) fun ad h0 _ _=>Go.RowKit.Below.heap_setCell _ _ _ _ (fun e=>by
    obtain ⟨A2,c2,hv2,_,hown2⟩:=OW8.out.rd
    have hA2:(some ⟨r,off,none⟩:Option Addr)=A2:=by injection hv2
    have h3:=(hown2 ad (by rw [<- hA2]; exact h0)).2.2
    exact OW8.out.ne B8.out (by decide) (by rw [h3]; exact congrArg some e.symm))
   have RT9:∀ v:Value,Rd2 (w8.setCell ⟨q,0,none⟩ v) 32 (some ⟨r,off,none⟩) n2 c1 (hashes (P.sides.take n2)):=fun v=>by
    have:=rd2_take (RW9 0 v) (m:=n2) (Nat.le_trans (Nat.le_of_eq (by rw [<- RT.out.len,List.length_take,RW8.out.len])) (Nat.min_le_right _ _))
    rwa [show (hashes P.sides).take n2=hashes (P.sides.take n2) by unfold hashes; rw [List.map_take]] at this
   have BQ9:Hid (Blk (w8.setCell ⟨q,0,none⟩ (.slice (some ⟨r,off,none⟩) n2 c1)) q 38 (proofL (.slice (some ⟨r,off,none⟩) n2 c1) P.has (P.lab.map cellOf) (P.sum.map cellOf))):=by have:=B8.out.set_ 0 (.slice (some ⟨r,off,none⟩) n2 c1); rw [proofL_set0] at this; exact this
   have PI9:Hid (PrfIn (w8.setCell ⟨q,0,none⟩ (.slice (some ⟨r,off,none⟩) n2 c1)) (.agg (proofL (.slice (some ⟨r,off,none⟩) n2 c1) P.has (P.lab.map cellOf) (P.sum.map cellOf)).toArray) ⟨P.sides.take n2,P.has,P.lab,P.sum⟩):=prf_make (RT9 _) hn2n hlab hsum (fun y hy=>HPE.out y (List.mem_of_mem_take hy))
   have T9:Hid (TreeAt (w8.setCell ⟨q,0,none⟩ (.slice (some ⟨r,off,none⟩) n2 c1)) g l):=tree_cell T.out B8.out (by decide) (by decide) (by decide) _
   have W9:Hid (Below w.heap.size w (w8.setCell ⟨q,0,none⟩ (.slice (some ⟨r,off,none⟩) n2 c1))):=W.out.setCell hwq _
   generalize w8.setCell ⟨q,0,none⟩ (.slice (some ⟨r,off,none⟩) n2 c1)=w9 at *
   clear T W
   have T:=Lib.hid T9.out
   have W:=Lib.hid W9.out
   obtain ⟨QQ,hQQ⟩:∃ L,L=proofL (.slice (some ⟨r,off,none⟩) n2 c1) P.has (P.lab.map cellOf) (P.sum.map cellOf):=⟨_,rfl⟩
   rw [<- hQQ] at BQ9 PI9
   have BQ:=Lib.hid BQ9.out
   have PI:=Lib.hid PI9.out
   clear T9 W9 BQ9 PI9 hQQ OW8 B8 RW8 eh
   have IQ:Hid ((Tryd.prog.info? 38).map (·.size)=some QQ.length):=by
    obtain ⟨A9,n9,c9,e9,_,_⟩:=PI.out.at_
    unfold Hid
    rw [show QQ=proofL (.slice A9 n9 c9) _ _ _ by injection e9 with e9; simpa using e9]
    exact proofL_info (by simpa using PI.out.lab) (by simpa using PI.out.sum)
   have hX:=(Below.refl w9.heap.size w9).drew
   replace T:=Lib.hid (T.out.low hX)
   replace BQ:=Lib.hid (BQ.out.below hX BQ.out.lt)
   replace PI:=Lib.hid (PI.out.below hX)
   replace W:=Lib.hid (W.out.trans (hX.mono W.out.size))
   clear hX
   refine wp_region_any (by kernel_rfl) ?_
   change wpAny _ _ _ _ _ _ _ (World.drew _)
   generalize w9.drew=wd at *
   refine wpAny_take (i:=0) (oi:=?oi76) (v:=.pointer (some ⟨g,0,none⟩)) ?hi76 (by kernel_rfl) (by kernel_rfl) (by kernel_rfl) ?hQ76 ?hy76 ?rest76
   case hi76=>simp only [zge]; rfl
   case hQ76=>exact fun _ _ _ h=>h
   case hy76=>exact Or.inl ⟨by rfl,by intro w; go_simp⟩
   try simp only [zpt]
   refine wpAny_take (i:=2) (oi:=?oi77) (v:=.int .i64 k) ?hi77 (by kernel_rfl) (by kernel_rfl) (by kernel_rfl) ?hQ77 ?hy77 ?rest77
   case hi77=>simp only [zge]; rfl
   case hQ77=>exact fun _ _ _ h=>h
   case hy77=>exact Or.inl ⟨by rfl,by intro w; go_simp⟩
   try simp only [zpt]
   refine phaseL (fun i=>if i=3 then [1] else if i=4 then [3] else if i=6 then [1,3,4,5] else []) (fun d a w'=>∃ x121 x123 x124 x125 x126:Value,a={ tmps:=#[.slice A n c,.slice A' n' c',.int .i64 k,.int .i64 other,.int .i64 how,.int .i64 (az:Int),.int .u8 rb,undef,undef,undef,undef,undef,undef,undef,.bool false,.bool true,.pointer (some ⟨g,0,none⟩),.slice AL nl cl,.bool true,.pointer (some ⟨q,0,none⟩),.bool true,.bool true,.bool false,.tuple #[.pointer (some ⟨g,0,none⟩),.slice AL nl cl,.bool true],.slice A n c,.slice A' n' c',.tuple #[.pointer (some ⟨g,0,none⟩),.slice AL nl cl,.bool true],.pointer (some ⟨g,0,none⟩),.slice AL nl cl,.bool true,.bool true,.bool false,.bool false,.int .i64 (az:Int),.bool (decide ((az:Int) < 0)),.bool (decide ((az:Int) < 0)),undef,.pointer (some ⟨g,0,none⟩),.int .i64 k,.agg NC.toArray,.agg (proofL (.slice A0 n0 c0') P.has (List.map cellOf P.lab) (List.map cellOf P.sum)).toArray,.pointer (some ⟨q,0,none⟩),.slice A0 n0 c0',.slice (some ⟨r,off,none⟩) n1 c1,.pointer (some ⟨q,0,none⟩),.int .i64 how,.int .i64 (how.tmod 6),.int .i64 (how.tmod 6 + 6),.int .i64 5,.pointer (some ⟨q,0,none⟩),.slice (some ⟨r,off,none⟩) n1 c1,.int .i64 (n1:Int),.bool true,.pointer (some ⟨q,0,none⟩),.slice (some ⟨r,off,none⟩) n1 c1,.pointer (some ⟨q,0,none⟩),.slice (some ⟨r,off,none⟩) n1 c1,.int .i64 (n1:Int),.int .i64 ((n1:Int) - 1),.slice (some ⟨r,off,none⟩) n2 c1,.pointer (some ⟨q,0,none⟩),.bool false,.bool false,undef,undef,undef,undef,undef,undef,undef,undef,undef,undef,undef,undef,undef,undef,undef,undef,undef,undef,undef,undef,.bool false,.bool false,undef,undef,undef,undef,.bool false,.bool false,undef,undef,undef,undef,undef,undef,undef,undef,undef,.bool false,.bool false,undef,undef,undef,undef,undef,undef,undef,undef,undef,.bool false,.bool false,undef,undef,undef,undef,undef,undef,undef,.pointer (some ⟨g,0,none⟩),x121,.int .i64 k,x123,x124,x125,x126,undef,undef,undef,undef,undef,undef,undef,undef,undef],defers:=[] }/\Hid (Below wd.heap.size wd w')/\(d 1=true->x121 = .agg RC.toArray)/\(d 3=true->x123 = .agg NC.toArray)/\(d 4=true->x124 = .agg SC.toArray)/\(d 5=true->x125 = .agg QQ.toArray)/\(d 6=true->x126 = .bool true)) [1,3,4,5,6] ?step78 10 5 [1,3,4,5,6] _ _ _ rfl (by decide) (fun _ h=>h) (Fits.of (by kernel_rfl)) ?init78 ?fin78
   case init78=>refine ⟨_,_,_,_,_,rfl,Below.refl _ _,?_,?_,?_,?_,?_⟩ <;> (intro h; exact absurd h (by decide))
   case step78 =>
    intro i hi d a v78 hI hdi hdeps
    obtain ⟨x121,x123,x124,x125,x126,rfl,BW,h1,h3,h4,h5,h6⟩:=hI
    have hsw:=BW.out.size
    simp only [List.mem_cons,List.not_mem_nil,or_false] at hi
    rcases hi with rfl | rfl | rfl | rfl | rfl
    ·refine wpOp_step (o:=?os79) ?hos79 (fun K hK=>?_)
     case hos79=>simp only [zge]; rfl
     go_simp
     refine (CR.out v78 (T.out.low BW.out)).mono ?_
     rintro e u78 ⟨rfl,hX⟩
     refine hK _ _ ?_
     clear hK K
     try simp only [zpt]
     exact ⟨_,_,_,_,_,rfl,BW.out.trans (hX.mono hsw),fun _=>rfl,fun a=>by first | exact h3 (by simpa using a) | rfl,fun a=>by first | exact h4 (by simpa using a) | rfl,fun a=>by first | exact h5 (by simpa using a) | rfl,fun a=>by first | exact h6 (by simpa using a) | rfl⟩
    ·refine wpOp_step (o:=?os80) ?hos80 (fun K hK=>?_)
     case hos80=>simp only [zge]; rfl
     go_simp
     refine (CN.out v78 ).mono ?_
     rintro e u78 ⟨rfl,hX⟩
     refine hK _ _ ?_
     clear hK K
     try simp only [zpt]
     exact ⟨_,_,_,_,_,rfl,BW.out.trans (hX.mono hsw),fun a=>by first | exact h1 (by simpa using a) | rfl,fun _=>rfl,fun a=>by first | exact h4 (by simpa using a) | rfl,fun a=>by first | exact h5 (by simpa using a) | rfl,fun a=>by first | exact h6 (by simpa using a) | rfl⟩
    ·refine wpOp_step (o:=?os81) ?hos81 (fun K hK=>?_)
     case hos81=>simp only [zge]; rfl
     go_simp
     refine (C3.out v78 ).mono ?_
     rintro e u78 ⟨rfl,hX⟩
     refine hK _ _ ?_
     clear hK K
     try simp only [zpt]
     exact ⟨_,_,_,_,_,rfl,BW.out.trans (hX.mono hsw),fun a=>by first | exact h1 (by simpa using a) | rfl,fun a=>by first | exact h3 (by simpa using a) | rfl,fun _=>rfl,fun a=>by first | exact h5 (by simpa using a) | rfl,fun a=>by first | exact h6 (by simpa using a) | rfl⟩
    ·refine wpOp_step (o:=?os82) ?hos82 (fun K hK=>?_)
     case hos82=>simp only [zge]; rfl
     refine step_loadW rfl 38 (.tmp 19) rfl q 0 rfl QQ _ Tryd.underlying38 rfl IQ.out (BQ.out.below BW.out BQ.out.lt).cells (hK _ _ ?_)
     clear hK K
     try simp only [zpt]
     exact ⟨_,_,_,_,_,rfl,BW,fun a=>by first | exact h1 (by simpa using a) | rfl,fun a=>by first | exact h3 (by simpa using a) | rfl,fun a=>by first | exact h4 (by simpa using a) | rfl,fun _=>rfl,fun a=>by first | exact h6 (by simpa using a) | rfl⟩
    ·obtain rfl:=h1 (hdeps 1 (by simp))
     obtain rfl:=h3 (hdeps 3 (by simp))
     obtain rfl:=h4 (hdeps 4 (by simp))
     obtain rfl:=h5 (hdeps 5 (by simp))
     refine wpOp_step (o:=?os83) ?hos83 (fun K hK=>?_)
     case hos83=>simp only [zge]; rfl
     go_simp
     refine (CA.out v78 _ _ (W.out.trans (BW.out.mono W.out.size)) (PI.out.below BW.out)).mono ?_
     rintro e u78 ⟨rfl,hX⟩
     refine hK _ _ ?_
     clear hK K
     try simp only [zpt]
     exact ⟨_,_,_,_,_,rfl,BW.out.trans (hX.mono hsw),fun a=>by first | exact h1 (by simpa using a) | rfl,fun a=>by first | exact h3 (by simpa using a) | rfl,fun a=>by first | exact h4 (by simpa using a) | rfl,fun a=>by first | exact h5 (by simpa using a) | rfl,fun _=>rfl⟩
   case fin78 =>
    intro a v78 hI
    obtain ⟨x121,x123,x124,x125,x126,rfl,BW,h1,h3,h4,h5,h6⟩:=hI
    obtain rfl:=h1 (by decide)
    obtain rfl:=h3 (by decide)
    obtain rfl:=h4 (by decide)
    obtain rfl:=h5 (by decide)
    obtain rfl:=h6 (by decide)
    clear h1 h3 h4 h5 h6
    have hX:=BW.out
    replace T:=Lib.hid (T.out.low hX)
    replace BQ:=Lib.hid (BQ.out.below hX BQ.out.lt)
    replace PI:=Lib.hid (PI.out.below hX)
    replace W:=Lib.hid (W.out.trans (hX.mono W.out.size))
    clear hX BW
    try dsimp only
    refine wpAny_take (i:=7) (oi:=?oi84) (v:=.bool true) ?hi84 (by kernel_rfl) (by kernel_rfl) (by kernel_rfl) ?hQ84 ?hy84 ?rest84
    case hi84=>simp only [zge]; rfl
    case hQ84=>exact fun _ _ _ h=>h
    case hy84=>exact Or.inl ⟨by rfl,by intro w; go_simp⟩
    try simp only [zpt]
    refine wpAny_take (i:=8) (oi:=?oi85) (v:=.pointer (some ⟨g,0,none⟩)) ?hi85 (by kernel_rfl) (by kernel_rfl) (by kernel_rfl) ?hQ85 ?hy85 ?rest85
    case hi85=>simp only [zge]; rfl
    case hQ85=>exact fun _ _ _ h=>h
    case hy85=>exact Or.inl ⟨by rfl,by intro w; go_simp⟩
    try simp only [zpt]
    refine wpAny_take (i:=10) (oi:=?oi86) (v:=.int .i64 other) ?hi86 (by kernel_rfl) (by kernel_rfl) (by kernel_rfl) ?hQ86 ?hy86 ?rest86
    case hi86=>simp only [zge]; rfl
    case hQ86=>exact fun _ _ _ h=>h
    case hy86=>exact Or.inl ⟨by rfl,by intro w; go_simp⟩
    try simp only [zpt]
    refine phaseL (fun i=>if i=11 then [9] else if i=12 then [11] else if i=14 then [9,11,12,13] else []) (fun d a w'=>∃ x129 x131 x132 x133 x134:Value,a={ tmps:=#[.slice A n c,.slice A' n' c',.int .i64 k,.int .i64 other,.int .i64 how,.int .i64 (az:Int),.int .u8 rb,undef,undef,undef,undef,undef,undef,undef,.bool false,.bool true,.pointer (some ⟨g,0,none⟩),.slice AL nl cl,.bool true,.pointer (some ⟨q,0,none⟩),.bool true,.bool true,.bool false,.tuple #[.pointer (some ⟨g,0,none⟩),.slice AL nl cl,.bool true],.slice A n c,.slice A' n' c',.tuple #[.pointer (some ⟨g,0,none⟩),.slice AL nl cl,.bool true],.pointer (some ⟨g,0,none⟩),.slice AL nl cl,.bool true,.bool true,.bool false,.bool false,.int .i64 (az:Int),.bool (decide ((az:Int) < 0)),.bool (decide ((az:Int) < 0)),undef,.pointer (some ⟨g,0,none⟩),.int .i64 k,.agg NC.toArray,.agg (proofL (.slice A0 n0 c0') P.has (List.map cellOf P.lab) (List.map cellOf P.sum)).toArray,.pointer (some ⟨q,0,none⟩),.slice A0 n0 c0',.slice (some ⟨r,off,none⟩) n1 c1,.pointer (some ⟨q,0,none⟩),.int .i64 how,.int .i64 (how.tmod 6),.int .i64 (how.tmod 6 + 6),.int .i64 5,.pointer (some ⟨q,0,none⟩),.slice (some ⟨r,off,none⟩) n1 c1,.int .i64 (n1:Int),.bool true,.pointer (some ⟨q,0,none⟩),.slice (some ⟨r,off,none⟩) n1 c1,.pointer (some ⟨q,0,none⟩),.slice (some ⟨r,off,none⟩) n1 c1,.int .i64 (n1:Int),.int .i64 ((n1:Int) - 1),.slice (some ⟨r,off,none⟩) n2 c1,.pointer (some ⟨q,0,none⟩),.bool false,.bool false,undef,undef,undef,undef,undef,undef,undef,undef,undef,undef,undef,undef,undef,undef,undef,undef,undef,undef,undef,undef,.bool false,.bool false,undef,undef,undef,undef,.bool false,.bool false,undef,undef,undef,undef,undef,undef,undef,undef,undef,.bool false,.bool false,undef,undef,undef,undef,undef,undef,undef,undef,undef,.bool false,.bool false,undef,undef,undef,undef,undef,undef,undef,.pointer (some ⟨g,0,none⟩),.agg RC.toArray,.int .i64 k,.agg NC.toArray,.agg SC.toArray,.agg QQ.toArray,.bool true,.bool true,.pointer (some ⟨g,0,none⟩),x129,.int .i64 other,x131,x132,x133,x134,undef],defers:=[] }/\Hid (Below v78.heap.size v78 w')/\(d 9=true->x129 = .agg RC.toArray)/\(d 11=true->x131 = .agg OC.toArray)/\(d 12=true->x132 = .agg SC.toArray)/\(d 13=true->x133 = .agg QQ.toArray)/\(d 14=true->x134 = .bool true)) [9,11,12,13,14] ?step87 2 5 [9,11,12,13,14] _ _ _ rfl (by decide) (fun _ h=>h) (Fits.of (by kernel_rfl)) ?init87 ?fin87
    case init87=>refine ⟨_,_,_,_,_,rfl,Below.refl _ _,?_,?_,?_,?_,?_⟩ <;> (intro h; exact absurd h (by decide))
    case step87 =>
     intro i hi d a v87 hI hdi hdeps
     obtain ⟨x129,x131,x132,x133,x134,rfl,BW,h9,h11,h12,h13,h14⟩:=hI
     have hsw:=BW.out.size
     simp only [List.mem_cons,List.not_mem_nil,or_false] at hi
     rcases hi with rfl | rfl | rfl | rfl | rfl
     ·refine wpOp_step (o:=?os88) ?hos88 (fun K hK=>?_)
      case hos88=>simp only [zge]; rfl
      go_simp
      refine (CR.out v87 (T.out.low BW.out)).mono ?_
      rintro e u87 ⟨rfl,hX⟩
      refine hK _ _ ?_
      clear hK K
      try simp only [zpt]
      exact ⟨_,_,_,_,_,rfl,BW.out.trans (hX.mono hsw),fun _=>rfl,fun a=>by first | exact h11 (by simpa using a) | rfl,fun a=>by first | exact h12 (by simpa using a) | rfl,fun a=>by first | exact h13 (by simpa using a) | rfl,fun a=>by first | exact h14 (by simpa using a) | rfl⟩
     ·refine wpOp_step (o:=?os89) ?hos89 (fun K hK=>?_)
      case hos89=>simp only [zge]; rfl
      go_simp
      refine (CO.out v87 ).mono ?_
      rintro e u87 ⟨rfl,hX⟩
      refine hK _ _ ?_
      clear hK K
      try simp only [zpt]
      exact ⟨_,_,_,_,_,rfl,BW.out.trans (hX.mono hsw),fun a=>by first | exact h9 (by simpa using a) | rfl,fun _=>rfl,fun a=>by first | exact h12 (by simpa using a) | rfl,fun a=>by first | exact h13 (by simpa using a) | rfl,fun a=>by first | exact h14 (by simpa using a) | rfl⟩
     ·refine wpOp_step (o:=?os90) ?hos90 (fun K hK=>?_)
      case hos90=>simp only [zge]; rfl
      go_simp
      refine (C3.out v87 ).mono ?_
      rintro e u87 ⟨rfl,hX⟩
      refine hK _ _ ?_
      clear hK K
      try simp only [zpt]
      exact ⟨_,_,_,_,_,rfl,BW.out.trans (hX.mono hsw),fun a=>by first | exact h9 (by simpa using a) | rfl,fun a=>by first | exact h11 (by simpa using a) | rfl,fun _=>rfl,fun a=>by first | exact h13 (by simpa using a) | rfl,fun a=>by first | exact h14 (by simpa using a) | rfl⟩
     ·refine wpOp_step (o:=?os91) ?hos91 (fun K hK=>?_)
      case hos91=>simp only [zge]; rfl
      refine step_loadW (by kernel_rfl) 38 (.tmp 19) rfl q 0 rfl QQ _ Tryd.underlying38 rfl IQ.out (BQ.out.below BW.out BQ.out.lt |>.cells) (hK _ _ ?_)
      clear hK K
      try simp only [zpt]
      exact ⟨_,_,_,_,_,rfl,BW,fun a=>by first | exact h9 (by simpa using a) | rfl,fun a=>by first | exact h11 (by simpa using a) | rfl,fun a=>by first | exact h12 (by simpa using a) | rfl,fun _=>rfl,fun a=>by first | exact h14 (by simpa using a) | rfl⟩
     ·obtain rfl:=h9 (hdeps 9 (by simp))
      obtain rfl:=h11 (hdeps 11 (by simp))
      obtain rfl:=h12 (hdeps 12 (by simp))
      obtain rfl:=h13 (hdeps 13 (by simp))
      refine wpOp_step (o:=?os92) ?hos92 (fun K hK=>?_)
      case hos92=>simp only [zge]; rfl
      go_simp
      refine (CB.out v87 _ _ (W.out.trans (BW.out.mono W.out.size)) (PI.out.below BW.out)).mono ?_
      rintro e u87 ⟨rfl,hX⟩
      refine hK _ _ ?_
      clear hK K
      try simp only [zpt]
      exact ⟨_,_,_,_,_,rfl,BW.out.trans (hX.mono hsw),fun a=>by first | exact h9 (by simpa using a) | rfl,fun a=>by first | exact h11 (by simpa using a) | rfl,fun a=>by first | exact h12 (by simpa using a) | rfl,fun a=>by first | exact h13 (by simpa using a) | rfl,fun _=>rfl⟩
    case fin87 =>
     intro a v87 hI
     obtain ⟨x129,x131,x132,x133,x134,rfl,BW,h9,h11,h12,h13,h14⟩:=hI
     obtain rfl:=h9 (by decide)
     obtain rfl:=h11 (by decide)
     obtain rfl:=h12 (by decide)
     obtain rfl:=h13 (by decide)
     obtain rfl:=h14 (by decide)
     clear h9 h11 h12 h13 h14
     have hX:=BW.out
     replace T:=Lib.hid (T.out.low hX)
     replace BQ:=Lib.hid (BQ.out.below hX BQ.out.lt)
     replace PI:=Lib.hid (PI.out.below hX)
     replace W:=Lib.hid (W.out.trans (hX.mono W.out.size))
     clear hX BW
     try dsimp only
     refine wpAny_take (i:=15) (oi:=?oi93) (v:=.bool true) ?hi93 (by kernel_rfl) (by kernel_rfl) (by kernel_rfl) ?hQ93 ?hy93 ?rest93
     case hi93=>simp only [zge]; rfl
     case hQ93=>exact fun _ _ _ h=>h
     case hy93=>exact Or.inl ⟨by rfl,by intro w; go_simp⟩
     try simp only [zpt]
     refine wpAny_take (i:=16) (oi:=?oi94) (v:=.bool true) ?hi94 (by kernel_rfl) (by kernel_rfl) (by kernel_rfl) ?hQ94 ?hy94 ?rest94
     case hi94=>simp only [zge]; rfl
     case hQ94=>exact fun _ _ _ h=>h
     case hy94=>exact Or.inl ⟨by rfl,by intro w; go_simp⟩
     try simp only [zpt]
     refine wpAny_done (by kernel_rfl) ?_ _
     go_wp2_with fail
     go_ret
     exact ⟨rfl,W.out⟩
  ·have d0:decide ((0:Int) < (n1:Int))=false:=decide_eq_false (by omega)
   go_upto_region 23 with (fail)
   clear c8 f8 hmw d0
   have BQ9:Hid (Blk (w8) q 38 (proofL (.slice A1 n1 c1) P.has (P.lab.map cellOf) (P.sum.map cellOf))):=B8.out
   have PI9:Hid (PrfIn (w8) (.agg (proofL (.slice A1 n1 c1) P.has (P.lab.map cellOf) (P.sum.map cellOf)).toArray) ⟨P.sides,P.has,P.lab,P.sum⟩):=prf_make RW8.out (by omega) hlab hsum HPE.out
   have T9:Hid (TreeAt (w8) g l):=T.out
   have W9:Hid (Below w.heap.size w (w8)):=W.out
   generalize w8=w9 at *
   clear T W
   have T:=Lib.hid T9.out
   have W:=Lib.hid W9.out
   obtain ⟨QQ,hQQ⟩:∃ L,L=proofL (.slice A1 n1 c1) P.has (P.lab.map cellOf) (P.sum.map cellOf):=⟨_,rfl⟩
   rw [<- hQQ] at BQ9 PI9
   have BQ:=Lib.hid BQ9.out
   have PI:=Lib.hid PI9.out
   clear T9 W9 BQ9 PI9 hQQ OW8 B8 RW8 eh
   have IQ:Hid ((Tryd.prog.info? 38).map (·.size)=some QQ.length):=by
    obtain ⟨A9,n9,c9,e9,_,_⟩:=PI.out.at_
    unfold Hid
    rw [show QQ=proofL (.slice A9 n9 c9) _ _ _ by injection e9 with e9; simpa using e9]
    exact proofL_info (by simpa using PI.out.lab) (by simpa using PI.out.sum)
   have hX:=(Below.refl w9.heap.size w9).drew
   replace T:=Lib.hid (T.out.low hX)
   replace BQ:=Lib.hid (BQ.out.below hX BQ.out.lt)
   replace PI:=Lib.hid (PI.out.below hX)
   replace W:=Lib.hid (W.out.trans (hX.mono W.out.size))
   clear hX
   refine wp_region_any (by kernel_rfl) ?_
   change wpAny _ _ _ _ _ _ _ (World.drew _)
   generalize w9.drew=wd at *
   refine wpAny_take (i:=0) (oi:=?oi95) (v:=.pointer (some ⟨g,0,none⟩)) ?hi95 (by kernel_rfl) (by kernel_rfl) (by kernel_rfl) ?hQ95 ?hy95 ?rest95
   case hi95=>simp only [zge]; rfl
   case hQ95=>exact fun _ _ _ h=>h
   case hy95=>exact Or.inl ⟨by rfl,by intro w; go_simp⟩
   try simp only [zpt]
   refine wpAny_take (i:=2) (oi:=?oi96) (v:=.int .i64 k) ?hi96 (by kernel_rfl) (by kernel_rfl) (by kernel_rfl) ?hQ96 ?hy96 ?rest96
   case hi96=>simp only [zge]; rfl
   case hQ96=>exact fun _ _ _ h=>h
   case hy96=>exact Or.inl ⟨by rfl,by intro w; go_simp⟩
   try simp only [zpt]
   refine phaseL (fun i=>if i=3 then [1] else if i=4 then [3] else if i=6 then [1,3,4,5] else []) (fun d a w'=>∃ x121 x123 x124 x125 x126:Value,a={ tmps:=#[.slice A n c,.slice A' n' c',.int .i64 k,.int .i64 other,.int .i64 how,.int .i64 (az:Int),.int .u8 rb,undef,undef,undef,undef,undef,undef,undef,.bool false,.bool true,.pointer (some ⟨g,0,none⟩),.slice AL nl cl,.bool true,.pointer (some ⟨q,0,none⟩),.bool true,.bool true,.bool false,.tuple #[.pointer (some ⟨g,0,none⟩),.slice AL nl cl,.bool true],.slice A n c,.slice A' n' c',.tuple #[.pointer (some ⟨g,0,none⟩),.slice AL nl cl,.bool true],.pointer (some ⟨g,0,none⟩),.slice AL nl cl,.bool true,.bool true,.bool false,.bool false,.int .i64 (az:Int),.bool (decide ((az:Int) < 0)),.bool (decide ((az:Int) < 0)),undef,.pointer (some ⟨g,0,none⟩),.int .i64 k,.agg NC.toArray,.agg (proofL (.slice A0 n0 c0') P.has (List.map cellOf P.lab) (List.map cellOf P.sum)).toArray,.pointer (some ⟨q,0,none⟩),.slice A0 n0 c0',.slice A1 n1 c1,.pointer (some ⟨q,0,none⟩),.int .i64 how,.int .i64 (how.tmod 6),.int .i64 (how.tmod 6 + 6),.int .i64 5,.pointer (some ⟨q,0,none⟩),.slice A1 n1 c1,.int .i64 (n1:Int),.bool false,undef,undef,undef,undef,undef,undef,undef,undef,.bool false,.bool false,undef,undef,undef,undef,undef,undef,undef,undef,undef,undef,undef,undef,undef,undef,undef,undef,undef,undef,undef,undef,.bool false,.bool false,undef,undef,undef,undef,.bool false,.bool false,undef,undef,undef,undef,undef,undef,undef,undef,undef,.bool false,.bool false,undef,undef,undef,undef,undef,undef,undef,undef,undef,.bool false,.bool false,undef,undef,undef,undef,undef,undef,undef,.pointer (some ⟨g,0,none⟩),x121,.int .i64 k,x123,x124,x125,x126,undef,undef,undef,undef,undef,undef,undef,undef,undef],defers:=[] }/\Hid (Below wd.heap.size wd w')/\(d 1=true->x121 = .agg RC.toArray)/\(d 3=true->x123 = .agg NC.toArray)/\(d 4=true->x124 = .agg SC.toArray)/\(d 5=true->x125 = .agg QQ.toArray)/\(d 6=true->x126 = .bool true)) [1,3,4,5,6] ?step97 10 5 [1,3,4,5,6] _ _ _ rfl (by decide) (fun _ h=>h) (Fits.of (by kernel_rfl)) ?init97 ?fin97
   case init97=>refine ⟨_,_,_,_,_,rfl,Below.refl _ _,?_,?_,?_,?_,?_⟩ <;> (intro h; exact absurd h (by decide))
   case step97 =>
    intro i hi d a v97 hI hdi hdeps
    obtain ⟨x121,x123,x124,x125,x126,rfl,BW,h1,h3,h4,h5,h6⟩:=hI
    have hsw:=BW.out.size
    simp only [List.mem_cons,List.not_mem_nil,or_false] at hi
    rcases hi with rfl | rfl | rfl | rfl | rfl
    ·refine wpOp_step (o:=?os98) ?hos98 (fun K hK=>?_)
     case hos98=>simp only [zge]; rfl
     go_simp
     refine (CR.out v97 (T.out.low BW.out)).mono ?_
     rintro e u97 ⟨rfl,hX⟩
     refine hK _ _ ?_
     clear hK K
     try simp only [zpt]
     exact ⟨_,_,_,_,_,rfl,BW.out.trans (hX.mono hsw),fun _=>rfl,fun a=>by first | exact h3 (by simpa using a) | rfl,fun a=>by first | exact h4 (by simpa using a) | rfl,fun a=>by first | exact h5 (by simpa using a) | rfl,fun a=>by first | exact h6 (by simpa using a) | rfl⟩
    ·refine wpOp_step (o:=?os99) ?hos99 (fun K hK=>?_)
     case hos99=>simp only [zge]; rfl
     go_simp
     refine (CN.out v97 ).mono ?_
     rintro e u97 ⟨rfl,hX⟩
     refine hK _ _ ?_
     clear hK K
     try simp only [zpt]
     exact ⟨_,_,_,_,_,rfl,BW.out.trans (hX.mono hsw),fun a=>by first | exact h1 (by simpa using a) | rfl,fun _=>rfl,fun a=>by first | exact h4 (by simpa using a) | rfl,fun a=>by first | exact h5 (by simpa using a) | rfl,fun a=>by first | exact h6 (by simpa using a) | rfl⟩
    ·refine wpOp_step (o:=?os100) ?hos100 (fun K hK=>?_)
     case hos100=>simp only [zge]; rfl
     go_simp
     refine (C3.out v97 ).mono ?_
     rintro e u97 ⟨rfl,hX⟩
     refine hK _ _ ?_
     clear hK K
     try simp only [zpt]
     exact ⟨_,_,_,_,_,rfl,BW.out.trans (hX.mono hsw),fun a=>by first | exact h1 (by simpa using a) | rfl,fun a=>by first | exact h3 (by simpa using a) | rfl,fun _=>rfl,fun a=>by first | exact h5 (by simpa using a) | rfl,fun a=>by first | exact h6 (by simpa using a) | rfl⟩
    ·refine wpOp_step (o:=?os101) ?hos101 (fun K hK=>?_)
     case hos101=>simp only [zge]; rfl
     refine step_loadW rfl 38 (.tmp 19) rfl q 0 rfl QQ _ Tryd.underlying38 rfl IQ.out (BQ.out.below BW.out BQ.out.lt).cells (hK _ _ ?_)
     clear hK K
     try simp only [zpt]
     exact ⟨_,_,_,_,_,rfl,BW,fun a=>by first | exact h1 (by simpa using a) | rfl,fun a=>by first | exact h3 (by simpa using a) | rfl,fun a=>by first | exact h4 (by simpa using a) | rfl,fun _=>rfl,fun a=>by first | exact h6 (by simpa using a) | rfl⟩
    ·obtain rfl:=h1 (hdeps 1 (by simp))
     obtain rfl:=h3 (hdeps 3 (by simp))
     obtain rfl:=h4 (hdeps 4 (by simp))
     obtain rfl:=h5 (hdeps 5 (by simp))
     refine wpOp_step (o:=?os102) ?hos102 (fun K hK=>?_)
     case hos102=>simp only [zge]; rfl
     go_simp
     refine (CA.out v97 _ _ (W.out.trans (BW.out.mono W.out.size)) (PI.out.below BW.out)).mono ?_
     rintro e u97 ⟨rfl,hX⟩
     refine hK _ _ ?_
     clear hK K
     try simp only [zpt]
     exact ⟨_,_,_,_,_,rfl,BW.out.trans (hX.mono hsw),fun a=>by first | exact h1 (by simpa using a) | rfl,fun a=>by first | exact h3 (by simpa using a) | rfl,fun a=>by first | exact h4 (by simpa using a) | rfl,fun a=>by first | exact h5 (by simpa using a) | rfl,fun _=>rfl⟩
   case fin97 =>
    intro a v97 hI
    obtain ⟨x121,x123,x124,x125,x126,rfl,BW,h1,h3,h4,h5,h6⟩:=hI
    obtain rfl:=h1 (by decide)
    obtain rfl:=h3 (by decide)
    obtain rfl:=h4 (by decide)
    obtain rfl:=h5 (by decide)
    obtain rfl:=h6 (by decide)
    clear h1 h3 h4 h5 h6
    have hX:=BW.out
    replace T:=Lib.hid (T.out.low hX)
    replace BQ:=Lib.hid (BQ.out.below hX BQ.out.lt)
    replace PI:=Lib.hid (PI.out.below hX)
    replace W:=Lib.hid (W.out.trans (hX.mono W.out.size))
    clear hX BW
    try dsimp only
    refine wpAny_take (i:=7) (oi:=?oi103) (v:=.bool true) ?hi103 (by kernel_rfl) (by kernel_rfl) (by kernel_rfl) ?hQ103 ?hy103 ?rest103
    case hi103=>simp only [zge]; rfl
    case hQ103=>exact fun _ _ _ h=>h
    case hy103=>exact Or.inl ⟨by rfl,by intro w; go_simp⟩
    try simp only [zpt]
    refine wpAny_take (i:=8) (oi:=?oi104) (v:=.pointer (some ⟨g,0,none⟩)) ?hi104 (by kernel_rfl) (by kernel_rfl) (by kernel_rfl) ?hQ104 ?hy104 ?rest104
    case hi104=>simp only [zge]; rfl
    case hQ104=>exact fun _ _ _ h=>h
    case hy104=>exact Or.inl ⟨by rfl,by intro w; go_simp⟩
    try simp only [zpt]
    refine wpAny_take (i:=10) (oi:=?oi105) (v:=.int .i64 other) ?hi105 (by kernel_rfl) (by kernel_rfl) (by kernel_rfl) ?hQ105 ?hy105 ?rest105
    case hi105=>simp only [zge]; rfl
    case hQ105=>exact fun _ _ _ h=>h
    case hy105=>exact Or.inl ⟨by rfl,by intro w; go_simp⟩
    try simp only [zpt]
    refine phaseL (fun i=>if i=11 then [9] else if i=12 then [11] else if i=14 then [9,11,12,13] else []) (fun d a w'=>∃ x129 x131 x132 x133 x134:Value,a={ tmps:=#[.slice A n c,.slice A' n' c',.int .i64 k,.int .i64 other,.int .i64 how,.int .i64 (az:Int),.int .u8 rb,undef,undef,undef,undef,undef,undef,undef,.bool false,.bool true,.pointer (some ⟨g,0,none⟩),.slice AL nl cl,.bool true,.pointer (some ⟨q,0,none⟩),.bool true,.bool true,.bool false,.tuple #[.pointer (some ⟨g,0,none⟩),.slice AL nl cl,.bool true],.slice A n c,.slice A' n' c',.tuple #[.pointer (some ⟨g,0,none⟩),.slice AL nl cl,.bool true],.pointer (some ⟨g,0,none⟩),.slice AL nl cl,.bool true,.bool true,.bool false,.bool false,.int .i64 (az:Int),.bool (decide ((az:Int) < 0)),.bool (decide ((az:Int) < 0)),undef,.pointer (some ⟨g,0,none⟩),.int .i64 k,.agg NC.toArray,.agg (proofL (.slice A0 n0 c0') P.has (List.map cellOf P.lab) (List.map cellOf P.sum)).toArray,.pointer (some ⟨q,0,none⟩),.slice A0 n0 c0',.slice A1 n1 c1,.pointer (some ⟨q,0,none⟩),.int .i64 how,.int .i64 (how.tmod 6),.int .i64 (how.tmod 6 + 6),.int .i64 5,.pointer (some ⟨q,0,none⟩),.slice A1 n1 c1,.int .i64 (n1:Int),.bool false,undef,undef,undef,undef,undef,undef,undef,undef,.bool false,.bool false,undef,undef,undef,undef,undef,undef,undef,undef,undef,undef,undef,undef,undef,undef,undef,undef,undef,undef,undef,undef,.bool false,.bool false,undef,undef,undef,undef,.bool false,.bool false,undef,undef,undef,undef,undef,undef,undef,undef,undef,.bool false,.bool false,undef,undef,undef,undef,undef,undef,undef,undef,undef,.bool false,.bool false,undef,undef,undef,undef,undef,undef,undef,.pointer (some ⟨g,0,none⟩),.agg RC.toArray,.int .i64 k,.agg NC.toArray,.agg SC.toArray,.agg QQ.toArray,.bool true,.bool true,.pointer (some ⟨g,0,none⟩),x129,.int .i64 other,x131,x132,x133,x134,undef],defers:=[] }/\Hid (Below v97.heap.size v97 w')/\(d 9=true->x129 = .agg RC.toArray)/\(d 11=true->x131 = .agg OC.toArray)/\(d 12=true->x132 = .agg SC.toArray)/\(d 13=true->x133 = .agg QQ.toArray)/\(d 14=true->x134 = .bool true)) [9,11,12,13,14] ?step106 2 5 [9,11,12,13,14] _ _ _ rfl (by decide) (fun _ h=>h) (Fits.of (by kernel_rfl)) ?init106 ?fin106
    case init106=>refine ⟨_,_,_,_,_,rfl,Below.refl _ _,?_,?_,?_,?_,?_⟩ <;> (intro h; exact absurd h (by decide))
    case step106 =>
     intro i hi d a v106 hI hdi hdeps
     obtain ⟨x129,x131,x132,x133,x134,rfl,BW,h9,h11,h12,h13,h14⟩:=hI
     have hsw:=BW.out.size
     simp only [List.mem_cons,List.not_mem_nil,or_false] at hi
     rcases hi with rfl | rfl | rfl | rfl | rfl
     ·refine wpOp_step (o:=?os107) ?hos107 (fun K hK=>?_)
      case hos107=>simp only [zge]; rfl
      go_simp
      refine (CR.out v106 (T.out.low BW.out)).mono ?_
      rintro e u106 ⟨rfl,hX⟩
      refine hK _ _ ?_
      clear hK K
      try simp only [zpt]
      exact ⟨_,_,_,_,_,rfl,BW.out.trans (hX.mono hsw),fun _=>rfl,fun a=>by first | exact h11 (by simpa using a) | rfl,fun a=>by first | exact h12 (by simpa using a) | rfl,fun a=>by first | exact h13 (by simpa using a) | rfl,fun a=>by first | exact h14 (by simpa using a) | rfl⟩
     ·refine wpOp_step (o:=?os108) ?hos108 (fun K hK=>?_)
      case hos108=>simp only [zge]; rfl
      go_simp
      refine (CO.out v106 ).mono ?_
      rintro e u106 ⟨rfl,hX⟩
      refine hK _ _ ?_
      clear hK K
      try simp only [zpt]
      exact ⟨_,_,_,_,_,rfl,BW.out.trans (hX.mono hsw),fun a=>by first | exact h9 (by simpa using a) | rfl,fun _=>rfl,fun a=>by first | exact h12 (by simpa using a) | rfl,fun a=>by first | exact h13 (by simpa using a) | rfl,fun a=>by first | exact h14 (by simpa using a) | rfl⟩
     ·refine wpOp_step (o:=?os109) ?hos109 (fun K hK=>?_)
      case hos109=>simp only [zge]; rfl
      go_simp
      refine (C3.out v106 ).mono ?_
      rintro e u106 ⟨rfl,hX⟩
      refine hK _ _ ?_
      clear hK K
      try simp only [zpt]
      exact ⟨_,_,_,_,_,rfl,BW.out.trans (hX.mono hsw),fun a=>by first | exact h9 (by simpa using a) | rfl,fun a=>by first | exact h11 (by simpa using a) | rfl,fun _=>rfl,fun a=>by first | exact h13 (by simpa using a) | rfl,fun a=>by first | exact h14 (by simpa using a) | rfl⟩
     ·refine wpOp_step (o:=?os110) ?hos110 (fun K hK=>?_)
      case hos110=>simp only [zge]; rfl
      refine step_loadW (by kernel_rfl) 38 (.tmp 19) rfl q 0 rfl QQ _ Tryd.underlying38 rfl IQ.out (BQ.out.below BW.out BQ.out.lt |>.cells) (hK _ _ ?_)
      clear hK K
      try simp only [zpt]
      exact ⟨_,_,_,_,_,rfl,BW,fun a=>by first | exact h9 (by simpa using a) | rfl,fun a=>by first | exact h11 (by simpa using a) | rfl,fun a=>by first | exact h12 (by simpa using a) | rfl,fun _=>rfl,fun a=>by first | exact h14 (by simpa using a) | rfl⟩
     ·obtain rfl:=h9 (hdeps 9 (by simp))
      obtain rfl:=h11 (hdeps 11 (by simp))
      obtain rfl:=h12 (hdeps 12 (by simp))
      obtain rfl:=h13 (hdeps 13 (by simp))
      refine wpOp_step (o:=?os111) ?hos111 (fun K hK=>?_)
      case hos111=>simp only [zge]; rfl
      go_simp
      refine (CB.out v106 _ _ (W.out.trans (BW.out.mono W.out.size)) (PI.out.below BW.out)).mono ?_
      rintro e u106 ⟨rfl,hX⟩
      refine hK _ _ ?_
      clear hK K
      try simp only [zpt]
      exact ⟨_,_,_,_,_,rfl,BW.out.trans (hX.mono hsw),fun a=>by first | exact h9 (by simpa using a) | rfl,fun a=>by first | exact h11 (by simpa using a) | rfl,fun a=>by first | exact h12 (by simpa using a) | rfl,fun a=>by first | exact h13 (by simpa using a) | rfl,fun _=>rfl⟩
    case fin106 =>
     intro a v106 hI
     obtain ⟨x129,x131,x132,x133,x134,rfl,BW,h9,h11,h12,h13,h14⟩:=hI
     obtain rfl:=h9 (by decide)
     obtain rfl:=h11 (by decide)
     obtain rfl:=h12 (by decide)
     obtain rfl:=h13 (by decide)
     obtain rfl:=h14 (by decide)
     clear h9 h11 h12 h13 h14
     have hX:=BW.out
     replace T:=Lib.hid (T.out.low hX)
     replace BQ:=Lib.hid (BQ.out.below hX BQ.out.lt)
     replace PI:=Lib.hid (PI.out.below hX)
     replace W:=Lib.hid (W.out.trans (hX.mono W.out.size))
     clear hX BW
     try dsimp only
     refine wpAny_take (i:=15) (oi:=?oi112) (v:=.bool true) ?hi112 (by kernel_rfl) (by kernel_rfl) (by kernel_rfl) ?hQ112 ?hy112 ?rest112
     case hi112=>simp only [zge]; rfl
     case hQ112=>exact fun _ _ _ h=>h
     case hy112=>exact Or.inl ⟨by rfl,by intro w; go_simp⟩
     try simp only [zpt]
     refine wpAny_take (i:=16) (oi:=?oi113) (v:=.bool true) ?hi113 (by kernel_rfl) (by kernel_rfl) (by kernel_rfl) ?hQ113 ?hy113 ?rest113
     case hi113=>simp only [zge]; rfl
     case hQ113=>exact fun _ _ _ h=>h
     case hy113=>exact Or.inl ⟨by rfl,by intro w; go_simp⟩
     try simp only [zpt]
     refine wpAny_done (by kernel_rfl) ?_ _
     go_wp2_with fail
     go_ret
     exact ⟨rfl,W.out⟩
end Go.Proofs.YtmidbpjdpakkoaaDoor.proofTurn
