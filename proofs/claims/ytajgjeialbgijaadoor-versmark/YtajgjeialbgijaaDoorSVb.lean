import Derived.Test.YtajgjeialbgijaaDoorSAead
import Derived.Test.YtajgjeialbgijaaDoorSGchr
import Derived.Test.YtajgjeialbgijaaDoorSPhase
import Derived.Test.YtajgjeialbgijaaDoorSVm
namespace Go.Proofs.YtajgjeialbgijaaDoor
set_option linter.unusedVariables false
set_option linter.unusedSimpArgs false
set_option maxRecDepth 100000
open Go.RowKit Vs
def IRow (w:World) (x:Value) (l:List Int):Prop:=∃ g,x = .slice (some ⟨g,0,none⟩) l.length l.length/\RdI w (some ⟨g,0,none⟩) l.length l
theorem IRow.below {w w':World} {x:Value} {l:List Int} (h:IRow w x l) (hb:Below w.heap.size w w'):IRow w' x l:=by
 obtain ⟨g,e,hr⟩:=h
 exact ⟨g,e,hr.below hb⟩
theorem IRow.lit (w:World) (t:TypeId) (l:List Int):IRow (w.alloc (.cells (l.map iv).toArray t)) (.slice (some ⟨w.heap.size,0,none⟩) l.length l.length) l :=
 ⟨_,rfl,RdI.of_block (ex:=[]) (by rw [List.append_nil]; exact Blk.new w t _) rfl⟩
theorem Nw.mono0 {w:World} {b:Nat} {x:Value} {l:List UInt8} (h:Nw w b x l):Nw w 0 x l:=by
 obtain ⟨A,c,e,hr,hf⟩:=h
 exact ⟨A,c,e,hr,fun y hy h0=>Nat.zero_le _⟩
theorem take_encs (l:List Int) (k:Nat) (h:k < l.length):encs (l.take (k + 1))=encs (l.take k) ++ enc (l.getD k 0):=by
 rw [List.take_succ_eq_append_getElem h,encs_app]
 simp [encs,List.getD_eq_getElem?_getD,List.getElem?_eq_getElem h]
theorem Ow.nw {w:World} {b b':Nat} {v:Value} {l:List UInt8} (h:Ow w b' v l) (hb:b<=b'):Nw w b v l:=by
 obtain ⟨A,c,e,hr,hf⟩:=h.value
 exact ⟨A,c,e,hr,fun y hy h0=>by
  obtain ⟨g,hA,hg⟩:=hf h0
  rw [hA] at hy
  injection hy with hy
  subst hy
  exact Nat.le_trans hb hg⟩
set_option maxRecDepth 100000 in
set_option maxHeartbeats 2000000 in
theorem numbers_any {w:World} {A:Option Addr} {n c:Nat} {l:List Int} (hr:RdI w A n l) (hn:n<=1000) (hl:∀ z ∈ l,In z):Calls Tryd.prog 37 #[.slice A n c] w fun e w'=>∃ v,e = .returned v/\Nw w' w.heap.size v (encs l)/\Below w.heap.size w w':=by
 have HR:=Lib.hid hr
 have HL:=Lib.hid hl
 have hln:=hr.len
 clear hr hl
 go_enter Tryd.func37,Tryd.ntmps37
 go_wp2_with fail
 go_loopw [3,8] (fun b i wr=>∃ k:Nat,k<=n/\i = .int .i64 (k:Int)/\Hid (Ow wr w.heap.size b (encs (l.take k)))/\Hid (Below w.heap.size w wr)) (fun _ i _=>n - (intOf i).toNat)
 case atStart=>exact ⟨0,Nat.zero_le _,rfl,Ow.empty _ _,Below.refl _ _⟩
 case round =>
  obtain ⟨k,hk,rfl,O1,W1⟩:=hrel
  by_cases hkn:k < n
  ·have hlb:decide ((k:Int) < (n:Int))=true:=by simp; omega
   obtain ⟨b,off,rfl,hb,hc⟩:=HR.out.at_ (by omega)
   have hc0:=hc k hkn
   obtain ⟨z,hz⟩:∃ z,z=l.getD k 0:=⟨_,rfl⟩
   rw [<- hz] at hc0
   have HZ:Hid (In z):=by
    unfold Hid
    rw [hz,List.getD_eq_getElem?_getD,List.getElem?_eq_getElem (by omega)]
    exact HL.out _ (List.getElem_mem _)
   have c0:wr.cell? ⟨b,off + k,none⟩=some (.int .i64 z):=(W1.out.cell (p:=⟨b,off + k,none⟩) hb).trans hc0
   have hlen:(encs (l.take k)).length<=10000:=by
    have:=encs_len (l:=l.take k) (fun y hy=>HL.out y (List.mem_of_mem_take hy))
    rw [List.length_take] at this
    omega
   obtain ⟨A',c',rfl,hR1,_⟩:=O1.out.value
   have E1:Hid (encs (l.take k) ++ Num.enc (Num.zig z)=encs (l.take (k + 1))):=by
    unfold Hid
    rw [take_encs l k (by omega),<- hz]
    rfl
   obtain ⟨m,hm⟩:∃ m,m=(encs (l.take k)).length:=⟨_,rfl⟩
   rw [<- hm] at hR1 hlen ⊢
   have CP:=Lib.hid (put_any z HZ.out.1 HZ.out.2 hR1 (by omega))
   clear hc hc0 hb hz hR1 O1 hm
   go_upto_region 5 with (fail)
   go_upto_region 6 with (first | (go_at_call 53; refine CP.out.mono ?_; rintro e w2 ⟨v2,rfl,hO,hX⟩))
   have hw1:=W1.out.size
   rw [E1.out] at hO
   have O2:Hid (Ow w2 w.heap.size v2 (encs (l.take (k + 1)))):=hO.more hw1
   have W2:=Lib.hid (W1.out.trans (hX.mono hw1))
   clear hO hX CP c0 W1 E1
   go_wp2_with fail
   go_roundw
   case rel=>exact ⟨k + 1,by omega,by go_num,O2,W2⟩
   case measure=>simp [intOf]; omega
  ·obtain rfl:k=n:=by omega
   have hlb:decide ((k:Int) < (k:Int))=false:=by simp
   rw [List.take_of_length_le (by omega)] at O1
   go_wp2_with fail
   go_ret
   exact ⟨_,rfl,O1.out.nw (Nat.le_refl _),W1.out⟩
theorem lit_parts5 (w:World) {A1 A2 A3 A4 A5:Option Addr} {n1 n2 n3 n4 n5 c1 c2 c3 c4 c5 g:Nat} {l1 l2 l3 l4 l5:List UInt8} (h1:Rd w A1 n1 c1 l1) (h2:Rd w A2 n2 c2 l2) (h3:Rd w A3 n3 c3 l3) (h4:Rd w A4 n4 c4 l4) (h5:Rd w A5 n5 c5 l5) (hg:g=w.heap.size) :
  RdP (w.alloc (.cells #[.slice A1 n1 c1,.slice A2 n2 c2,.slice A3 n3 c3,.slice A4 n4 c4,.slice A5 n5 c5] 41)) (some ⟨g,0,none⟩) 5 [l1,l2,l3,l4,l5] :=
 ⟨rfl,fun j hj=>by
  subst hg
  have hX:=alloc_below w (.cells #[.slice A1 n1 c1,.slice A2 n2 c2,.slice A3 n3 c3,.slice A4 n4 c4,.slice A5 n5 c5] 41)
  have hB:=Blk.new w 41 [.slice A1 n1 c1,.slice A2 n2 c2,.slice A3 n3 c3,.slice A4 n4 c4,.slice A5 n5 c5]
  match j,hj with
  | 0,_=>exact ⟨w.heap.size,0,A1,n1,c1,rfl,by simp,hB.cell 0,h1.below hX⟩
  | 1,_=>exact ⟨w.heap.size,0,A2,n2,c2,rfl,by simp,hB.cell 1,h2.below hX⟩
  | 2,_=>exact ⟨w.heap.size,0,A3,n3,c3,rfl,by simp,hB.cell 2,h3.below hX⟩
  | 3,_=>exact ⟨w.heap.size,0,A4,n4,c4,rfl,by simp,hB.cell 3,h4.below hX⟩
  | 4,_=>exact ⟨w.heap.size,0,A5,n5,c5,rfl,by simp,hB.cell 4,h5.below hX⟩⟩
set_option maxRecDepth 100000 in
set_option maxHeartbeats 4000000 in
theorem vbytes_any {v:V} (h:Ok v) (w:World):Calls Tryd.prog 26 #[vval v] w fun e w'=>∃ x,e = .returned x/\Ow w' w.heap.size x (vbytes v)/\Below w.heap.size w w':=by
 have HV:=Lib.hid h
 have HC1:Hid (∀ z ∈ [v.client,v.n,v.count],In z):=by
  intro z hz
  simp at hz
  rcases hz with rfl | rfl | rfl
  ·exact h.client
  ·exact h.n
  ·exact h.count
 have HC2:Hid (∀ z ∈ [v.ep],In z):=by
  intro z hz
  simp at hz
  subst hz
  exact h.ep
 have HC3:=Lib.hid h.each
 have HBL:=Lib.hid (bytes_len h)
 have HBP:=Lib.hid (bytes_pos v)
 have HEP:=Lib.hid (at_ep h)
 have X0:=Lib.hid ((alloc_below w (.cells v.cells.toArray 30)).drew)
 have B0:Hid (Blk (w.alloc (.cells v.cells.toArray 30)).drew w.heap.size 30 v.cells):=(Blk.new w 30 v.cells).drew
 unfold vval
 clear h
 go_enter Tryd.func26,Tryd.ntmps26
 go_upto_region 1 with (fail)
 refine wp_region_any (by kernel_rfl) ?_
 change wpAny _ _ _ _ _ _ _ ((w.alloc (.cells v.cells.toArray 30)).drew)
 generalize (w.alloc (.cells v.cells.toArray 30)).drew=w1 at *
 have hs1:=B0.out.lt
 refine wpAny_take (i:=0) (oi:=?oi1) (v:=.pointer (some ⟨w.heap.size,0,none⟩)) ?hi1 (by kernel_rfl) (by kernel_rfl) (by kernel_rfl) ?hQ1 ?hy1 ?rest1
 case hi1=>simp only [zge]; rfl
 case hQ1=>exact fun _ _ _ h=>h
 case hy1=>exact Or.inl ⟨by rfl,by intro w; go_simp⟩
 try simp only [zpt]
 refine wpAny_take (i:=2) (oi:=?oi2) (v:=.pointer (some ⟨w.heap.size,1,none⟩)) ?hi2 (by kernel_rfl) (by kernel_rfl) (by kernel_rfl) ?hQ2 ?hy2 ?rest2
 case hi2=>simp only [zge]; rfl
 case hQ2=>exact fun _ _ _ h=>h
 case hy2=>exact Or.inl ⟨by rfl,by intro w; go_simp⟩
 try simp only [zpt]
 refine wpAny_take (i:=4) (oi:=?oi3) (v:=.pointer (some ⟨w.heap.size,2,none⟩)) ?hi3 (by kernel_rfl) (by kernel_rfl) (by kernel_rfl) ?hQ3 ?hy3 ?rest3
 case hi3=>simp only [zge]; rfl
 case hQ3=>exact fun _ _ _ h=>h
 case hy3=>exact Or.inl ⟨by rfl,by intro w; go_simp⟩
 try simp only [zpt]
 refine wpAny_take (i:=8) (oi:=?oi4) (v:=.pointer (some ⟨w.heap.size,3,none⟩)) ?hi4 (by kernel_rfl) (by kernel_rfl) (by kernel_rfl) ?hQ4 ?hy4 ?rest4
 case hi4=>simp only [zge]; rfl
 case hQ4=>exact fun _ _ _ h=>h
 case hy4=>exact Or.inl ⟨by rfl,by intro w; go_simp⟩
 try simp only [zpt]
 refine wpAny_take (i:=9) (oi:=?oi5) (v:=.slice (some ⟨w.heap.size,3,none⟩) 32 32) ?hi5 (by kernel_rfl) (by kernel_rfl) (by kernel_rfl) ?hQ5 ?hy5 ?rest5
 case hi5=>simp only [zge]; rfl
 case hQ5=>exact fun _ _ _ h=>h
 case hy5=>exact Or.inl ⟨by rfl,by intro w; go_simp⟩
 try simp only [zpt]
 refine wpAny_take (i:=10) (oi:=?oi6) (v:=.pointer (some ⟨w.heap.size,35,none⟩)) ?hi6 (by kernel_rfl) (by kernel_rfl) (by kernel_rfl) ?hQ6 ?hy6 ?rest6
 case hi6=>simp only [zge]; rfl
 case hQ6=>exact fun _ _ _ h=>h
 case hy6=>exact Or.inl ⟨by rfl,by intro w; go_simp⟩
 try simp only [zpt]
 refine wpAny_take (i:=11) (oi:=?oi7) (v:=.slice (some ⟨w.heap.size,35,none⟩) 32 32) ?hi7 (by kernel_rfl) (by kernel_rfl) (by kernel_rfl) ?hQ7 ?hy7 ?rest7
 case hi7=>simp only [zge]; rfl
 case hQ7=>exact fun _ _ _ h=>h
 case hy7=>exact Or.inl ⟨by rfl,by intro w; go_simp⟩
 try simp only [zpt]
 refine wpAny_take (i:=12) (oi:=?oi8) (v:=.pointer (some ⟨w.heap.size,67,none⟩)) ?hi8 (by kernel_rfl) (by kernel_rfl) (by kernel_rfl) ?hQ8 ?hy8 ?rest8
 case hi8=>simp only [zge]; rfl
 case hQ8=>exact fun _ _ _ h=>h
 case hy8=>exact Or.inl ⟨by rfl,by intro w; go_simp⟩
 try simp only [zpt]
 refine wpAny_take (i:=16) (oi:=?oi9) (v:=.pointer (some ⟨w.heap.size,68,none⟩)) ?hi9 (by kernel_rfl) (by kernel_rfl) (by kernel_rfl) ?hQ9 ?hy9 ?rest9
 case hi9=>simp only [zge]; rfl
 case hQ9=>exact fun _ _ _ h=>h
 case hy9=>exact Or.inl ⟨by rfl,by intro w; go_simp⟩
 try simp only [zpt]
 refine wpAny_take (i:=17) (oi:=?oi10) (v:=.slice (some ⟨w.heap.size,68,none⟩) 4 4) ?hi10 (by kernel_rfl) (by kernel_rfl) (by kernel_rfl) ?hQ10 ?hy10 ?rest10
 case hi10=>simp only [zge]; rfl
 case hQ10=>exact fun _ _ _ h=>h
 case hy10=>exact Or.inl ⟨by rfl,by intro w; go_simp⟩
 try simp only [zpt]
 refine phaseL (fun i=>if i=6 then [1,3,5] else if i=7 then [6] else if i=14 then [13] else if i=15 then [14,7] else if i=18 then [15] else []) (fun d a w'=>∃ x4 x6 x8 x9 x10 x16 x17 x18 x21:Value,a={ tmps:=#[.agg v.cells.toArray,.pointer (some ⟨w.heap.size,0,none⟩),.slice none 0 0,.pointer (some ⟨w.heap.size,0,none⟩),x4,.pointer (some ⟨w.heap.size,1,none⟩),x6,.pointer (some ⟨w.heap.size,2,none⟩),x8,x9,x10,.pointer (some ⟨w.heap.size,3,none⟩),.slice (some ⟨w.heap.size,3,none⟩) 32 32,.pointer (some ⟨w.heap.size,35,none⟩),.slice (some ⟨w.heap.size,35,none⟩) 32 32,.pointer (some ⟨w.heap.size,67,none⟩),x16,x17,x18,.pointer (some ⟨w.heap.size,68,none⟩),.slice (some ⟨w.heap.size,68,none⟩) 4 4,x21,undef,undef],defers:=[] }/\Hid (Below w1.heap.size w1 w')/\(d 1=true->x4 = .int .i64 v.client)/\(d 3=true->x6 = .int .i64 v.n)/\(d 5=true->x8 = .int .i64 v.count)/\(d 6=true->Hid (IRow w' x9 [v.client,v.n,v.count]))/\(d 7=true->Hid (Nw w' 0 x10 (encs [v.client,v.n,v.count])))/\(d 13=true->x16 = .int .i64 v.ep)/\(d 14=true->Hid (IRow w' x17 [v.ep]))/\(d 15=true->Hid (Nw w' 0 x18 (encs [v.ep])))/\(d 18=true->Hid (Nw w' 0 x21 (encs v.vec)))) [1,3,5,6,7,13,14,15,18] ?step11 3 9 [1,3,5,6,7,13,14,15,18] _ _ _ rfl (by decide) (fun _ h=>h) (Fits.of (by kernel_rfl)) ?init11 ?fin11
 case init11=>refine ⟨_,_,_,_,_,_,_,_,_,rfl,Below.refl _ _,?_,?_,?_,?_,?_,?_,?_,?_,?_⟩ <;> (intro h; exact absurd h (by decide))
 case step11 =>
  intro i hi d a v11 hI hdi hdeps
  obtain ⟨x4,x6,x8,x9,x10,x16,x17,x18,x21,rfl,BW,h1,h3,h5,h6,h7,h13,h14,h15,h18⟩:=hI
  have hsw:=BW.out.size
  simp only [List.mem_cons,List.not_mem_nil,or_false] at hi
  rcases hi with rfl | rfl | rfl | rfl | rfl | rfl | rfl | rfl | rfl
  ·have c0:v11.cell? ⟨w.heap.size,0,none⟩=some (.int .i64 v.client):=((B0.out.below BW.out B0.out.lt).cell 0)
   refine wpOp_step (o:=?os12) ?hos12 (fun K hK=>?_)
   case hos12=>simp only [zge]; rfl
   go_simp
   refine hK _ _ ?_
   clear hK K
   try simp only [zpt]
   exact ⟨_,_,_,_,_,_,_,_,_,rfl,BW,fun _=>rfl,fun a=>by first | exact h3 (by simpa using a) | rfl,fun a=>by first | exact h5 (by simpa using a) | rfl,fun a=>h6 (by simpa using a),fun a=>h7 (by simpa using a),fun a=>by first | exact h13 (by simpa using a) | rfl,fun a=>h14 (by simpa using a),fun a=>h15 (by simpa using a),fun a=>h18 (by simpa using a)⟩
  ·have c0:v11.cell? ⟨w.heap.size,1,none⟩=some (.int .i64 v.n):=((B0.out.below BW.out B0.out.lt).cell 1)
   refine wpOp_step (o:=?os13) ?hos13 (fun K hK=>?_)
   case hos13=>simp only [zge]; rfl
   go_simp
   refine hK _ _ ?_
   clear hK K
   try simp only [zpt]
   exact ⟨_,_,_,_,_,_,_,_,_,rfl,BW,fun a=>by first | exact h1 (by simpa using a) | rfl,fun _=>rfl,fun a=>by first | exact h5 (by simpa using a) | rfl,fun a=>h6 (by simpa using a),fun a=>h7 (by simpa using a),fun a=>by first | exact h13 (by simpa using a) | rfl,fun a=>h14 (by simpa using a),fun a=>h15 (by simpa using a),fun a=>h18 (by simpa using a)⟩
  ·have c0:v11.cell? ⟨w.heap.size,2,none⟩=some (.int .i64 v.count):=((B0.out.below BW.out B0.out.lt).cell 2)
   refine wpOp_step (o:=?os14) ?hos14 (fun K hK=>?_)
   case hos14=>simp only [zge]; rfl
   go_simp
   refine hK _ _ ?_
   clear hK K
   try simp only [zpt]
   exact ⟨_,_,_,_,_,_,_,_,_,rfl,BW,fun a=>by first | exact h1 (by simpa using a) | rfl,fun a=>by first | exact h3 (by simpa using a) | rfl,fun _=>rfl,fun a=>h6 (by simpa using a),fun a=>h7 (by simpa using a),fun a=>by first | exact h13 (by simpa using a) | rfl,fun a=>h14 (by simpa using a),fun a=>h15 (by simpa using a),fun a=>h18 (by simpa using a)⟩
  ·obtain rfl:=h1 (hdeps 1 (by simp))
   obtain rfl:=h3 (hdeps 3 (by simp))
   obtain rfl:=h5 (hdeps 5 (by simp))
   have hN:=Lib.hid (IRow.lit v11 2 [v.client,v.n,v.count])
   have hX:=alloc_below v11 (.cells #[.int .i64 v.client,.int .i64 v.n,.int .i64 v.count] 2)
   refine wpOp_step (o:=?os15) ?hos15 (fun K hK=>?_)
   case hos15=>simp only [zge]; rfl
   go_simp
   refine hK _ _ ?_
   clear hK K
   try simp only [zpt]
   exact ⟨_,_,_,_,_,_,_,_,_,rfl,BW.out.trans (hX.mono hsw),fun a=>by first | exact h1 (by simpa using a) | rfl,fun a=>by first | exact h3 (by simpa using a) | rfl,fun a=>by first | exact h5 (by simpa using a) | rfl,fun _=>hN,fun a=>(h7 (by simpa using a)).out.below hX,fun a=>by first | exact h13 (by simpa using a) | rfl,fun a=>(h14 (by simpa using a)).out.below hX,fun a=>(h15 (by simpa using a)).out.below hX,fun a=>(h18 (by simpa using a)).out.below hX⟩
  ·obtain ⟨gr,rfl,hr⟩:=(h6 (hdeps 6 (by simp))).out
   refine wpOp_step (o:=?os16) ?hos16 (fun K hK=>?_)
   case hos16=>simp only [zge]; rfl
   go_simp
   refine (numbers_any (c:=3) hr (by simp) HC1.out).mono ?_
   rintro e u11 ⟨x,rfl,hN,hX⟩
   refine hK _ _ ?_
   clear hK K
   try simp only [zpt]
   exact ⟨_,_,_,_,_,_,_,_,_,rfl,BW.out.trans (hX.mono hsw),fun a=>by first | exact h1 (by simpa using a) | rfl,fun a=>by first | exact h3 (by simpa using a) | rfl,fun a=>by first | exact h5 (by simpa using a) | rfl,fun a=>(h6 (by simpa using a)).out.below hX,fun _=>hN.mono0,fun a=>by first | exact h13 (by simpa using a) | rfl,fun a=>(h14 (by simpa using a)).out.below hX,fun a=>(h15 (by simpa using a)).out.below hX,fun a=>(h18 (by simpa using a)).out.below hX⟩
  ·have c0:v11.cell? ⟨w.heap.size,67,none⟩=some (.int .i64 v.ep):=((B0.out.below BW.out B0.out.lt).cell 67).trans HEP.out
   refine wpOp_step (o:=?os17) ?hos17 (fun K hK=>?_)
   case hos17=>simp only [zge]; rfl
   go_simp
   refine hK _ _ ?_
   clear hK K
   try simp only [zpt]
   exact ⟨_,_,_,_,_,_,_,_,_,rfl,BW,fun a=>by first | exact h1 (by simpa using a) | rfl,fun a=>by first | exact h3 (by simpa using a) | rfl,fun a=>by first | exact h5 (by simpa using a) | rfl,fun a=>h6 (by simpa using a),fun a=>h7 (by simpa using a),fun _=>rfl,fun a=>h14 (by simpa using a),fun a=>h15 (by simpa using a),fun a=>h18 (by simpa using a)⟩
  ·obtain rfl:=h13 (hdeps 13 (by simp))
   have hN:=Lib.hid (IRow.lit v11 2 [v.ep])
   have hX:=alloc_below v11 (.cells #[.int .i64 v.ep] 2)
   refine wpOp_step (o:=?os18) ?hos18 (fun K hK=>?_)
   case hos18=>simp only [zge]; rfl
   go_simp
   refine hK _ _ ?_
   clear hK K
   try simp only [zpt]
   exact ⟨_,_,_,_,_,_,_,_,_,rfl,BW.out.trans (hX.mono hsw),fun a=>by first | exact h1 (by simpa using a) | rfl,fun a=>by first | exact h3 (by simpa using a) | rfl,fun a=>by first | exact h5 (by simpa using a) | rfl,fun a=>(h6 (by simpa using a)).out.below hX,fun a=>(h7 (by simpa using a)).out.below hX,fun a=>by first | exact h13 (by simpa using a) | rfl,fun _=>hN,fun a=>(h15 (by simpa using a)).out.below hX,fun a=>(h18 (by simpa using a)).out.below hX⟩
  ·obtain ⟨gr,rfl,hr⟩:=(h14 (hdeps 14 (by simp))).out
   refine wpOp_step (o:=?os19) ?hos19 (fun K hK=>?_)
   case hos19=>simp only [zge]; rfl
   go_simp
   refine (numbers_any (c:=1) hr (by simp) HC2.out).mono ?_
   rintro e u11 ⟨x,rfl,hN,hX⟩
   refine hK _ _ ?_
   clear hK K
   try simp only [zpt]
   exact ⟨_,_,_,_,_,_,_,_,_,rfl,BW.out.trans (hX.mono hsw),fun a=>by first | exact h1 (by simpa using a) | rfl,fun a=>by first | exact h3 (by simpa using a) | rfl,fun a=>by first | exact h5 (by simpa using a) | rfl,fun a=>(h6 (by simpa using a)).out.below hX,fun a=>(h7 (by simpa using a)).out.below hX,fun a=>by first | exact h13 (by simpa using a) | rfl,fun a=>(h14 (by simpa using a)).out.below hX,fun _=>hN.mono0,fun a=>(h18 (by simpa using a)).out.below hX⟩
  ·have hr:=Blk.vec HV.out (B0.out.below BW.out B0.out.lt)
   refine wpOp_step (o:=?os20) ?hos20 (fun K hK=>?_)
   case hos20=>simp only [zge]; rfl
   go_simp
   refine (numbers_any (c:=4) hr (by decide) HC3.out).mono ?_
   rintro e u11 ⟨x,rfl,hN,hX⟩
   refine hK _ _ ?_
   clear hK K
   try simp only [zpt]
   exact ⟨_,_,_,_,_,_,_,_,_,rfl,BW.out.trans (hX.mono hsw),fun a=>by first | exact h1 (by simpa using a) | rfl,fun a=>by first | exact h3 (by simpa using a) | rfl,fun a=>by first | exact h5 (by simpa using a) | rfl,fun a=>(h6 (by simpa using a)).out.below hX,fun a=>(h7 (by simpa using a)).out.below hX,fun a=>by first | exact h13 (by simpa using a) | rfl,fun a=>(h14 (by simpa using a)).out.below hX,fun a=>(h15 (by simpa using a)).out.below hX,fun _=>hN.mono0⟩
 case fin11 =>
  intro a v11 hI
  obtain ⟨x4,x6,x8,x9,x10,x16,x17,x18,x21,rfl,BW,h1,h3,h5,h6,h7,h13,h14,h15,h18⟩:=hI
  obtain rfl:=h1 (by decide)
  obtain rfl:=h3 (by decide)
  obtain rfl:=h5 (by decide)
  obtain rfl:=h13 (by decide)
  obtain ⟨A1,c1,rfl,hR1,_⟩:=(h7 (by decide)).out
  obtain ⟨A4,c4,rfl,hR4,_⟩:=(h15 (by decide)).out
  obtain ⟨A5,c5,rfl,hR5,_⟩:=(h18 (by decide)).out
  have hB:=B0.out.below BW.out hs1
  have HP:Hid (RdP _ _ 5 (parts v)):=lit_parts5 v11 hR1 (Blk.prev HV.out hB) (Blk.root HV.out hB) hR4 hR5 rfl
  have hX:=alloc_below v11 (.cells #[.slice A1 (encs [v.client,v.n,v.count]).length c1,.slice (some ⟨w.heap.size,3,none⟩) 32 32,.slice (some ⟨w.heap.size,35,none⟩) 32 32,.slice A4 (encs [v.ep]).length c4,.slice A5 (encs v.vec).length c5] 41)
  have W2:=Lib.hid ((X0.out.trans (BW.out.mono X0.out.size)).trans (hX.mono (Nat.le_trans X0.out.size BW.out.size)))
  obtain ⟨m1,hm1⟩:∃ m,m=(encs [v.client,v.n,v.count]).length:=⟨_,rfl⟩
  obtain ⟨m4,hm4⟩:∃ m,m=(encs [v.ep]).length:=⟨_,rfl⟩
  obtain ⟨m5,hm5⟩:∃ m,m=(encs v.vec).length:=⟨_,rfl⟩
  rw [<- hm1,<- hm4,<- hm5] at HP W2
  rw [<- hm1,<- hm4,<- hm5]
  clear hB hR1 hR4 hR5 BW B0 X0 hX h1 h3 h5 h6 h7 h13 h14 h15 h18 hm1 hm4 hm5
  try dsimp only
  refine wpAny_ready (rs:=[19]) (by kernel_rfl) (by simp) ?_
  refine AllReady.cons (o:=?p21) ?q21 (fun K hK=>?_) AllReady.nil
  case q21=>simp only [zge]; rfl
  go_simp
  refine hK _ _ ?_
  clear hK K
  try simp only [zpt]
  generalize v11.alloc (.cells #[.slice A1 m1 c1,.slice (some ⟨w.heap.size,3,none⟩) 32 32,.slice (some ⟨w.heap.size,35,none⟩) 32 32,.slice A4 m4 c4,.slice A5 m5 c5] 41)=w5 at *
  generalize v11.heap.size=g5 at *
  have CC:=Lib.hid (concat_any (c:=5) HP.out (by decide) HBP.out (by have:=HBL.out; unfold vbytes at this; omega))
  refine wpAny_ready (rs:=[20]) (by kernel_rfl) (by simp) ?_
  refine AllReady.cons (o:=?p22) ?q22 (fun K hK=>?_) AllReady.nil
  case q22=>simp only [zge]; rfl
  go_simp
  refine CC.out.mono ?_
  rintro e w6 ⟨x6,rfl,hO,hX⟩
  have hs5:=W2.out.size
  have O6:Hid (Ow w6 w.heap.size x6 (vbytes v)):=hO.more hs5
  have W6:=Lib.hid (W2.out.trans (hX.mono hs5))
  clear hO hX CC W2 HP
  refine hK _ _ ?_
  clear hK K
  try simp only [zpt]
  refine wpAny_take (i:=21) (oi:=?oi23) (v:=x6) ?hi23 (by kernel_rfl) (by kernel_rfl) (by kernel_rfl) ?hQ23 ?hy23 ?rest23
  case hi23=>simp only [zge]; rfl
  case hQ23=>exact fun _ _ _ h=>h
  case hy23=>exact Or.inl ⟨by rfl,by intro w; go_simp⟩
  try simp only [zpt]
  refine wpAny_done (by kernel_rfl) ?_ _
  go_wp2_with fail
  go_ret
  exact ⟨_,rfl,O6.out,W6.out⟩
end Go.Proofs.YtajgjeialbgijaaDoor
