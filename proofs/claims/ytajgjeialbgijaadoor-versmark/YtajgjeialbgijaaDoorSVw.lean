import Derived.Test.YtajgjeialbgijaaDoorSRbs
import Derived.Test.YtajgjeialbgijaaDoorSVbg
import Derived.Test.YtajgjeialbgijaaDoorSVq
namespace Go.Proofs.YtajgjeialbgijaaDoor
set_option linter.unusedVariables false
set_option linter.unusedSimpArgs false
set_option maxRecDepth 100000
open Go.RowKit Vs
set_option maxRecDepth 100000 in
set_option maxHeartbeats 1000000 in
theorem both_real {P:BxP} (hB:BoxOk P) (s:Int) (w:World) (h1:-9223372036854775808<=s) (h2:s<=9223372036854775807):Calls Tryd.prog 11 #[.int .i64 0,.int .i64 s] w fun e w'=>∃ gx gy M,e = .returned (.tuple #[.pointer (some ⟨gx,0,none⟩),.pointer (some ⟨gy,0,none⟩)])/\P w' gx .real M/\Blk w' gy 58 [.int .i64 0,.int .i64 s,.int .i64 0,.slice none 0 0]/\(∀ b,M b->w.heap.size<=b/\b < gy)/\w.heap.size<=gy/\Below w.heap.size w w':=by
 have HB:=Lib.hid hB
 clear hB
 go_enter Tryd.func11,Tryd.ntmps11
 go_wp2_with fail
 refine (tnew_any s _ h1 h2).mono ?_
 rintro e w2 ⟨t1,rfl,ht1,hT,hX⟩
 have W1:=Lib.hid hX
 have T1:=Lib.hid hT
 have hsa:=hX.size
 clear hT hX
 go_wp2_with fail
 refine (HB.out.newR w2 _).mono ?_
 rintro e w3 ⟨gx,M,rfl,hM,hP,hX⟩
 have hs3:=hX.size
 replace W1:=Lib.hid (W1.out.trans (hX.mono W1.out.size))
 have MX:Hid (∀ b,M b->w.heap.size<=b):=fun b hb=>by have:=hM b hb; omega
 have PX:=Lib.hid hP
 have ML:Hid (∀ b,M b->b < w3.heap.size):=fun b hb=>HB.out.lt PX.out hb
 have hb:Below w3.heap.size w3 (w3.alloc (.cells #[.int .i64 0,.int .i64 s,.int .i64 0,.slice none 0 0] 58)):=alloc_below w3 _
 have P4:=Lib.hid (HB.out.below PX.out hb)
 have B4:Hid (Blk (w3.alloc (.cells #[.int .i64 0,.int .i64 s,.int .i64 0,.slice none 0 0] 58)) w3.heap.size 58 [.int .i64 0,.int .i64 s,.int .i64 0,.slice none 0 0]):=Blk.at_new _ _ _ _ _ rfl rfl
 have W4:=Lib.hid (W1.out.trans (hb.mono W1.out.size))
 clear hM hP hX T1 hb
 go_wp2_with fail
 go_ret2
 exact ⟨gx,w3.heap.size,M,rfl,P4.out,B4.out,fun b hb=>⟨MX.out b hb,ML.out b hb⟩,W1.out.size,W4.out⟩
set_option maxRecDepth 100000 in
set_option maxHeartbeats 1000000 in
theorem both_ideal {P:BxP} (hB:BoxOk P) (s:Int) (w:World) (h1:-9223372036854775808<=s) (h2:s<=9223372036854775807):Calls Tryd.prog 11 #[.int .i64 1,.int .i64 s] w fun e w'=>∃ gx gy M,e = .returned (.tuple #[.pointer (some ⟨gx,0,none⟩),.pointer (some ⟨gy,0,none⟩)])/\P w' gx (.ideal s 0 [] [] []) M/\Blk w' gy 58 [.int .i64 1,.int .i64 s,.int .i64 0,.slice none 0 0]/\(∀ b,M b->w.heap.size<=b/\b < gy)/\w.heap.size<=gy/\Below w.heap.size w w':=by
 have HB:=Lib.hid hB
 clear hB
 go_enter Tryd.func11,Tryd.ntmps11
 go_wp2_with fail
 refine (tnew_any s _ h1 h2).mono ?_
 rintro e w2 ⟨t1,rfl,ht1,hT,hX⟩
 have W1:=Lib.hid hX
 have T1:=Lib.hid hT
 have hsa:=hX.size
 clear hT hX
 go_wp2_with fail
 refine (HB.out.newI T1.out).mono ?_
 rintro e w3 ⟨gx,M,rfl,hM,hP,hX⟩
 have hs3:=hX.size
 replace W1:=Lib.hid (W1.out.trans (hX.mono W1.out.size))
 have MX:Hid (∀ b,M b->w.heap.size<=b):=fun b hb=>by rcases hM b hb with h | h <;> omega
 have PX:=Lib.hid hP
 have ML:Hid (∀ b,M b->b < w3.heap.size):=fun b hb=>HB.out.lt PX.out hb
 have hb:Below w3.heap.size w3 (w3.alloc (.cells #[.int .i64 1,.int .i64 s,.int .i64 0,.slice none 0 0] 58)):=alloc_below w3 _
 have P4:=Lib.hid (HB.out.below PX.out hb)
 have B4:Hid (Blk (w3.alloc (.cells #[.int .i64 1,.int .i64 s,.int .i64 0,.slice none 0 0] 58)) w3.heap.size 58 [.int .i64 1,.int .i64 s,.int .i64 0,.slice none 0 0]):=Blk.at_new _ _ _ _ _ rfl rfl
 have W4:=Lib.hid (W1.out.trans (hb.mono W1.out.size))
 clear hM hP hX T1 hb
 go_wp2_with fail
 go_ret2
 exact ⟨gx,w3.heap.size,M,rfl,P4.out,B4.out,fun b hb=>⟨MX.out b hb,ML.out b hb⟩,W1.out.size,W4.out⟩
def modeOf:Bool->Int
 | true=>1
 | false=>0
structure MkP (ideal:Bool) (v:V) (key tag:List UInt8) (ok:V->Bool) (J0:Nat->World->Nat->Nat->Prop) (J1 J2:Nat->World->Nat->Nat->(Nat->Prop)->Prop):Prop where
 tl:tag.length=32
 okm:ok { v with tag:=tag }=true
 j0:∀ {B:Nat} {W W':World} {gx gy:Nat},J0 B W gx gy->Below W.heap.size W W'->J0 B W' gx gy
 j1:∀ {B:Nat} {W W':World} {gx gy:Nat} {F:Nat->Prop},J1 B W gx gy F->Below W.heap.size W W'->J1 B W' gx gy F
 j2:∀ {B:Nat} {W W':World} {gx gy:Nat} {F:Nat->Prop},J2 B W gx gy F->W.heap.size<=W'.heap.size->(∀ b,F b->W'.heap[b]?=W.heap[b]?)->J2 B W' gx gy F
 low:∀ {B:Nat} {W:World} {gx gy:Nat} {F:Nat->Prop},J1 B W gx gy F->B<=gy/\gy < W.heap.size/\∀ b,F b->b < W.heap.size
 low2:∀ {B:Nat} {W:World} {gx gy:Nat} {F:Nat->Prop},J2 B W gx gy F->∀ b,F b->b < W.heap.size
 both:∀ (W:World),Calls Tryd.prog 11 #[.int .i64 (modeOf ideal),.int .i64 3] W fun e w'=>∃ gx gy,e = .returned (.tuple #[.pointer (some ⟨gx,0,none⟩),.pointer (some ⟨gy,0,none⟩)])/\J0 W.heap.size w' gx gy/\Below W.heap.size W w'
 sign:∀ {B:Nat} {W:World} {gx gy:Nat},Gl W->2<=B->B<=W.heap.size->J0 B W gx gy->Calls Tryd.prog 12 #[.pointer (some ⟨gx,0,none⟩),.agg (key.map cellOf).toArray,vval v] W fun e w'=>e = .returned (vval { v with tag:=tag })/\(∃ F,J1 B w' gx gy F)/\Below B W w'
 mark:∀ {B:Nat} {W:World} {gx gy:Nat} {F:Nat->Prop} {A:Option Addr} {n c:Nat},B<=W.heap.size->J1 B W gx gy F->Rd W A n c (vbytes v)->(∀ x:Addr,A=some x->0 < n->x.block ≠ gy)->Calls Tryd.prog 13 #[.pointer (some ⟨gy,0,none⟩),.agg (key.map cellOf).toArray,.slice A n c] W fun e w'=>e = .returned (.agg (tag.map cellOf).toArray)/\(∃ F',J2 B w' gx gy F'/\∀ b,F' b->F b ∨ W.heap.size<=b)/\Fr F W w'
 foot:∀ {B:Nat} {W:World} {gx gy:Nat} {F:Nat->Prop},J1 B W gx gy F->∀ b,F b->B<=b
 isP:∀ {B:Nat} {W:World} {gx gy:Nat} {F:Nat->Prop} {u:V},Ok u->Gl W->J2 B W gx gy F->Calls Tryd.prog 15 #[.pointer (some ⟨gx,0,none⟩),.agg (key.map cellOf).toArray,vval u] W fun e w'=>e = .returned (.bool (ok u))/\Below W.heap.size W w'
 isQ:∀ {B:Nat} {W:World} {gx gy:Nat} {F:Nat->Prop} {u:V} {A:Option Addr} {n c:Nat},Ok u->J2 B W gx gy F->Rd W A n c (vbytes u)->Calls Tryd.prog 16 #[.pointer (some ⟨gy,0,none⟩),.agg (key.map cellOf).toArray,.slice A n c,.agg (u.tag.map cellOf).toArray] W fun e w'=>e = .returned (.bool (ok u))/\Below W.heap.size W w'
theorem vbytes_tag (v:V) (t:List UInt8):vbytes { v with tag:=t }=vbytes v:=rfl
theorem rd_short {w:World} {A:Option Addr} {n c:Nat} {v:V} (h:Ok v) (hr:Rd w A n c (vbytes v)):n<=100000:=by
 have h1:=hr.len
 have h2:=bytes_len h
 omega
def JR (P:BxP) (B:Nat) (W:World) (gx gy:Nat) (F:Nat->Prop):Prop:=B<=gy/\(∃ M,P W gx .real M/\(∀ b,M b->B<=b)/\∀ b,F b ↔ M b ∨ b=gy)/\Blk W gy 58 [.int .i64 0,.int .i64 3,.int .i64 0,.slice none 0 0]
theorem JR.keep {P:BxP} (hB:BoxOk P) {B:Nat} {W W':World} {gx gy:Nat} {F:Nat->Prop} (h:JR P B W gx gy F) (hs:W.heap.size<=W'.heap.size) (hk:∀ b,F b->W'.heap[b]?=W.heap[b]?):JR P B W' gx gy F:=by
 obtain ⟨h1,⟨M,hP,hM,hF⟩,hb⟩:=h
 exact ⟨h1,⟨M,hB.keep hP hs fun b hm=>hk b ((hF b).2 (.inl hm)),hM,hF⟩,(hk gy ((hF gy).2 (.inr rfl))).trans hb⟩
theorem JR.lt {P:BxP} (hB:BoxOk P) {B:Nat} {W:World} {gx gy:Nat} {F:Nat->Prop} (h:JR P B W gx gy F):∀ b,F b->b < W.heap.size:=fun b hf=>by
 obtain ⟨h1,⟨M,hP,hM,hF⟩,hb⟩:=h
 rcases (hF b).1 hf with h | h
 ·exact hB.lt hP h
 ·rw [h]; exact hb.lt
theorem JR.foot {P:BxP} {B:Nat} {W:World} {gx gy:Nat} {F:Nat->Prop} (h:JR P B W gx gy F):∀ b,F b->B<=b:=fun b hf=>by
 obtain ⟨h1,⟨M,hP,hM,hF⟩,hb⟩:=h
 rcases (hF b).1 hf with h | h
 ·exact hM b h
 ·rw [h]; exact h1
theorem mark_real {P:BxP} (hB:BoxOk P) {v:V} (h:Ok v) {key:List UInt8} (hk:key.length=32):MkP false v key (Sha.hmac key (vbytes v)) (fun u=>decide (Sha.hmac key (vbytes u)=u.tag))
  (fun B W gx gy=>B<=gy/\(∃ M,P W gx .real M/\∀ b,M b->B<=b/\b ≠ gy)/\Blk W gy 58 [.int .i64 0,.int .i64 3,.int .i64 0,.slice none 0 0]) (JR P) (JR P):=by
 refine ⟨Sha.hmac_length _ _,by rw [vbytes_tag]; exact decide_eq_true rfl,?_,fun h hX=>h.keep hB hX.size fun b hf=>hX.block b (h.lt hB b hf),fun h hs hf=>h.keep hB hs hf,fun h=>⟨h.1,h.2.2.lt,h.lt hB⟩,fun h=>h.lt hB,?_,?_,?_,fun h=>h.foot,?_,?_⟩
 ·rintro B W W' gx gy ⟨h1,⟨M,hP,hM⟩,hb⟩ hX
  exact ⟨h1,⟨M,hB.below hP hX,hM⟩,hb.below hX hb.lt⟩
 ·intro W
  refine (both_real hB 3 W (by omega) (by omega)).mono ?_
  rintro e w' ⟨gx,gy,M,rfl,hP,hb,hM,hg,hX⟩
  exact ⟨gx,gy,rfl,⟨hg,⟨M,hP,fun b hm=>⟨(hM b hm).1,by have:=(hM b hm).2; omega⟩⟩,hb⟩,hX⟩
 ·rintro B W gx gy hg hNG hBW ⟨h1,⟨M,hP,hM⟩,hb⟩
  refine (vsign_real hB h hg hP hk).mono ?_
  rintro e w' ⟨M',rfl,hP',hF,hM'⟩
  refine ⟨rfl,⟨fun b=>M' b ∨ b=gy,h1,⟨M',hP',fun b hm=>?_,fun b=>Iff.rfl⟩,hF.blk hb fun hm=>(hM gy hm).2 rfl⟩,hF.below (Below.refl B W) (fun b hm=>(hM b hm).1) hBW⟩
  rcases hM' b hm with h | h
  ·exact (hM b h).1
  ·omega
 ·rintro B W gx gy F A n c hBW hJ hr _
  refine (rmarkR_any key hJ.2.2 hk hr (rd_short h hr)).mono ?_
  rintro e w' ⟨rfl,hX⟩
  exact ⟨rfl,⟨F,hJ.keep hB hX.size fun b hf=>hX.block b (hJ.lt hB b hf),fun b hf=>.inl hf⟩,⟨hX.os,hX.tape,hX.output,hX.size,fun i hi _=>hX.block i hi⟩⟩
 ·rintro B W gx gy F u hu hg ⟨h1,⟨M,hP,hM⟩,hb⟩
  exact vis_real hB hu hg hP hk
 ·rintro B W gx gy F u A n c hu ⟨h1,⟨M,hP,hM⟩,hb⟩ hr
  exact risR_any key u.tag hb hk hu.tag hr (rd_short hu hr)
theorem any_look (key b h:List UInt8):∀ {l:List RNote},l.length<=1->l.any (isR key b h)=decide (lookR 1 key b l=some h)
 | [],_=>by simp [lookR]
 | [n],_=>by
  simp only [List.any_cons,List.any_nil,Bool.or_false,lookR,isR]
  by_cases h1:n.kind=1/\n.key=key/\n.b=b
  ·obtain ⟨a,c,d⟩:=h1
   simp [a,c,d]
  ·have e1:decide (n.kind=1/\n.key=key/\n.b=b/\n.out=h)=false:=decide_eq_false (fun h2=>h1 ⟨h2.1,h2.2.1,h2.2.2.1⟩)
   have e2:decide ((if n.kind=1/\n.key=key/\n.b=b then some n.out else none)=some h)=false:=decide_eq_false (by rw [if_neg h1]; simp)
   rw [e1]
   exact e2.symm
 | _ :: _ :: _,h=>by simp at h
theorem mark_ideal {P:BxP} (hB:BoxOk P) {v:V} (h:Ok v) {key:List UInt8} (hk:key.length=32):∃ J0 J1 J2,MkP true v key (Bx.bookOut 3 0 key (vbytes v) []) (fun u=>decide (Bx.lookB key (vbytes u) (Bx.bookNext 3 0 key (vbytes v) [])=some u.tag)) J0 J1 J2:=by
 have hgd:Bx.Good ([]:List Bx.BNote):=fun n hn=>by cases hn
 obtain ⟨tag,htag⟩:∃ x,x=Bx.bookOut 3 0 key (vbytes v) []:=⟨_,rfl⟩
 obtain ⟨N1,hN1⟩:∃ x,x=Bx.bookNext 3 0 key (vbytes v) []:=⟨_,rfl⟩
 obtain ⟨a1,ha1⟩:∃ x,x=Bx.bookAt 0 key (vbytes v) []:=⟨_,rfl⟩
 have hlk:Bx.lookB key (vbytes v) N1=some tag:=by rw [hN1,htag]; simp [Bx.bookNext,Bx.bookOut,Bx.lookB]
 have htl:tag.length=32:=by rw [htag]; exact Bx.bookOut_length _ _ _ _ _ hgd
 obtain ⟨J1,hJ1⟩:∃ J:Nat->World->Nat->Nat->(Nat->Prop)->Prop,J=fun B W gx gy F=>B<=gy/\(∃ M,P W gx (.ideal 3 a1 [] N1 []) M/\(∀ b,M b->B<=b/\b ≠ gy)/\∀ b,F b ↔ M b ∨ b=gy)/\Blk W gy 58 [.int .i64 1,.int .i64 3,.int .i64 0,.slice none 0 0]:=⟨_,rfl⟩
 obtain ⟨J2,hJ2⟩:∃ J:Nat->World->Nat->Nat->(Nat->Prop)->Prop,J=fun B W gx gy F=>(∃ M,P W gx (.ideal 3 a1 [] N1 []) M/\∀ b,M b->F b)/\(∀ b,F b->b < W.heap.size)/\∃ B0 l v',RefAt W B0 gy 3 a1 l v'/\l.length<=1/\Alike l N1 []/\F gy/\∀ b,v'.ownBlock=some b->F b:=⟨_,rfl⟩
 rw [<- htag,<- hN1]
 refine ⟨fun B W gx gy=>B<=gy/\(∃ M,P W gx (.ideal 3 0 [] [] []) M/\∀ b,M b->B<=b/\b ≠ gy)/\Blk W gy 58 [.int .i64 1,.int .i64 3,.int .i64 0,.slice none 0 0],J1,J2,htl,by rw [vbytes_tag]; exact decide_eq_true hlk,?_,?_,?_,?_,?_,?_,?_,?_,?_,?_,?_⟩
 ·rintro B W W' gx gy ⟨h1,⟨M,hP,hM⟩,hb⟩ hX
  exact ⟨h1,⟨M,hB.below hP hX,hM⟩,hb.below hX hb.lt⟩
 ·rw [hJ1]
  rintro B W W' gx gy F ⟨h1,⟨M,hP,hM⟩,hb⟩ hX
  exact ⟨h1,⟨M,hB.below hP hX,hM⟩,hb.below hX hb.lt⟩
 ·rw [hJ2]
  rintro B W W' gx gy F ⟨⟨M,hP,hM⟩,hlt,B0,l,v',hR,h2,h3,h4,h5⟩ hs hf
  exact ⟨⟨M,hB.keep hP hs fun b hm=>hf b (hM b hm),hM⟩,fun b hb=>Nat.lt_of_lt_of_le (hlt b hb) hs,B0,l,v',hR.keep hs (hf _ h4) fun q hq=>hf q (h5 q hq),h2,h3,h4,h5⟩
 ·rw [hJ1]
  rintro B W gx gy F ⟨h1,⟨M,hP,hM,hF⟩,hb⟩
  refine ⟨h1,hb.lt,fun b hf=>?_⟩
  rcases (hF b).1 hf with h | h
  ·exact hB.lt hP h
  ·rw [h]; exact hb.lt
 ·rw [hJ2]
  rintro B W gx gy F ⟨_,hlt,_⟩
  exact hlt
 ·intro W
  refine (both_ideal hB 3 W (by omega) (by omega)).mono ?_
  rintro e w' ⟨gx,gy,M,rfl,hP,hb,hM,hg,hX⟩
  exact ⟨gx,gy,rfl,⟨hg,⟨M,hP,fun b hm=>⟨(hM b hm).1,by have:=(hM b hm).2; omega⟩⟩,hb⟩,hX⟩
 ·rw [hJ1]
  rintro B W gx gy hg hNG hBW ⟨h1,⟨M,hP,hM⟩,hb⟩
  refine (vsign_ideal hB h hg (fun b hm=>Nat.le_trans hNG (hM b hm).1) hP (by omega) hk).mono ?_
  rintro e w' ⟨M',rfl,hP',hF,hM'⟩
  have hlt:=hb.lt
  rw [<- htag]
  rw [<- ha1,<- hN1] at hP'
  refine ⟨rfl,⟨fun b=>M' b ∨ b=gy,h1,⟨M',hP',fun b hm=>?_,fun b=>Iff.rfl⟩,hF.blk hb fun hm=>(hM gy hm).2 rfl⟩,hF.below (Below.refl B W) (fun b hm=>(hM b hm).1) hBW⟩
  rcases hM' b hm with h | h
  ·exact hM b h
  ·exact ⟨by omega,by omega⟩
 ·rw [hJ1,hJ2]
  rintro B W gx gy F A n c hBW ⟨h1,⟨M,hP,hM,hF0⟩,hb⟩ hr hog
  have hR:RefAt W B gy 3 0 [] (.slice none 0 0):=⟨hb,World.ownsRow_nil _ _ _ _,fun n hn=>(by cases hn),(by omega),(by omega)⟩
  refine (rmark_any (L:=[]) key hR Alike.nil hgd hk hr (rd_short h hr) hog (by omega) (by simp) hBW).mono ?_
  rintro e w' ⟨l',v',rfl,hR',hl',hA',hown,hF⟩
  rw [<- ha1] at hR'
  rw [<- hN1] at hA'
  rw [<- htag]
  have hne:∀ b,M b->¬ (b=gy ∨ some b=Value.ownBlock (.slice none 0 0)):=fun b hm h=>by
   rcases h with h | h
   ·exact (hM b hm).2 h
   ·cases h
  refine ⟨rfl,⟨fun b=>F b ∨ v'.ownBlock=some b,⟨⟨M,hB.apart hP hF hne,fun b hm=>.inl ((hF0 b).2 (.inl hm))⟩,fun b hf=>?_,B,l',v',hR',by simpa using hl',hA',.inl ((hF0 gy).2 (.inr rfl)),fun b hb=>.inr hb⟩,fun b hf=>?_⟩,⟨hF.os,hF.tape,hF.output,hF.size,fun i hi hni=>hF.block i hi fun h=>?_⟩⟩
  ·rcases hf with hf | hf
   ·rcases (hF0 b).1 hf with h | h
    ·exact Nat.lt_of_lt_of_le (hB.lt hP h) hF.size
    ·rw [h]; exact Nat.lt_of_lt_of_le hb.lt hF.size
   ·exact (World.ownsRow.lt hR'.own b hf).2
  ·rcases hf with hf | hf
   ·exact .inl hf
   ·rcases hown b hf with h | h
    ·cases h
    ·exact .inr h
  ·rcases h with h | h
   ·exact hni ((hF0 i).2 (.inr h))
   ·cases h
 ·rw [hJ1]
  rintro B W gx gy F ⟨h1,⟨M,hP,hM,hF⟩,hb⟩ b hf
  rcases (hF b).1 hf with h | h
  ·exact (hM b h).1
  ·rw [h]; exact h1
 ·rw [hJ2]
  rintro B W gx gy F u hu hg ⟨⟨M,hP,_⟩,_⟩
  exact vis_ideal hB hu hg hP hk
 ·rw [hJ2]
  rintro B W gx gy F u A n c hu ⟨_,_,B0,l,v',hR,h2,h3,_⟩ hr
  refine (risI_any key u.tag hR hk hu.tag hr (rd_short hu hr) (by omega)).mono ?_
  rintro e w' ⟨rfl,hX⟩
  rw [any_look _ _ _ h2,(h3 key (vbytes u)).1]
  exact ⟨rfl,hX⟩
theorem mark_any {P:BxP} (hB:BoxOk P) {v:V} (h:Ok v) {key:List UInt8} (hk:key.length=32) (ideal:Bool):∃ tag ok J0 J1 J2,MkP ideal v key tag ok J0 J1 J2:=by
 cases ideal with
 | true=>exact ⟨_,_,mark_ideal hB h hk⟩
 | false=>exact ⟨_,_,_,_,_,mark_real hB h hk⟩
end Go.Proofs.YtajgjeialbgijaaDoor
