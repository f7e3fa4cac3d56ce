import Derived.Test.YtajgjeialbgijaaDoorSBox
import Derived.Test.YtajgjeialbgijaaDoorSSmall
import Derived.Test.YtajgjeialbgijaaDoorSVb
namespace Go.Proofs.YtajgjeialbgijaaDoor
set_option linter.unusedVariables false
set_option linter.unusedSimpArgs false
set_option maxRecDepth 100000
open Go.RowKit Vs
theorem vbytes_parts (v:V):vbytes v=(((((enc v.client ++ enc v.n) ++ enc v.count) ++ v.prev) ++ v.root) ++ enc v.ep) ++ encs v.vec:=by
 simp [vbytes,parts,encs]
theorem encs_take (l:List Int) (k:Nat) (h:k < l.length):encs (l.take (k + 1))=encs (l.take k) ++ enc (l.getD k 0):=take_encs l k h
set_option maxRecDepth 100000 in
set_option maxHeartbeats 4000000 in
theorem rbytes_any {v:V} (h:Ok v) (w:World):Calls Tryd.prog 14 #[vval v] w fun e w'=>∃ x,e = .returned x/\Ow w' w.heap.size x (vbytes v)/\Below w.heap.size w w':=by
 have HV:=Lib.hid h
 have CP:Hid (∀ (z:Int) (W:World),In z->Calls Tryd.prog 29 #[.int .i64 z] W fun e w'=>∃ v',e = .returned v'/\Ow w' W.heap.size v' (enc z)/\Below W.heap.size W w'):=fun z W hz=>rput_any z W hz.1 hz.2
 have PT:=Lib.hid (vbytes_parts v)
 have HEP:=Lib.hid (at_ep h)
 have hvl:=h.vec
 have L1:=enc_len h.client
 have L2:=enc_len h.n
 have L3:=enc_len h.count
 have L4:=enc_len h.ep
 have K2:0 < (enc v.n).length:=Num.enc_pos _
 have K3:0 < (enc v.count).length:=Num.enc_pos _
 have K4:0 < (enc v.ep).length:=Num.enc_pos _
 have E2:=h.prev
 have E3:=h.root
 obtain ⟨bx,hbx⟩:∃ x,x=vbytes v:=⟨_,rfl⟩
 rw [<- hbx] at PT ⊢
 obtain ⟨l1,hl1⟩:∃ x,x=enc v.client:=⟨_,rfl⟩
 obtain ⟨l2,hl2⟩:∃ x,x=enc v.n:=⟨_,rfl⟩
 obtain ⟨l3,hl3⟩:∃ x,x=enc v.count:=⟨_,rfl⟩
 obtain ⟨l4,hl4⟩:∃ x,x=enc v.ep:=⟨_,rfl⟩
 have C1:Hid (∀ (W:World),Calls Tryd.prog 29 #[.int .i64 v.client] W fun e w'=>∃ v',e = .returned v'/\Ow w' W.heap.size v' l1/\Below W.heap.size W w'):=fun W=>by rw [hl1]; exact CP.out _ W h.client
 have C2:Hid (∀ (W:World),Calls Tryd.prog 29 #[.int .i64 v.n] W fun e w'=>∃ v',e = .returned v'/\Ow w' W.heap.size v' l2/\Below W.heap.size W w'):=fun W=>by rw [hl2]; exact CP.out _ W h.n
 have C3:Hid (∀ (W:World),Calls Tryd.prog 29 #[.int .i64 v.count] W fun e w'=>∃ v',e = .returned v'/\Ow w' W.heap.size v' l3/\Below W.heap.size W w'):=fun W=>by rw [hl3]; exact CP.out _ W h.count
 have C4:Hid (∀ (W:World),Calls Tryd.prog 29 #[.int .i64 v.ep] W fun e w'=>∃ v',e = .returned v'/\Ow w' W.heap.size v' l4/\Below W.heap.size W w'):=fun W=>by rw [hl4]; exact CP.out _ W h.ep
 rw [<- hl1,<- hl2,<- hl3,<- hl4] at PT
 rw [<- hl1] at L1
 rw [<- hl2] at L2 K2
 rw [<- hl3] at L3 K3
 rw [<- hl4] at L4 K4
 have B0:=Lib.hid (Blk.new w 30 v.cells)
 have X0:=Lib.hid (alloc_below w (.cells v.cells.toArray 30))
 unfold vval
 clear h hbx hl1 hl2 hl3 hl4
 go_enter Tryd.func14,Tryd.ntmps14
 go_upto_region 1 with (fail)
 refine wp_region_any (by kernel_rfl) ?_
 change wpAny _ _ _ _ _ _ _ ((w.alloc (.cells v.cells.toArray 30)).drew)
 replace B0:=Lib.hid B0.out.drew
 replace X0:=Lib.hid X0.out.drew
 generalize (w.alloc (.cells v.cells.toArray 30)).drew=w1 at *
 have hg1:=B0.out.lt
 refine wpAny_take (i:=0) (oi:=?oi1) (v:=.pointer (some ⟨w.heap.size,0,none⟩)) ?hi1 (by kernel_rfl) (by kernel_rfl) (by kernel_rfl) ?hQ1 ?hy1 ?rest1
 case hi1=>simp only [zge]; rfl
 case hQ1=>exact fun _ _ _ h=>h
 case hy1=>exact Or.inl ⟨by rfl,by intro w; go_simp⟩
 try simp only [zpt]
 refine wpAny_take (i:=3) (oi:=?oi2) (v:=.pointer (some ⟨w.heap.size,1,none⟩)) ?hi2 (by kernel_rfl) (by kernel_rfl) (by kernel_rfl) ?hQ2 ?hy2 ?rest2
 case hi2=>simp only [zge]; rfl
 case hQ2=>exact fun _ _ _ h=>h
 case hy2=>exact Or.inl ⟨by rfl,by intro w; go_simp⟩
 try simp only [zpt]
 refine wpAny_take (i:=7) (oi:=?oi3) (v:=.pointer (some ⟨w.heap.size,2,none⟩)) ?hi3 (by kernel_rfl) (by kernel_rfl) (by kernel_rfl) ?hQ3 ?hy3 ?rest3
 case hi3=>simp only [zge]; rfl
 case hQ3=>exact fun _ _ _ h=>h
 case hy3=>exact Or.inl ⟨by rfl,by intro w; go_simp⟩
 try simp only [zpt]
 refine phaseL (fun i=>if i=2 then [1] else if i=5 then [4,2] else if i=6 then [2,5] else []) (fun d a w'=>∃ x6 x7 x9 x10 x11 x13:Value,a={ tmps:=#[.agg v.cells.toArray,.pointer (some ⟨w.heap.size,0,none⟩),.slice none 0 0,undef,undef,.pointer (some ⟨w.heap.size,0,none⟩),x6,x7,.pointer (some ⟨w.heap.size,1,none⟩),x9,x10,x11,.pointer (some ⟨w.heap.size,2,none⟩),x13,undef,undef,undef,undef,undef,undef,undef,undef,undef,undef,undef,undef,undef,undef,undef,undef,undef,undef,undef,undef,undef,undef,undef,undef,undef],defers:=[] }/\Hid (Below w1.heap.size w1 w')/\(d 1=true->x6 = .int .i64 v.client)/\(d 2=true->Hid (d 6=false->Ow w' w1.heap.size x7 l1))/\(d 4=true->x9 = .int .i64 v.n)/\(d 5=true->Hid (d 6=false->Nw w' w1.heap.size x10 l2))/\(d 6=true->Hid (Ow w' w1.heap.size x11 (l1 ++ l2)))/\(d 8=true->x13 = .int .i64 v.count)) [1,2,4,5,6,8] ?step4 3 6 [1,2,4,5,6,8] _ _ _ rfl (by decide) (fun _ h=>h) (Fits.of (by kernel_rfl)) ?init4 ?fin4
 case init4=>refine ⟨_,_,_,_,_,_,rfl,Below.refl _ _,?_,?_,?_,?_,?_,?_⟩ <;> (intro h; exact absurd h (by decide))
 case step4 =>
  intro i hi d a v4 hI hdi hdeps
  obtain ⟨x6,x7,x9,x10,x11,x13,rfl,BW,h1,h2,h4,h5,h6,h8⟩:=hI
  have hsw:=BW.out.size
  simp only [List.mem_cons,List.not_mem_nil,or_false] at hi
  rcases hi with rfl | rfl | rfl | rfl | rfl | rfl
  ·have c0:v4.cell? ⟨w.heap.size,0,none⟩=some (.int .i64 v.client):=((B0.out.below BW.out B0.out.lt).cell 0)
   refine wpOp_step (o:=?os5) ?hos5 (fun K hK=>?_)
   case hos5=>simp only [zge]; rfl
   go_simp
   refine hK _ _ ?_
   clear hK K
   try simp only [zpt]
   exact ⟨_,_,_,_,_,_,rfl,BW,fun _=>rfl,fun a h=>(h2 (by simpa using a)).out (by simpa using h),fun a=>by first | exact h4 (by simpa using a) | rfl,fun a h=>(h5 (by simpa using a)).out (by simpa using h),fun a=>h6 (by simpa using a),fun a=>by first | exact h8 (by simpa using a) | rfl⟩
  ·obtain rfl:=h1 (hdeps 1 (by simp))
   refine wpOp_step (o:=?os6) ?hos6 (fun K hK=>?_)
   case hos6=>simp only [zge]; rfl
   go_simp
   refine (C1.out v4).mono ?_
   rintro e u4 ⟨vq,rfl,hO,hX⟩
   refine hK _ _ ?_
   clear hK K
   try simp only [zpt]
   exact ⟨_,_,_,_,_,_,rfl,BW.out.trans (hX.mono hsw),fun a=>by first | exact h1 (by simpa using a) | rfl,fun _ _=>Ow.more hO hsw,fun a=>by first | exact h4 (by simpa using a) | rfl,fun a h=>((h5 (by simpa using a)).out (by simpa using h)).below hX,fun a=>(h6 (by simpa using a)).out.keep hX,fun a=>by first | exact h8 (by simpa using a) | rfl⟩
  ·have c0:v4.cell? ⟨w.heap.size,1,none⟩=some (.int .i64 v.n):=((B0.out.below BW.out B0.out.lt).cell 1)
   refine wpOp_step (o:=?os7) ?hos7 (fun K hK=>?_)
   case hos7=>simp only [zge]; rfl
   go_simp
   refine hK _ _ ?_
   clear hK K
   try simp only [zpt]
   exact ⟨_,_,_,_,_,_,rfl,BW,fun a=>by first | exact h1 (by simpa using a) | rfl,fun a h=>(h2 (by simpa using a)).out (by simpa using h),fun _=>rfl,fun a h=>(h5 (by simpa using a)).out (by simpa using h),fun a=>h6 (by simpa using a),fun a=>by first | exact h8 (by simpa using a) | rfl⟩
  ·obtain rfl:=h4 (hdeps 4 (by simp))
   refine wpOp_step (o:=?os8) ?hos8 (fun K hK=>?_)
   case hos8=>simp only [zge]; rfl
   go_simp
   refine (C2.out v4).mono ?_
   rintro e u4 ⟨vq,rfl,hO,hX⟩
   refine hK _ _ ?_
   clear hK K
   try simp only [zpt]
   exact ⟨_,_,_,_,_,_,rfl,BW.out.trans (hX.mono hsw),fun a=>by first | exact h1 (by simpa using a) | rfl,fun a h=>((h2 (by simpa using a)).out (by simpa using h)).keep hX,fun a=>by first | exact h4 (by simpa using a) | rfl,fun _ _=>Ow.nw hO hsw,fun a=>(h6 (by simpa using a)).out.keep hX,fun a=>by first | exact h8 (by simpa using a) | rfl⟩
  ·have O1:=(h2 (hdeps 2 (by simp))).out hdi
   obtain ⟨A2,c2,rfl,hR2,_⟩:=(h5 (hdeps 5 (by simp))).out hdi
   obtain ⟨ad2,rfl⟩:∃ ad,A2=some ad:=by obtain ⟨g,o,e,_⟩:=hR2.at_ K2; exact ⟨_,e⟩
   refine wpOp_step (o:=?os9) ?hos9 (fun K hK=>?_)
   case hos9=>simp only [zge]; rfl
   refine step_onto rfl (.tmp 7) (.tmp 10) rfl rfl rfl hR2 O1 (by omega) K2 hsw (Below.refl w1.heap.size v4) ?_
   intro vq u4 O6 X6
   refine hK _ _ ?_
   clear hK K
   try simp only [zpt]
   exact ⟨_,_,_,_,_,_,rfl,BW.out.trans X6.out,fun a=>by first | exact h1 (by simpa using a) | rfl,fun a h=>absurd h (by simp),fun a=>by first | exact h4 (by simpa using a) | rfl,fun a h=>absurd h (by simp),fun _=>O6,fun a=>by first | exact h8 (by simpa using a) | rfl⟩
  ·have c0:v4.cell? ⟨w.heap.size,2,none⟩=some (.int .i64 v.count):=((B0.out.below BW.out B0.out.lt).cell 2)
   refine wpOp_step (o:=?os10) ?hos10 (fun K hK=>?_)
   case hos10=>simp only [zge]; rfl
   go_simp
   refine hK _ _ ?_
   clear hK K
   try simp only [zpt]
   exact ⟨_,_,_,_,_,_,rfl,BW,fun a=>by first | exact h1 (by simpa using a) | rfl,fun a h=>(h2 (by simpa using a)).out (by simpa using h),fun a=>by first | exact h4 (by simpa using a) | rfl,fun a h=>(h5 (by simpa using a)).out (by simpa using h),fun a=>h6 (by simpa using a),fun _=>rfl⟩
 case fin4 =>
  intro a v4 hI
  obtain ⟨x6,x7,x9,x10,x11,x13,rfl,BW,h1,h2,h4,h5,h6,h8⟩:=hI
  obtain rfl:=h1 (by decide)
  obtain rfl:=h4 (by decide)
  obtain rfl:=h8 (by decide)
  have O6:=h6 (by decide)
  have W2:=Lib.hid BW.out
  clear h2 h5 h6 BW C1 C2 h1 h4 h8
  try dsimp only
  refine wpAny_ready (rs:=[9]) (by kernel_rfl) (by simp) ?_
  refine AllReady.cons (o:=?p11) ?q11 (fun K hK=>?_) AllReady.nil
  case q11=>simp only [zge]; rfl
  go_simp
  refine (C3.out v4).mono ?_
  rintro e w3 ⟨v3,rfl,hO,hX⟩
  replace O6:=Lib.hid (O6.out.keep hX)
  replace W2:=Lib.hid (W2.out.trans (hX.mono W2.out.size))
  obtain ⟨A3,c3,rfl,hR3,_⟩:=hO.value
  obtain ⟨ad3,rfl⟩:∃ ad,A3=some ad:=by obtain ⟨g,o,e,_⟩:=hR3.at_ K3; exact ⟨_,e⟩
  clear hO hX C3
  refine hK _ _ ?_
  clear hK K
  try simp only [zpt]
  refine wpAny_ready (rs:=[10]) (by kernel_rfl) (by simp) ?_
  refine AllReady.cons (o:=?p12) ?q12 (fun K hK=>?_) AllReady.nil
  case q12=>simp only [zge]; rfl
  refine step_onto rfl (.tmp 11) (.tmp 14) rfl rfl rfl hR3 O6.out (by simp only [List.length_append]; omega) K3 W2.out.size W2.out ?_
  intro v4 w4 O' W'
  refine hK _ _ ?_
  clear hK K
  try simp only [zpt]
  refine wpAny_take (i:=11) (oi:=?oi13) (v:=v4) ?hi13 (by kernel_rfl) (by kernel_rfl) (by kernel_rfl) ?hQ13 ?hy13 ?rest13
  case hi13=>simp only [zge]; rfl
  case hQ13=>exact fun _ _ _ h=>h
  case hy13=>exact Or.inl ⟨by rfl,by intro w; go_simp⟩
  try simp only [zpt]
  have O4:Hid (Ow w4 w1.heap.size v4 ((l1 ++ l2) ++ l3)):=O'
  have W4:Hid (Below w1.heap.size w1 w4):=W'
  clear O' W' O6 W2 hR3
  refine wpAny_done (by kernel_rfl) ?_ _
  go_upto_region 2 with (fail)
  refine wp_region_any (by kernel_rfl) ?_
  change wpAny _ _ _ _ _ _ _ (World.drew _)
  replace O4:Hid (Ow w4.drew w1.heap.size v4 ((l1 ++ l2) ++ l3)):=O4.out.keep (Below.refl _ _).drew
  replace W4:=Lib.hid W4.out.drew
  generalize w4.drew=w5 at *
  refine wpAny_take (i:=0) (oi:=?oi14) (v:=v4) ?hi14 (by kernel_rfl) (by kernel_rfl) (by kernel_rfl) ?hQ14 ?hy14 ?rest14
  case hi14=>simp only [zge]; rfl
  case hQ14=>exact fun _ _ _ h=>h
  case hy14=>exact Or.inl ⟨by rfl,by intro w; go_simp⟩
  try simp only [zpt]
  refine wpAny_take (i:=1) (oi:=?oi15) (v:=.pointer (some ⟨w.heap.size,3,none⟩)) ?hi15 (by kernel_rfl) (by kernel_rfl) (by kernel_rfl) ?hQ15 ?hy15 ?rest15
  case hi15=>simp only [zge]; rfl
  case hQ15=>exact fun _ _ _ h=>h
  case hy15=>exact Or.inl ⟨by rfl,by intro w; go_simp⟩
  try simp only [zpt]
  refine wpAny_take (i:=2) (oi:=?oi16) (v:=.slice (some ⟨w.heap.size,3,none⟩) 32 32) ?hi16 (by kernel_rfl) (by kernel_rfl) (by kernel_rfl) ?hQ16 ?hy16 ?rest16
  case hi16=>simp only [zge]; rfl
  case hQ16=>exact fun _ _ _ h=>h
  case hy16=>exact Or.inl ⟨by rfl,by intro w; go_simp⟩
  try simp only [zpt]
  refine wpAny_take (i:=4) (oi:=?oi17) (v:=.pointer (some ⟨w.heap.size,35,none⟩)) ?hi17 (by kernel_rfl) (by kernel_rfl) (by kernel_rfl) ?hQ17 ?hy17 ?rest17
  case hi17=>simp only [zge]; rfl
  case hQ17=>exact fun _ _ _ h=>h
  case hy17=>exact Or.inl ⟨by rfl,by intro w; go_simp⟩
  try simp only [zpt]
  refine wpAny_take (i:=5) (oi:=?oi18) (v:=.slice (some ⟨w.heap.size,35,none⟩) 32 32) ?hi18 (by kernel_rfl) (by kernel_rfl) (by kernel_rfl) ?hQ18 ?hy18 ?rest18
  case hi18=>simp only [zge]; rfl
  case hQ18=>exact fun _ _ _ h=>h
  case hy18=>exact Or.inl ⟨by rfl,by intro w; go_simp⟩
  try simp only [zpt]
  refine wpAny_take (i:=7) (oi:=?oi19) (v:=.pointer (some ⟨w.heap.size,67,none⟩)) ?hi19 (by kernel_rfl) (by kernel_rfl) (by kernel_rfl) ?hQ19 ?hy19 ?rest19
  case hi19=>simp only [zge]; rfl
  case hQ19=>exact fun _ _ _ h=>h
  case hy19=>exact Or.inl ⟨by rfl,by intro w; go_simp⟩
  try simp only [zpt]
  refine phaseL (fun i=>if i=6 then [3] else []) (fun d a w'=>∃ x19 x22 x24:Value,a={ tmps:=#[.agg v.cells.toArray,.pointer (some ⟨w.heap.size,0,none⟩),.slice none 0 0,v4,undef,.pointer (some ⟨w.heap.size,0,none⟩),.int .i64 v.client,x7,.pointer (some ⟨w.heap.size,1,none⟩),.int .i64 v.n,x10,x11,.pointer (some ⟨w.heap.size,2,none⟩),.int .i64 v.count,.slice (some ad3) l3.length c3,v4,v4,.pointer (some ⟨w.heap.size,3,none⟩),.slice (some ⟨w.heap.size,3,none⟩) 32 32,x19,.pointer (some ⟨w.heap.size,35,none⟩),.slice (some ⟨w.heap.size,35,none⟩) 32 32,x22,.pointer (some ⟨w.heap.size,67,none⟩),x24,undef,undef,undef,undef,undef,undef,undef,undef,undef,undef,undef,undef,undef,undef],defers:=[] }/\Hid (Below w1.heap.size w1 w')/\(d 6=true->d 3=true)/\(d 3=false->Hid (Ow w' w1.heap.size v4 ((l1 ++ l2) ++ l3)))/\(d 3=true->d 6=false->Hid (Ow w' w1.heap.size x19 (((l1 ++ l2) ++ l3) ++ v.prev)))/\(d 6=true->Hid (Ow w' w1.heap.size x22 ((((l1 ++ l2) ++ l3) ++ v.prev) ++ v.root)))/\(d 8=true->x24 = .int .i64 v.ep)) [3,6,8] ?step22 3 3 [3,6,8] _ _ _ rfl (by decide) (fun _ h=>h) (Fits.of (by kernel_rfl)) ?init22 ?fin22
  case init22=>refine ⟨_,_,_,rfl,W4,(by intro h; exact absurd h (by decide)),fun _=>O4,(by intro h; exact absurd h (by decide)),(by intro h; exact absurd h (by decide)),?_⟩ <;> (intro h; exact absurd h (by decide))
  case step22 =>
   intro i hi d a v22 hI hdi hdeps
   obtain ⟨x19,x22,x24,rfl,BW,r6,o0,o3,o6,h8⟩:=hI
   have hsw:=BW.out.size
   simp only [List.mem_cons,List.not_mem_nil,or_false] at hi
   rcases hi with rfl | rfl | rfl
   ·have hR:Rd v22 _ 32 32 _:=Blk.prev HV.out (B0.out.below BW.out hg1)
    have O1:=o0 hdi
    refine wpOp_step (o:=?os20) ?hos20 (fun K hK=>?_)
    case hos20=>simp only [zge]; rfl
    refine step_onto rfl (.tmp 16) (.tmp 18) rfl rfl rfl hR O1.out (by simp only [List.length_append]; omega) (by omega) hsw BW.out ?_
    intro vq u22 O' W'
    refine hK _ _ ?_
    clear hK K
    try simp only [zpt]
    exact ⟨_,_,_,rfl,W',fun _=>by simp,fun a=>absurd a (by simp),fun _ _=>O',fun a=>absurd (r6 (by simpa using a)) (by simp [hdi]),fun a=>by first | exact h8 (by simpa using a) | rfl⟩
   ·have hR:Rd v22 _ 32 32 _:=Blk.root HV.out (B0.out.below BW.out hg1)
    have O1:=o3 (hdeps 3 (by simp)) hdi
    refine wpOp_step (o:=?os21) ?hos21 (fun K hK=>?_)
    case hos21=>simp only [zge]; rfl
    refine step_onto rfl (.tmp 19) (.tmp 21) rfl rfl rfl hR O1.out (by simp only [List.length_append]; omega) (by omega) hsw BW.out ?_
    intro vq u22 O' W'
    refine hK _ _ ?_
    clear hK K
    try simp only [zpt]
    exact ⟨_,_,_,rfl,W',fun _=>by simp [hdeps 3 (by simp)],fun a=>absurd a (by simp [hdeps 3 (by simp)]),fun _ a=>absurd a (by simp),fun _=>O',fun a=>by first | exact h8 (by simpa using a) | rfl⟩
   ·have c0:v22.cell? ⟨w.heap.size,67,none⟩=some (.int .i64 v.ep):=((B0.out.below BW.out B0.out.lt).cell 67).trans HEP.out
    refine wpOp_step (o:=?os23) ?hos23 (fun K hK=>?_)
    case hos23=>simp only [zge]; rfl
    go_simp
    refine hK _ _ ?_
    clear hK K
    try simp only [zpt]
    exact ⟨_,_,_,rfl,BW,fun a=>by simpa using r6 (by simpa using a),fun a=>o0 (by simpa using a),fun a b=>o3 (by simpa using a) (by simpa using b),fun a=>o6 (by simpa using a),fun _=>rfl⟩
  case fin22 =>
   intro a v22 hI
   obtain ⟨x19,x22,x24,rfl,BW,r6,o0,o3,o6,h8⟩:=hI
   obtain rfl:=h8 (by decide)
   have O6:=o6 (by decide)
   have W2:=Lib.hid BW.out
   clear r6 o0 o3 o6 h8 BW O4 W4
   try dsimp only
   refine wpAny_ready (rs:=[9]) (by kernel_rfl) (by simp) ?_
   refine AllReady.cons (o:=?p24) ?q24 (fun K hK=>?_) AllReady.nil
   case q24=>simp only [zge]; rfl
   go_simp
   refine (C4.out v22).mono ?_
   rintro e w6 ⟨v3,rfl,hO,hX⟩
   replace O6:=Lib.hid (O6.out.keep hX)
   replace W2:=Lib.hid (W2.out.trans (hX.mono W2.out.size))
   obtain ⟨A3,c3,rfl,hR3,_⟩:=hO.value
   obtain ⟨ad3,rfl⟩:∃ ad,A3=some ad:=by obtain ⟨g,o,e,_⟩:=hR3.at_ K4; exact ⟨_,e⟩
   clear hO hX C4
   refine hK _ _ ?_
   clear hK K
   try simp only [zpt]
   refine wpAny_ready (rs:=[10]) (by kernel_rfl) (by simp) ?_
   refine AllReady.cons (o:=?p25) ?q25 (fun K hK=>?_) AllReady.nil
   case q25=>simp only [zge]; rfl
   refine step_onto rfl (.tmp 22) (.tmp 25) rfl rfl rfl hR3 O6.out (by simp only [List.length_append]; omega) K4 W2.out.size W2.out ?_
   intro v7 w7 O' W'
   refine hK _ _ ?_
   clear hK K
   try simp only [zpt]
   refine wpAny_take (i:=11) (oi:=?oi26) (v:=v7) ?hi26 (by kernel_rfl) (by kernel_rfl) (by kernel_rfl) ?hQ26 ?hy26 ?rest26
   case hi26=>simp only [zge]; rfl
   case hQ26=>exact fun _ _ _ h=>h
   case hy26=>exact Or.inl ⟨by rfl,by intro w; go_simp⟩
   try simp only [zpt]
   have O7:Hid (Ow w7 w1.heap.size v7 (((((l1 ++ l2) ++ l3) ++ v.prev) ++ v.root) ++ l4)):=O'
   have W7:Hid (Below w1.heap.size w1 w7):=W'
   clear O' W' O6 W2 hR3
   refine wpAny_done (by kernel_rfl) ?_ _
   obtain ⟨hd,hhd⟩:∃ x,x=((((l1 ++ l2) ++ l3) ++ v.prev) ++ v.root) ++ l4:=⟨_,rfl⟩
   have hdl:hd.length<=1000:=by rw [hhd]; simp only [List.length_append]; omega
   rw [<- hhd] at O7 PT
   clear hhd L1 L2 L3 L4 K2 K3 K4 E2 E3 HEP
   go_upto_region 3 with (fail)
   go_wp2_with fail
   go_loopw [3,4] (fun x i wr=>∃ k:Nat,k<=4/\i = .int .i64 (k:Int)/\Hid (Ow wr w1.heap.size x (hd ++ encs (v.vec.take k)))/\Hid (Below w1.heap.size w1 wr)) (fun _ i _=>4 - (intOf i).toNat)
   case atStart=>exact ⟨0,Nat.zero_le _,rfl,by unfold Hid; rw [List.take_zero,encs,List.append_nil]; exact O7.out,W7⟩
   case round =>
    clear O7 W7
    obtain ⟨k,hk,rfl,O1,W1⟩:=hrel
    by_cases hk4:k < 4
    ·have hlb:decide ((k:Int) < (4:Int))=true:=by simp; omega
     obtain ⟨z,hz⟩:∃ z,z=v.vec.getD k 0:=⟨_,rfl⟩
     have HZ:Hid (In z):=by
      unfold Hid
      rw [hz,List.getD_eq_getElem?_getD,List.getElem?_eq_getElem (by omega)]
      exact HV.out.each _ (List.getElem_mem _)
     have hcell:v.cells[68 + k]?=some (.int .i64 z):=by
      refine lay_vec HV.out k _ ?_
      rw [List.getElem?_map,List.getElem?_eq_getElem (by omega),Option.map_some,hz,List.getD_eq_getElem?_getD,List.getElem?_eq_getElem (by omega)]
      rfl
     have c0:wr.cell? ⟨w.heap.size,68 + k,none⟩=some (.int .i64 z):=((B0.out.below W1.out hg1).cell (68 + k)).trans hcell
     have hle:(encs (v.vec.take k)).length<=1000:=by
      have:=encs_len (l:=v.vec.take k) (fun y hy=>HV.out.each y (List.mem_of_mem_take hy))
      rw [List.length_take] at this
      omega
     have hzl:=enc_len HZ.out
     have E1:Hid ((hd ++ encs (v.vec.take k)) ++ enc z=hd ++ encs (v.vec.take (k + 1))):=by
      unfold Hid
      rw [encs_take v.vec k (by omega),<- hz,List.append_assoc]
     have hs1:=W1.out.size
     have CZ:=Lib.hid (CP.out z wr HZ.out)
     have HP:0 < (enc z).length:=Num.enc_pos _
     obtain ⟨zl,hzz⟩:∃ x,x=enc z:=⟨_,rfl⟩
     rw [<- hzz] at E1 CZ HP hzl
     clear hcell hz HZ hzz
     go_wp2_with (first
      | (go_at_call 29; refine CZ.out.mono ?_; rintro e w8 ⟨v8,rfl,hO,hX⟩; replace O1:=Lib.hid (O1.out.keep hX); replace W1:=Lib.hid (W1.out.trans (hX.mono hs1)); obtain ⟨A8,c8,rfl,hR8,_⟩:=hO.value; clear hO hX CZ c0)
      | (at_builtin; refine onto_law rfl (.tmp 31) (.tmp 36) rfl rfl rfl hR8 O1.out (by simp only [List.length_append]; omega) W1.out.size W1.out ?_; intro v9 w9 O9 W9))
     rw [E1.out] at O9
     go_roundw
     case rel=>exact ⟨k + 1,by omega,by go_num,O9,W9⟩
     case measure=>simp [intOf]; omega
    ·obtain rfl:k=4:=by omega
     have hlb:decide (((4:Nat):Int) < (4:Int))=false:=by simp
     rw [List.take_of_length_le (by omega),<- PT.out] at O1
     have W9:=Lib.hid (X0.out.trans (W1.out.mono X0.out.size))
     have O9:=Lib.hid (O1.out.more X0.out.size)
     go_wp2_with fail
     go_ret
     exact ⟨_,rfl,O9.out,W9.out⟩
end Go.Proofs.YtajgjeialbgijaaDoor
