import Derived.Laws.IdiomStrings
import Derived.Test.YtajgjeialbgijaaDoorSBox
import Derived.Great.BuildSlice
namespace Go.Proofs.YtajgjeialbgijaaDoor
set_option linter.unusedVariables false
set_option linter.unusedSimpArgs false
set_option maxRecDepth 100000
open Go.RowKit
structure RNote where
 kind:Int
 key:List UInt8
 b:List UInt8
 out:List UInt8
def RNote.cells (n:RNote):List Value:=.int .i64 n.kind :: (n.key.map cellOf ++ [.int .i64 0,.string ⟨#[]⟩,.string ⟨n.b.toArray⟩,.string ⟨n.out.toArray⟩])
theorem RNote.cells_length (n:RNote) (h:n.key.length=32):n.cells.length=37:=by simp [RNote.cells,h]
theorem RNote.cells_one (n:RNote):∀ v ∈ n.cells,v.oneCell'=true:=fun v hv=>by
 unfold RNote.cells at hv
 rcases List.mem_cons.1 hv with rfl | hv
 ·rfl
 rcases List.mem_append.1 hv with hv | hv
 ·exact cells_u8 n.key v hv
 ·simp at hv
  rcases hv with rfl | rfl | rfl | rfl <;> rfl
def lookR (kind:Int) (key b:List UInt8):List RNote->Option (List UInt8)
 | []=>none
 | n :: l=>if n.kind=kind/\n.key=key/\n.b=b then some n.out else lookR kind key b l
theorem lookR_app (kind:Int) (key b:List UInt8) (n:RNote):∀ (l:List RNote),lookR kind key b (l ++ [n])=(lookR kind key b l).or (if n.kind=kind/\n.key=key/\n.b=b then some n.out else none)
 | []=>by simp [lookR]
 | m :: l=>by
  rw [List.cons_append,lookR,lookR,lookR_app kind key b n l]
  split <;> simp
theorem lookR_take {kind:Int} {key b:List UInt8} {l:List RNote} {k:Nat} (h:k < l.length) (hn:lookR kind key b (l.take k)=none) :
  (¬ (l[k].kind=kind/\l[k].key=key/\l[k].b=b)->lookR kind key b (l.take (k + 1))=none)/\((l[k].kind=kind/\l[k].key=key/\l[k].b=b)->lookR kind key b l=some l[k].out):=by
 have e:l.take (k + 1)=l.take k ++ [l[k]]:=by rw [List.take_add_one,List.getElem?_eq_getElem h]; rfl
 have h1:lookR kind key b (l.take (k + 1))=if l[k].kind=kind/\l[k].key=key/\l[k].b=b then some l[k].out else none:=by rw [e,lookR_app,hn,Option.none_or]
 refine ⟨fun hc=>by rw [h1,if_neg hc],fun hc=>?_⟩
 rw [if_pos hc] at h1
 have more:∀ (p q:List RNote) (o:List UInt8),lookR kind key b p=some o->lookR kind key b (p ++ q)=some o:=by
  intro p
  induction p with
  | nil=>intro q o h; simp [lookR] at h
  | cons x p ih =>
   intro q o h
   rw [List.cons_append,lookR]
   rw [lookR] at h
   split
   ·rename_i hc2; rw [if_pos hc2] at h; exact h
   ·rename_i hc2; rw [if_neg hc2] at h; exact ih q o h
 have:=more _ (l.drop (k + 1)) _ h1
 rwa [List.take_append_drop] at this
def GoodR (l:List RNote):Prop:=∀ n ∈ l,n.key.length=32/\n.out.length=32
theorem flat_length {l:List RNote} (h:GoodR l):(l.flatMap RNote.cells).length=l.length * 37:=by
 induction l with
 | nil=>rfl
 | cons n l ih =>
  rw [List.flatMap_cons,List.length_append,ih (fun m hm=>h m (by simp [hm])),RNote.cells_length n (h n (by simp)).1,List.length_cons]
  omega
theorem flat_at:∀ {l:List RNote} (h:GoodR l) {k:Nat} (hk:k < l.length) (j:Nat),j < 37->(l.flatMap RNote.cells)[k * 37 + j]?=(l[k].cells)[j]?
 | [],_,k,hk,_,_=>by simp at hk
 | n :: l,h,0,hk,j,hj=>by
  rw [List.flatMap_cons,Nat.zero_mul,Nat.zero_add,List.getElem?_append_left (by rw [RNote.cells_length n (h n (by simp)).1]; exact hj)]
  rfl
 | n :: l,h,k + 1,hk,j,hj=>by
  have hl:=RNote.cells_length n (h n (by simp)).1
  rw [List.flatMap_cons,List.getElem?_append_right (by rw [hl]; omega),hl,show (k + 1) * 37 + j - 37=k * 37 + j by omega]
  exact flat_at (fun m hm=>h m (by simp [hm])) (by simpa using hk) j hj
structure RefAt (w:World) (B g:Nat) (s:Int) (a:Nat) (l:List RNote) (v:Value):Prop where
 blk:Blk w g 58 [.int .i64 1,.int .i64 s,.int .i64 (a:Int),v]
 own:w.ownsRow B 63 37 v l.length (l.flatMap RNote.cells)
 good:GoodR l
 lo:-9223372036854775808<=s
 hi:s<=9223372036854775807
theorem RefAt.apart {w:World} {B g:Nat} {s:Int} {a:Nat} {l:List RNote} {v:Value} (h:RefAt w B g s a l v):some g ≠ v.ownBlock:=blk_apart h.blk h.own (by decide)
theorem RefAt.keep {w w':World} {B g:Nat} {s:Int} {a:Nat} {l:List RNote} {v:Value} (h:RefAt w B g s a l v) (hs:w.heap.size<=w'.heap.size) (hg:w'.heap[g]?=w.heap[g]?) (hv:∀ q,v.ownBlock=some q->w'.heap[q]?=w.heap[q]?):RefAt w' B g s a l v:=by
 refine ⟨hg.trans h.blk,⟨h.own.1,?_⟩,h.good,h.lo,h.hi⟩
 rcases h.own.2 with h1 | ⟨q,cap,cur,e,h1,h2,h3⟩
 ·exact .inl h1
 ·exact .inr ⟨q,cap,cur,e,h1,(hv q (by rw [e]; rfl)).trans h2,h3⟩
theorem RefAt.below {w w':World} {B g:Nat} {s:Int} {a:Nat} {l:List RNote} {v:Value} (h:RefAt w B g s a l v) (hb:Below w.heap.size w w'):RefAt w' B g s a l v :=
 h.keep hb.size (hb.block g h.blk.lt) fun q hq=>hb.block q (World.ownsRow.lt h.own q hq).2
theorem RefAt.note {w:World} {B g:Nat} {s:Int} {a:Nat} {l:List RNote} {v:Value} (h:RefAt w B g s a l v) {k:Nat} (hk:k < l.length):∃ gr cap,v = .slice (some ⟨gr,0,none⟩) l.length cap/\gr < w.heap.size/\cap<=maxLen/\∀ j x,(l[k].cells)[j]?=some x->w.cell? ⟨gr,k * 37 + j,none⟩=some x:=by
 rcases h.own.2 with ⟨_,h1⟩ | ⟨q,cap,cur,e,h1,h2,h3,h4,h5,h6⟩
 ·omega
 ·refine ⟨q,cap,e,(Array.getElem?_eq_some_iff.1 h2).1,h4,fun j x hx=>?_⟩
  have hlen:=RNote.cells_length l[k] (h.good _ (List.getElem_mem hk)).1
  have hj:j < 37:=by rw [<- hlen]; exact (List.getElem?_eq_some_iff.1 hx).1
  have hf:=flat_at h.good hk j hj
  rw [hx,<- h6,List.getElem?_take_of_lt (by have:=Nat.mul_le_mul_right 37 (show k + 1<=l.length by omega); omega),Array.getElem?_toList] at hf
  rw [cell_of_row _ _ _ _ 63 _ h2]
  exact hf
theorem infoNt:(Tryd.prog.info? 63).map (·.size)=some 37:=by kernel_rfl
theorem index_note (b off n c k:Nat) (h:k < n) (W:World):(Instr.indexAt 56 (.slice (some ⟨b,off,none⟩) n c) (.int .i64 (k:Int))).run Tryd.prog W = .ok (.pointer (some ⟨b,off + k * 37,none⟩)) W:=by
 obtain ⟨i0,hi,hsz⟩:∃ i0,Tryd.prog.info? 63=some i0/\i0.size=37:=by
  have:=infoNt
  cases hh:Tryd.prog.info? 63 with
  | none=>rw [hh] at this; cases this
  | some i0=>rw [hh] at this; exact ⟨i0,rfl,by simpa using this⟩
 have hel:Tryd.prog.elem 56=63:=by kernel_rfl
 rw [run_indexAt_slice (P:=Tryd.prog) W 56 ⟨b,off,none⟩ n c .i64 (k:Int) (by rw [hel]; exact Tryd.underlying56),if_pos ⟨by omega,by omega⟩,hel]
 simp [sizeOf,typeInfo,hi,hsz,add_plain]
set_option maxRecDepth 100000 in
set_option maxHeartbeats 400000 in
theorem rdraw_any {w:World} {g:Nat} {s:Int} {ta:Nat} {v:Value} (hb:Blk w g 58 [.int .i64 1,.int .i64 s,.int .i64 (ta:Int),v]) (h1:-9223372036854775808<=s) (h2:s<=9223372036854775807) (ha:ta<=1000000) :
  Calls Tryd.prog 39 #[.pointer (some ⟨g,0,none⟩),.int .i64 32] w fun e w'=>∃ A c,e = .returned (.slice A 32 c)/\Rd w' A 32 c (Tap.tape s ta 32)/\Blk w' g 58 [.int .i64 1,.int .i64 s,.int .i64 ((ta + 32:Nat):Int),v]/\w.grownBy w' (some g):=by
 obtain ⟨out,hout⟩:∃ l,l=Tap.tape s ta 32:=⟨_,rfl⟩
 have CT:Hid (∀ W:World,Calls Tryd.prog 55 #[.int .i64 s,.int .i64 (ta:Int),.int .i64 32] W fun e w'=>∃ A c,e = .returned (.slice A 32 c)/\Rd w' A 32 c out/\Below W.heap.size W w'):=fun W=>by
  rw [hout]
  exact rtape_any s ta 32 W (by omega) (by omega) (by omega) (by omega)
 rw [<- hout]
 have HBB:=Lib.hid hb
 obtain ⟨tb,htb⟩:∃ tb,tb=ta + 32:=⟨_,rfl⟩
 have e32:(ta:Int) + 32=(tb:Int):=by omega
 rw [<- htb]
 clear hb hout htb
 go_enter Tryd.func39,Tryd.ntmps39
 go_upto_region 1 with (fail)
 refine wp_region_any (by kernel_rfl) ?_
 change wpAny _ _ _ _ _ _ _ (World.drew _)
 have B0:=Lib.hid HBB.out.drew
 have W0:Hid (Below w.heap.size w w.drew):=(Below.refl _ _).drew
 have hgl:=HBB.out.lt
 generalize w.drew=w0 at *
 refine wpAny_take (i:=0) (oi:=?oi1) (v:=.pointer (some ⟨g,0,none⟩)) ?hi1 (by kernel_rfl) (by kernel_rfl) (by kernel_rfl) ?hQ1 ?hy1 ?rest1
 case hi1=>simp only [zge]; rfl
 case hQ1=>exact fun _ _ _ h=>h
 case hy1=>exact Or.inl ⟨by rfl,by intro w; go_simp⟩
 try simp only [zpt]
 refine wpAny_take (i:=1) (oi:=?oi2) (v:=.pointer (some ⟨g,0,none⟩)) ?hi2 (by kernel_rfl) (by kernel_rfl) (by kernel_rfl) ?hQ2 ?hy2 ?rest2
 case hi2=>simp only [zge]; rfl
 case hQ2=>exact fun _ _ _ h=>h
 case hy2=>exact Or.inl ⟨by rfl,by intro w; go_simp⟩
 try simp only [zpt]
 refine wpAny_take (i:=2) (oi:=?oi3) (v:=.pointer (some ⟨g,1,none⟩)) ?hi3 (by kernel_rfl) (by kernel_rfl) (by kernel_rfl) ?hQ3 ?hy3 ?rest3
 case hi3=>simp only [zge]; rfl
 case hQ3=>exact fun _ _ _ h=>h
 case hy3=>exact Or.inl ⟨by rfl,by intro w; go_simp⟩
 try simp only [zpt]
 refine wpAny_take (i:=4) (oi:=?oi4) (v:=.pointer (some ⟨g,0,none⟩)) ?hi4 (by kernel_rfl) (by kernel_rfl) (by kernel_rfl) ?hQ4 ?hy4 ?rest4
 case hi4=>simp only [zge]; rfl
 case hQ4=>exact fun _ _ _ h=>h
 case hy4=>exact Or.inl ⟨by rfl,by intro w; go_simp⟩
 try simp only [zpt]
 refine wpAny_take (i:=5) (oi:=?oi5) (v:=.pointer (some ⟨g,0,none⟩)) ?hi5 (by kernel_rfl) (by kernel_rfl) (by kernel_rfl) ?hQ5 ?hy5 ?rest5
 case hi5=>simp only [zge]; rfl
 case hQ5=>exact fun _ _ _ h=>h
 case hy5=>exact Or.inl ⟨by rfl,by intro w; go_simp⟩
 try simp only [zpt]
 refine wpAny_take (i:=6) (oi:=?oi6) (v:=.pointer (some ⟨g,2,none⟩)) ?hi6 (by kernel_rfl) (by kernel_rfl) (by kernel_rfl) ?hQ6 ?hy6 ?rest6
 case hi6=>simp only [zge]; rfl
 case hQ6=>exact fun _ _ _ h=>h
 case hy6=>exact Or.inl ⟨by rfl,by intro w; go_simp⟩
 try simp only [zpt]
 refine wpAny_take (i:=8) (oi:=?oi7) (v:=.int .i64 32) ?hi7 (by kernel_rfl) (by kernel_rfl) (by kernel_rfl) ?hQ7 ?hy7 ?rest7
 case hi7=>simp only [zge]; rfl
 case hQ7=>exact fun _ _ _ h=>h
 case hy7=>exact Or.inl ⟨by rfl,by intro w; go_simp⟩
 try simp only [zpt]
 refine phaseL (fun i=>[]) (fun d a w'=>∃ x9 x13:Value,a={ tmps:=#[.pointer (some ⟨g,0,none⟩),.int .i64 32,undef,undef,.slice none 0 0,undef,.pointer (some ⟨g,0,none⟩),.pointer (some ⟨g,0,none⟩),.pointer (some ⟨g,1,none⟩),x9,.pointer (some ⟨g,0,none⟩),.pointer (some ⟨g,0,none⟩),.pointer (some ⟨g,2,none⟩),x13,.int .i64 32,undef,undef,undef,undef,undef,undef,undef,undef,undef,undef],defers:=[] }/\Hid (Below w0.heap.size w0 w')/\(d 3=true->x9 = .int .i64 s)/\(d 7=true->x13 = .int .i64 (ta:Int))) [3,7] ?step8 2 2 [3,7] _ _ _ rfl (by decide) (fun _ h=>h) (Fits.of (by kernel_rfl)) ?init8 ?fin8
 case init8=>refine ⟨_,_,rfl,Below.refl _ _,?_,?_⟩ <;> (intro h; exact absurd h (by decide))
 case step8 =>
  intro i hi d a v8 hI hdi hdeps
  obtain ⟨x9,x13,rfl,BW,h3,h7⟩:=hI
  have hsw:=BW.out.size
  simp only [List.mem_cons,List.not_mem_nil,or_false] at hi
  rcases hi with rfl | rfl
  ·have c0:v8.cell? ⟨g,1,none⟩=some (.int .i64 s):=(B0.out.below BW.out B0.out.lt).cell 1
   refine wpOp_step (o:=?os9) ?hos9 (fun K hK=>?_)
   case hos9=>simp only [zge]; rfl
   go_simp
   refine hK _ _ ?_
   clear hK K
   try simp only [zpt]
   exact ⟨_,_,rfl,BW,fun _=>rfl,fun a=>by first | exact h7 (by simpa using a) | rfl⟩
  ·have c0:v8.cell? ⟨g,2,none⟩=some (.int .i64 (ta:Int)):=(B0.out.below BW.out B0.out.lt).cell 2
   refine wpOp_step (o:=?os10) ?hos10 (fun K hK=>?_)
   case hos10=>simp only [zge]; rfl
   go_simp
   refine hK _ _ ?_
   clear hK K
   try simp only [zpt]
   exact ⟨_,_,rfl,BW,fun a=>by first | exact h3 (by simpa using a) | rfl,fun _=>rfl⟩
 case fin8 =>
  intro a v8 hI
  obtain ⟨x9,x13,rfl,BW,h3,h7⟩:=hI
  obtain rfl:=h3 (by decide)
  obtain rfl:=h7 (by decide)
  replace W0:=Lib.hid (W0.out.trans (BW.out.mono W0.out.size))
  replace B0:=Lib.hid (B0.out.below BW.out B0.out.lt)
  clear h3 h7 BW
  try dsimp only
  refine wpAny_ready (rs:=[9]) (by kernel_rfl) (by simp) ?_
  refine AllReady.cons (o:=?p11) ?q11 (fun K hK=>?_) AllReady.nil
  case q11=>simp only [zge]; rfl
  go_simp
  refine (CT.out _).mono ?_
  rintro e w5 ⟨A,c,rfl,hR,hX⟩
  refine hK _ _ ?_
  clear hK K
  try simp only [zpt]
  replace W0:=Lib.hid (W0.out.trans (hX.mono W0.out.size))
  replace B0:=Lib.hid (B0.out.below hX B0.out.lt)
  have RA:=Lib.hid hR
  clear hR hX
  refine wpAny_take (i:=10) (oi:=?oi12) (v:=.slice A 32 c) ?hi12 (by kernel_rfl) (by kernel_rfl) (by kernel_rfl) ?hQ12 ?hy12 ?rest12
  case hi12=>simp only [zge]; rfl
  case hQ12=>exact fun _ _ _ h=>h
  case hy12=>exact Or.inl ⟨by rfl,by intro w; go_simp⟩
  try simp only [zpt]
  refine wpAny_done (by kernel_rfl) ?_ _
  have c0:w5.cell? ⟨g,2,none⟩=some (.int .i64 (ta:Int)):=B0.out.cell 2
  have f0:w5.frozen? ⟨g,2,none⟩=false:=B0.out.frozen 2
  have hne:∀ x:Addr,A=some x->x.block ≠ g:=fun x hx he=>by
   obtain ⟨gb,off,e,hlt,hc⟩:=RA.out.at_ (by omega)
   rw [hx] at e
   injection e with e
   subst e
   have h31:=hc 31 (by omega)
   simp only at he
   subst he
   rw [B0.out.cell,List.getElem?_eq_none (by simp)] at h31
   cases h31
  have YG:Hid (Blk (w5.setCell ⟨g,2,none⟩ (.int .i64 (tb:Int))) g 58 [.int .i64 1,.int .i64 s,.int .i64 (tb:Int),v]):=B0.out.set_ 2 _
  have YR:Hid (Rd (w5.setCell ⟨g,2,none⟩ (.int .i64 (tb:Int))) A 32 c out):=RA.out.keep (by simp) (fun bb off e h0 hlt=>Below.heap_setCell w5 ⟨g,2,none⟩ _ bb (hne _ e))
  have YW:Hid (w.grownBy (w5.setCell ⟨g,2,none⟩ (.int .i64 (tb:Int))) (some g)):=only_setCell (only_of_below W0.out (some g)) (.inl rfl) _
  clear hne RA B0 W0
  go_wp2_with fail
  go_ret
  exact ⟨A,c,rfl,YR.out,YG.out,YW.out⟩
end Go.Proofs.YtajgjeialbgijaaDoor
namespace Go.Proofs.YtajgjeialbgijaaDoor
set_option linter.unusedVariables false
set_option linter.unusedSimpArgs false
set_option maxRecDepth 100000
open Go.RowKit
def zeroNote:RNote:=⟨0,zero32,[],[]⟩
theorem zeroNote_cells:zeroNote.cells.length=37:=RNote.cells_length _ (by simp [zeroNote,zero32])
theorem infoNote:(Tryd.prog.info? 63).map (fun i=>(i.zero,i.size,i.bytes))=some (some (.agg zeroNote.cells.toArray),37,96):=by kernel_rfl
theorem noteBuilt {kc:List Value} (h:kc.length=32) (kd:Int) (u o:ByteArray):Tryd.prog.built 63 [(0,.int .i64 kd),(1,.agg kc.toArray),(2,.int .i64 0),(3,.string ⟨#[]⟩),(4,.string u),(5,.string o)]=some (Value.int .i64 kd :: (kc ++ [.int .i64 0,.string ⟨#[]⟩,.string u,.string o])).toArray:=by
 obtain ⟨a0,a1,a2,a3,a4,a5,a6,a7,a8,a9,a10,a11,a12,a13,a14,a15,a16,a17,a18,a19,a20,a21,a22,a23,a24,a25,a26,a27,a28,a29,a30,a31,rfl⟩:=list32 h
 kernel_rfl
theorem noteFill {kc:List Value} (h:kc.length=32) (x0 x1 x2 x3 x4:Value):Instr.fill (fun i=>some (i * 37,37)) ((Array.range (1 * 37)).map ((Value.agg zeroNote.cells.toArray).cells[· % (Value.agg zeroNote.cells.toArray).cells.size]!)) [(0,.agg (x0 :: (kc ++ [x1,x2,x3,x4])).toArray)]=some (x0 :: (kc ++ [x1,x2,x3,x4])).toArray:=by
 obtain ⟨a0,a1,a2,a3,a4,a5,a6,a7,a8,a9,a10,a11,a12,a13,a14,a15,a16,a17,a18,a19,a20,a21,a22,a23,a24,a25,a26,a27,a28,a29,a30,a31,rfl⟩:=list32 h
 kernel_rfl
theorem noteRow (n:RNote) (h:n.key.length=32) (W:World):(Instr.buildSlice 56 1 #[(0,.agg n.cells.toArray)]).run Tryd.prog W = .ok (.slice (some ⟨W.heap.size,0,none⟩) 1 1) (W.alloc (.cells n.cells.toArray 63)):=by
 obtain ⟨i0,hi,hz0,hz1,hz2⟩:=info_parts infoNote
 refine run_buildSlice W 56 63 1 _ _ i0 _ Tryd.underlying56 hi hz0 (by rw [hz1]; decide) (by rw [hz1]; decide) ?_
 rw [hz1]
 exact noteFill (kc:=n.key.map cellOf) (by simp [h]) _ _ _ _ _
theorem noteApp {wr:World} {B:Nat} {v:Value} {n:Nat} {xs:List Value} (hown:wr.ownsRow B 63 37 v n xs) (ty:TypeId) {gq:Nat} {nc:List Value} (hb:Blk wr gq 63 nc) (hl0:nc.length=37) (h1:∀ u ∈ nc,u.oneCell'=true) (hn:n<=1000) (hB:B<=wr.heap.size) :
  ∃ v' w',(Builtin.append_ #[56,56] ty #[v,.slice (some ⟨gq,0,none⟩) 1 1]).run Tryd.prog wr = .ok v' w'/\w'.ownsRow B 63 37 v' (n + 1) (xs ++ nc)/\wr.grownBy w' v.ownBlock/\Lies wr v v':=by
 obtain ⟨i0,hi,hz0,hz1,hz2⟩:=info_parts infoNote
 have hl:nc.length=1 * i0.size:=by rw [hz1,hl0]
 have hnews:∀ j u,nc[j]?=some u->wr.cell? ((⟨gq,0,none⟩:Addr).add j)=some u:=fun j u hu=>by rw [add_plain]; exact hb.cells j u hu
 have hown':wr.ownsRow B 63 i0.size v n xs:=by rw [hz1]; exact hown
 have h63:n + 1<=maxLen:=by unfold maxLen; omega
 obtain ⟨v',w',hrun,h2,h3,h4⟩:=run_append_own (P:=Tryd.prog) wr B 56 ty 63 i0 (.agg zeroNote.cells.toArray) i0.size i0.bytes Tryd.underlying56 hi hz0 rfl rfl (by rw [hz1]; exact zeroNote_cells) (by rw [hz1]; omega) v n xs hown' ⟨gq,0,none⟩ 1 1 nc hl hnews h1 h63 (by rw [hz2]; omega) hB
 refine ⟨v',w',hrun,by rw [hz1] at h2; exact h2,h3,?_⟩
 rcases hown'.2 with ⟨rfl,hl1⟩ | ⟨g,cap,cur,rfl,hbg,hg,hnc,hcm,hcs,htake⟩
 ·have hr2:=run_append_nil (P:=Tryd.prog) wr 56 ty 63 i0 (.agg zeroNote.cells.toArray) Tryd.underlying56 hi hz0 ⟨gq,0,none⟩ 1 1 nc hl hnews (by omega) (by omega) (by rw [hz2]; omega)
  rw [hrun] at hr2
  injection hr2 with e1 e2
  subst e1
  exact .inr ⟨wr.heap.size,rfl,Nat.le_refl _⟩
 ·by_cases hroom:n + 1<=cap
  ·have hfit:n * i0.size + nc.length<=cur.size:=by rw [hl,hcs,<- Nat.add_mul]; exact Nat.mul_le_mul_right _ hroom
   have hr2:=run_append_room (P:=Tryd.prog) wr 56 ty 63 i0 Tryd.underlying56 hi g n cap cur hg ⟨gq,0,none⟩ 1 1 nc hl hnews h1 hroom hfit
   rw [hrun] at hr2
   injection hr2 with e1 e2
   subst e1
   exact .inl rfl
  ·have hr2:=run_append_grow (P:=Tryd.prog) wr 56 ty 63 i0 (.agg zeroNote.cells.toArray) Tryd.underlying56 hi hz0 ⟨g,0,none⟩ n cap xs hown'.1 (World.ownsRow.cells hown' (g:=g) rfl) ⟨gq,0,none⟩ 1 1 nc hl hnews (by omega) (by omega) (growslice_fits (by omega) (by rw [hz2]; omega))
   rw [hrun] at hr2
   injection hr2 with e1 e2
   subst e1
   exact .inr ⟨wr.heap.size,rfl,Nat.le_refl _⟩
theorem rowN_kept {w w':World} {B:Nat} {v:Value} {n:Nat} {xs:List Value} (h:w.ownsRow B 63 37 v n xs) (hk:∀ q,v.ownBlock=some q->w'.heap[q]?=w.heap[q]?):w'.ownsRow B 63 37 v n xs:=by
 refine ⟨h.1,?_⟩
 rcases h.2 with h1 | ⟨q,cap,cur,e,h1,h2,h3⟩
 ·exact .inl h1
 ·exact .inr ⟨q,cap,cur,e,h1,(hk q (by rw [e]; rfl)).trans h2,h3⟩
theorem step_append {ops:Array Oper} {o:Oper} {a:Act} {K:Act->World->Prop} {Q:Exit->Act->World->Prop} {E:Prop} {w w':World} {x y v:Value} {t:TypeId} (hgd:Region.wanted o (yielded ops a.tmps)=true) (s z:Operand)
  (ho:o.op = .call { callee:=.builtin .append,args:=#[s,z],argTypes:=#[t,t] }) (hs:a.eval s=x) (hz:a.eval z=y) (hrun:(Builtin.append_ #[t,t] o.type #[x,y]).run Tryd.prog w = .ok v w') (h:K (a.put o.dst v) w'):if Region.wanted o (yielded ops a.tmps)=true then o.wp Tryd.prog a w K Q else E:=by
 rw [if_pos hgd]
 unfold Oper.wp execOp
 simp only [ho,resolve,invoke,builtin,Sem.run_bind,Sem.run_pure,Result.andThen_ok,List.map_toArray,List.map_cons,List.map_nil,hs,hz,hrun]
 exact h
theorem key_unlike {k k':List UInt8} (h:k.length=32) (h':k'.length=32) (hne:k ≠ k') (W:World):(Op.equalIn 10000 27 (.agg (k.map cellOf).toArray) (.agg (k'.map cellOf).toArray)).run Tryd.prog W = .ok false W:=by
 rw [equal30 k k' h h']
 congr 1
 unfold sameB
 exact decide_eq_false hne
theorem load_wanted {P:Program} {ops:Array Oper} {rest:List Oper} {o:Oper} {a:Act} {w:World} {Q:Exit->Act->World->Prop} (hgd:Region.wanted o (yielded ops a.tmps)=true) (ty:TypeId) (x:Operand) (ho:o.op = .load ty x)
  (b off:Nat) (hx:a.eval x = .pointer (some ⟨b,off,none⟩)) (l:List Value) (d:TypeDesc) (hu:P.underlying ty=some d) (hd:(match d with | .struct _ | .array _ _=>true | _=>false)=true)
  (hi:(P.info? ty).map (·.size)=some l.length) (h:∀ j v,l[j]?=some v->w.cell? ⟨b,off + j,none⟩=some v)
  (hk:wpList P ops Q rest (a.put o.dst (.agg l.toArray)) w):wpList P ops Q (o :: rest) a w:=by
 refine wpList_step fun K hK=>?_
 rw [if_pos hgd]
 unfold Oper.wp execOp
 simp only [ho,hx,Instr.loadAt,Instr.sureAddr,Sem.run_bind,Sem.run_pure,Result.andThen_ok,run_loadVar_list w ty b off l d hu hd hi h]
 exact hK _ _ hk
theorem cells_key (n:RNote) (h:n.key.length=32):∀ j v,(n.key.map cellOf)[j]?=some v->(n.cells)[1 + j]?=some v:=fun j v hv=>by
 unfold RNote.cells
 rw [Nat.add_comm,List.getElem?_cons_succ,List.getElem?_append_left (List.getElem?_eq_some_iff.1 hv).1]
 exact hv
theorem cells_b (n:RNote) (h:n.key.length=32):(n.cells)[35]?=some (.string ⟨n.b.toArray⟩):=by
 unfold RNote.cells
 rw [List.getElem?_cons_succ,List.getElem?_append_right (by simp [h])]
 simp [h]
theorem cells_out (n:RNote) (h:n.key.length=32):(n.cells)[36]?=some (.string ⟨n.out.toArray⟩):=by
 unfold RNote.cells
 rw [List.getElem?_cons_succ,List.getElem?_append_right (by simp [h])]
 simp [h]
set_option maxRecDepth 100000 in
set_option maxHeartbeats 1200000 in
theorem rbook_any {w:World} {B g:Nat} {s:Int} {ta:Nat} {l:List RNote} {v:Value} {A:Option Addr} {n c:Nat} {b:List UInt8} (kd:Int) (key:List UInt8) (hR:RefAt w B g s ta l v) (h32:key.length=32) (hr:Rd w A n c b) (hnb:n<=100000) (ha:ta<=900000) (hlen:l.length<=1000) (hB:B<=w.heap.size) (hog:∀ x:Addr,A=some x->0 < n->x.block ≠ g) :
  Calls Tryd.prog 28 #[.pointer (some ⟨g,0,none⟩),.int .i64 kd,.agg (key.map cellOf).toArray,.slice A n c] w fun e w' =>
   (∀ o,lookR kd key b l=some o->e = .returned (.agg (o.map cellOf).toArray)/\Below w.heap.size w w') /\
   (lookR kd key b l=none->e = .returned (.agg ((Tap.tape s ta 32).map cellOf).toArray)/\(∃ v',RefAt w' B g s (ta + 32) (l ++ [⟨kd,key,b,Tap.tape s ta 32⟩]) v'/\(∀ q,v'.ownBlock=some q->v.ownBlock=some q ∨ w.heap.size<=q))/\Fr (fun x=>x=g ∨ some x=v.ownBlock) w w'):=by
 obtain ⟨kc,hkc⟩:∃ kc,kc=key.map cellOf:=⟨_,rfl⟩
 have K32:kc.length=32:=by rw [hkc,List.length_map,h32]
 have IK:Hid ((Tryd.prog.info? 27).map (·.size)=some kc.length):=by unfold Hid; rw [K32]; kernel_rfl
 have HKC:=Lib.hid hkc
 have KK:=Lib.hid K32
 have K3:=Lib.hid h32
 have HR:=Lib.hid hR
 have HRB:=Lib.hid hr
 have HOG:=Lib.hid hog
 have hgl:=hR.blk.lt
 have GD:=Lib.hid hR.good
 obtain ⟨Av,cv,rfl⟩:∃ Av cv,v = .slice Av l.length cv:=by
  rcases hR.own.2 with ⟨h1,h2⟩ | ⟨gr,cap,cur,e,_⟩
  ·exact ⟨none,0,by rw [h1,h2]⟩
  ·exact ⟨_,_,e⟩
 rw [<- hkc]
 clear hR hr hog hkc h32 K32
 go_enter Tryd.func28,Tryd.ntmps28
 go_upto_region 2 with (fail)
 obtain ⟨w0,hw0⟩:∃ w0,w0=((w.alloc (Obj.cells kc.toArray 27)).alloc (Obj.cells (List.replicate 32 (Value.int .u8 0)).toArray 27)).alloc (Obj.cells (List.replicate 32 (Value.int .u8 0)).toArray 27):=⟨_,rfl⟩
 have B6:Hid (Blk w0 w.heap.size 27 kc):=by unfold Hid; rw [hw0]; exact ((Blk.new w _ _).alloc _).alloc _
 have B8:Hid (Blk w0 (w.heap.size + 1) 27 (List.replicate 32 (Value.int .u8 0))):=by unfold Hid; rw [hw0]; exact (Blk.at_new _ _ _ _ _ rfl (by simp)).alloc _
 have B9:Hid (Blk w0 (w.heap.size + 2) 27 (List.replicate 32 (Value.int .u8 0))):=by unfold Hid; rw [hw0]; exact Blk.at_new _ _ _ _ _ rfl (by simp)
 have W0:Hid (Below w.heap.size w w0):=by unfold Hid; rw [hw0]; exact (((Below.refl _ _).alloc (Nat.le_refl _) _).alloc (by simp) _).alloc (by simp; omega) _
 have hs0:w.heap.size + 3<=w0.heap.size:=by rw [hw0]; simp
 change Code.wp _ _ _ _ (((w.alloc (Obj.cells kc.toArray 27)).alloc (Obj.cells (List.replicate 32 (Value.int .u8 0)).toArray 27)).alloc (Obj.cells (List.replicate 32 (Value.int .u8 0)).toArray 27))
 rw [<- hw0]
 clear hw0
 obtain ⟨q6,hq6⟩:∃ q,q=w.heap.size:=⟨_,rfl⟩
 obtain ⟨q8,hq8⟩:∃ q,q=w.heap.size + 1:=⟨_,rfl⟩
 obtain ⟨q9,hq9⟩:∃ q,q=w.heap.size + 2:=⟨_,rfl⟩
 rw [<- hq6] at B6
 rw [<- hq8] at B8
 rw [<- hq9] at B9
 rw [<- hq9,<- hq8,<- hq6]
 have HQ:Hid (w.heap.size<=q6/\q6 < q8/\q8 < q9/\q9 < w0.heap.size):=by unfold Hid; omega
 clear hq6 hq8 hq9
 go_wp2_with fail
 go_loopw [10] (fun iv wr=>∃ k:Nat,k<=l.length/\iv = .int .i64 k/\Hid (lookR kd key b (l.take k)=none)/\Hid (Below w0.heap.size w0 wr)) (fun iv _=>l.length - (intOf iv).toNat)
 case atStart=>exact ⟨0,by omega,rfl,by unfold Hid; simp [lookR],Below.refl _ _⟩
 case round =>
  obtain ⟨k,hk,rfl,HN,X0⟩:=hrel
  have WR:Hid (Below w.heap.size w wr):=W0.out.trans (X0.out.mono W0.out.size)
  have R1:Hid (RefAt wr B g s ta l (.slice Av l.length cv)):=HR.out.below WR.out
  have cg:wr.cell? ⟨g,3,none⟩=some (.slice Av l.length cv):=R1.out.blk.cell 3
  by_cases hlt:k < l.length
  case pos =>
   obtain ⟨gr,cap,hveq,hgr,hcap,hcell⟩:=R1.out.note hlt
   injection hveq with hv1 _ hv2
   subst hv1
   subst hv2
   obtain ⟨nk,hnk⟩:∃ x,x=l[k]:=⟨_,rfl⟩
   obtain ⟨hyes,hno⟩:(¬ (nk.kind=kd/\nk.key=key/\nk.b=b)->lookR kd key b (l.take (k + 1))=none)/\((nk.kind=kd/\nk.key=key/\nk.b=b)->lookR kd key b l=some nk.out):=by rw [hnk]; exact lookR_take hlt HN.out
   rw [<- hnk] at hcell
   have NG:Hid (nk.key.length=32/\nk.out.length=32):=by unfold Hid; rw [hnk]; exact GD.out _ (List.getElem_mem hlt)
   have HC:=Lib.hid hcell
   have d0:decide ((k:Int) < (l.length:Int))=true:=decide_eq_true (by omega)
   have hix:=fun W=>index_note gr 0 l.length cv k hlt W
   obtain ⟨o,ho⟩:∃ o,o=0 + k * 37:=⟨_,rfl⟩
   rw [<- ho] at hix
   rw [show k * 37=o by omega] at HC
   obtain ⟨nc,hnc⟩:∃ x,x=nk.cells:=⟨_,rfl⟩
   rw [<- hnc] at HC
   have NL:Hid (nc.length=37):=by unfold Hid; rw [hnc]; exact RNote.cells_length nk NG.out.1
   have IN:Hid ((Tryd.prog.info? 63).map (·.size)=some nc.length):=by unfold Hid; rw [NL.out]; exact infoNt
   have LZ:Hid (zeroNote.cells.length=nc.length):=by unfold Hid; rw [NL.out]; exact zeroNote_cells
   have ON:Hid (∀ u ∈ nc,u.oneCell'=true):=by unfold Hid; rw [hnc]; exact RNote.cells_one nk
   have KD:Hid (nc[0]?=some (.int .i64 nk.kind)):=by unfold Hid; rw [hnc]; rfl
   have KY:Hid (∀ j u,(nk.key.map cellOf)[j]?=some u->nc[1 + j]?=some u):=by unfold Hid; rw [hnc]; exact cells_key nk NG.out.1
   have KB:Hid (nc[35]?=some (.string ⟨nk.b.toArray⟩)):=by unfold Hid; rw [hnc]; exact cells_b nk NG.out.1
   have KO:Hid (nc[36]?=some (.string ⟨nk.out.toArray⟩)):=by unfold Hid; rw [hnc]; exact cells_out nk NG.out.1
   clear hcell ho hnc hnk
   go_upto_region 6 with (first
    | (with_reducible refine load_law rfl 63 (.tmp 26) rfl gr o rfl nc _ Tryd.underlying63 rfl IN.out HC.out ?_)
    | ((with_reducible refine storeGen_law rfl 63 (.tmp 11) (.tmp 27) rfl wr.heap.size rfl nc rfl 63 zeroNote.cells IN.out LZ.out ON.out wr.heap.size wr ?_ ?_ (Nat.le_refl _) ?_)
       ·exact Blk.at_new _ _ 63 _ _ (by rfl) rfl
       ·exact (Below.refl _ _).alloc (Nat.le_refl _) _
       intro w2 B11 X2))
   obtain ⟨q11,hq11⟩:∃ q,q=wr.heap.size:=⟨_,rfl⟩
   rw [<- hq11] at B11
   rw [<- hq11]
   have hq11a:w0.heap.size<=q11:=by have:=X0.out.size; omega
   clear hq11
   have WX:Hid (Below w0.heap.size w0 w2):=X0.out.trans (X2.out.mono X0.out.size)
   have C6:=Lib.hid (B6.out.below WX.out B6.out.lt)
   have C8:=Lib.hid (B8.out.below WX.out B8.out.lt)
   have C9:=Lib.hid (B9.out.below WX.out B9.out.lt)
   have RB2:=Lib.hid (HRB.out.below (W0.out.trans (WX.out.mono W0.out.size)))
   have hcv:=conv_bytes RB2.out
   have ck:w2.cell? ⟨q11,0,none⟩=some (.int .i64 nk.kind):=by rw [B11.out.cell]; exact KD.out
   have cb:w2.cell? ⟨q11,35,none⟩=some (.string ⟨nk.b.toArray⟩):=by rw [B11.out.cell]; exact KB.out
   obtain ⟨nkc,hnkc⟩:∃ x,x=nk.key.map cellOf:=⟨_,rfl⟩
   have INK:Hid ((Tryd.prog.info? 27).map (·.size)=some nkc.length):=by unfold Hid; rw [hnkc,List.length_map,NG.out.1]; kernel_rfl
   have KYC:Hid (∀ j u,nkc[j]?=some u->w2.cell? ⟨q11,1 + j,none⟩=some u):=fun j u hu=>by rw [B11.out.cell]; exact KY.out j u (by rw [<- hnkc]; exact hu)
   by_cases e1:nk.kind=kd
   case neg =>
    have d1:(nk.kind == kd)=false:=by simpa using e1
    go_wp2_with fail
    go_roundw
    case rel=>exact ⟨k + 1,by omega,by go_num,hyes (fun h=>e1 h.1),X0.out.trans (X2.out.mono X0.out.size)⟩
    case measure=>simp [intOf]; omega
   have d1:(nk.kind == kd)=true:=by simpa using e1
   by_cases e2:nk.key=key
   case neg =>
    have hee:∀ W,(Op.equalIn 10000 27 (.agg nkc.toArray) (.agg kc.toArray)).run Tryd.prog W = .ok false W:=fun W=>by rw [hnkc,HKC.out]; exact key_unlike NG.out.1 K3.out e2 W
    have E2:=Lib.hid e2
    clear e1 e2 hnkc
    go_wp2_with (first
     | (with_reducible refine load_wanted rfl 27 (.tmp 33) rfl q11 1 rfl nkc _ Tryd.underlying27 rfl INK.out KYC.out ?_)
     | (with_reducible refine load_wanted rfl 27 (.tmp 6) rfl q6 0 rfl kc _ Tryd.underlying27 rfl IK.out C6.out.cells ?_))
    go_roundw
    case rel=>exact ⟨k + 1,by omega,by go_num,hyes (fun h=>E2.out h.2.1),X0.out.trans (X2.out.mono X0.out.size)⟩
    case measure=>simp [intOf]; omega
   have hee:∀ W,(Op.equalIn 10000 27 (.agg nkc.toArray) (.agg kc.toArray)).run Tryd.prog W = .ok true W:=fun W=>by rw [hnkc,HKC.out,e2,equal30 key key K3.out K3.out,sameB_self]
   have E1:=Lib.hid e1
   have E2:=Lib.hid e2
   clear e1 e2 hnkc
   by_cases e3:nk.b=b
   case neg =>
    have hse:(nk.b == b)=false:=by simpa using e3
    go_wp2_with (first
     | (with_reducible refine load_wanted rfl 27 (.tmp 33) rfl q11 1 rfl nkc _ Tryd.underlying27 rfl INK.out KYC.out ?_)
     | (with_reducible refine load_wanted rfl 27 (.tmp 6) rfl q6 0 rfl kc _ Tryd.underlying27 rfl IK.out C6.out.cells ?_))
    clear hse
    go_roundw
    case rel=>exact ⟨k + 1,by omega,by go_num,hyes (fun h=>e3 h.2.2),X0.out.trans (X2.out.mono X0.out.size)⟩
    case measure=>simp [intOf]; omega
   have E3:=Lib.hid e3
   have hsy:(nk.b == b)=true:=by simpa using e3
   clear e3
   go_upto_region 7 with (first
    | (with_reducible refine load_wanted rfl 27 (.tmp 33) rfl q11 1 rfl nkc _ Tryd.underlying27 rfl INK.out KYC.out ?_)
    | (with_reducible refine load_wanted rfl 27 (.tmp 6) rfl q6 0 rfl kc _ Tryd.underlying27 rfl IK.out C6.out.cells ?_))
   clear hcv hee hsy ck cb cg hix
   refine wp_region_any (by kernel_rfl) ?_
   change wpAny _ _ _ _ _ _ _ (World.drew _)
   replace B11:=Lib.hid B11.out.drew
   replace C8:=Lib.hid C8.out.drew
   replace C9:=Lib.hid C9.out.drew
   replace WX:Hid (Below w0.heap.size w0 w2.drew):=WX.out.drew
   generalize w2.drew=w3 at *
   have hsl:=fun W=>sliceAt_all 27 32 Tryd.underlying27 q9 0 W
   obtain ⟨oc,hoc⟩:∃ x,x=nk.out.map cellOf:=⟨_,rfl⟩
   have OL:Hid (oc.length=32):=by unfold Hid; rw [hoc,List.length_map,NG.out.2]
   have IO:Hid ((Tryd.prog.info? 27).map (·.size)=some oc.length):=by unfold Hid; rw [OL.out]; kernel_rfl
   have LO:Hid ((List.replicate 32 (Value.int .u8 0)).length=oc.length):=by unfold Hid; rw [OL.out]; rfl
   have OO:Hid (∀ u ∈ oc,u.oneCell'=true):=by unfold Hid; rw [hoc]; exact cells_u8 _
   have HOC:=Lib.hid hoc
   clear hoc
   refine wpAny_take (i:=0) (oi:=?oi1) (v:=.slice (some ⟨q9,0,none⟩) 32 32) ?hi1 (by kernel_rfl) (by kernel_rfl) (by kernel_rfl) ?hQ1 ?hy1 ?rest1
   case hi1=>simp only [zge]; rfl
   case hQ1=>exact fun _ _ _ h=>h
   case hy1=>exact Or.inl ⟨by rfl,by intro w; go_simp⟩
   try simp only [zpt]
   refine wpAny_take (i:=1) (oi:=?oi2) (v:=.pointer (some ⟨q11,36,none⟩)) ?hi2 (by kernel_rfl) (by kernel_rfl) (by kernel_rfl) ?hQ2 ?hy2 ?rest2
   case hi2=>simp only [zge]; rfl
   case hQ2=>exact fun _ _ _ h=>h
   case hy2=>exact Or.inl ⟨by rfl,by intro w; go_simp⟩
   try simp only [zpt]
   refine phaseL (fun i=>[]) (fun d a w'=>∃ x47:Value,a={ tmps:=#[.pointer (some ⟨g,0,none⟩),.int .i64 kd,.agg kc.toArray,.slice A n c,undef,undef,.pointer (some ⟨q6,0,none⟩),undef,.pointer (some ⟨q8,0,none⟩),.pointer (some ⟨q9,0,none⟩),.int .i64 (k:Int),.pointer (some ⟨q11,0,none⟩),.int .i64 (k:Int),.pointer (some ⟨g,0,none⟩),.pointer (some ⟨g,0,none⟩),.pointer (some ⟨g,3,none⟩),.slice (some ⟨gr,0,none⟩) l.length cv,.int .i64 (l.length:Int),.bool true,u19,u20,.pointer (some ⟨g,0,none⟩),.pointer (some ⟨g,0,none⟩),.pointer (some ⟨g,3,none⟩),.slice (some ⟨gr,0,none⟩) l.length cv,.int .i64 (k:Int),.pointer (some ⟨gr,o,none⟩),.agg nc.toArray,.pointer (some ⟨q11,0,none⟩),.int .i64 nk.kind,.int .i64 kd,.bool true,.bool true,.pointer (some ⟨q11,1,none⟩),.agg nkc.toArray,.agg kc.toArray,.bool true,.bool true,.bool true,.pointer (some ⟨q11,35,none⟩),.string ⟨nk.b.toArray⟩,.slice A n c,.string ⟨b.toArray⟩,.bool true,.bool true,.slice (some ⟨q9,0,none⟩) 32 32,.pointer (some ⟨q11,36,none⟩),x47,u48,u49,undef,undef,undef,undef,undef,undef,undef,undef,undef,undef,undef,undef,undef,undef,undef,undef,undef,undef,undef,undef,undef],defers:=[] }/\Hid (Below w3.heap.size w3 w')/\(d 2=true->x47 = .string ⟨nk.out.toArray⟩)) [2] ?step3 1 1 [2] _ _ _ rfl (by decide) (fun _ h=>h) (Fits.of (by kernel_rfl)) ?init3 ?fin3
   case init3=>refine ⟨_,rfl,Below.refl _ _,?_⟩ <;> (intro h; exact absurd h (by decide))
   case step3 =>
    intro i hi d a v3 hI hdi hdeps
    obtain ⟨x47,rfl,BW,h2⟩:=hI
    have hsw:=BW.out.size
    simp only [List.mem_cons,List.not_mem_nil,or_false] at hi
    subst hi
    have c0:v3.cell? ⟨q11,36,none⟩=some (.string ⟨nk.out.toArray⟩):=by rw [(B11.out.below BW.out B11.out.lt).cell]; exact KO.out
    refine wpOp_step (o:=?os4) ?hos4 (fun K hK=>?_)
    case hos4=>simp only [zge]; rfl
    go_simp
    refine hK _ _ ?_
    clear hK K
    try simp only [zpt]
    exact ⟨_,rfl,BW,fun _=>rfl⟩
   case fin3 =>
    intro a v3 hI
    obtain ⟨x47,rfl,BW,h2⟩:=hI
    obtain rfl:=h2 (by decide)
    replace C8:=Lib.hid (C8.out.below BW.out C8.out.lt)
    replace C9:=Lib.hid (C9.out.below BW.out C9.out.lt)
    replace WX:=Lib.hid (WX.out.trans (BW.out.mono WX.out.size))
    clear h2 BW
    have hcp:=Lib.run_copy_row_string (P:=Tryd.prog) v3 41 9 3 5 q9 0 32 32 ⟨nk.out.toArray⟩ (List.replicate 32 (Value.int .u8 0)).toArray 27 Tryd.underlying41 size5 C9.out (by show nk.out.toArray.size<=32; simp [NG.out.2]) (by show 0 + nk.out.toArray.size<=_; simp [NG.out.2])
    rw [show ((List.replicate 32 (Value.int .u8 0)).toArray.toList.take 0 ++ Lib.byteCells (⟨nk.out.toArray⟩:ByteArray).data.toList ++ (List.replicate 32 (Value.int .u8 0)).toArray.toList.drop (0 + (⟨nk.out.toArray⟩:ByteArray).size)).toArray=oc.toArray by
     show ((List.replicate 32 (Value.int .u8 0)).toArray.toList.take 0 ++ nk.out.map cellOf ++ (List.replicate 32 (Value.int .u8 0)).toArray.toList.drop (0 + nk.out.toArray.size)).toArray=oc.toArray
     rw [HOC.out]
     simp [NG.out.2]] at hcp
    try dsimp only
    refine wpAny_ready (rs:=[3]) (by kernel_rfl) (by simp) ?_
    refine AllReady.cons (o:=?p5) ?q5 (fun K hK=>?_) AllReady.nil
    case q5=>simp only [zge]; rfl
    go_simp
    refine hK _ _ ?_
    clear hK K
    try simp only [zpt]
    refine wpAny_done (by kernel_rfl) ?_ _
    have D9:Hid (Blk (v3.setRow q9 oc.toArray) q9 27 oc):=C9.out.row
    have D8:Hid (Blk (v3.setRow q9 oc.toArray) q8 27 (List.replicate 32 (Value.int .u8 0))):=C8.out.rowFar (by have:=HQ.out; omega) _
    have WY:Hid (Below w.heap.size w (v3.setRow q9 oc.toArray)):=below_setRow (W0.out.trans (WX.out.mono W0.out.size)) (by have:=HQ.out; omega) _
    generalize v3.setRow q9 oc.toArray=w8 at *
    clear hcp
    go_wp2_with (first
     | (with_reducible refine load_law rfl 27 (.tmp 9) rfl q9 0 rfl oc _ Tryd.underlying27 rfl IO.out D9.out.cells ?_)
     | (with_reducible refine storeGen_law rfl 27 (.tmp 8) (.tmp 49) rfl q8 rfl oc rfl 27 (List.replicate 32 (Value.int .u8 0)) IO.out LO.out OO.out w.heap.size w D8.out WY.out (by have:=HQ.out; omega) ?_; intro w9 B9' X9))
    refine bodyPost_ret (results_cell_row rfl _ _ q8 27 oc.toArray (0,0) _ rfl B9'.out Tryd.underlying27 rfl (by rw [IO.out]; simp)) rfl ⟨fun o' ho'=>?_,fun hn'=>?_⟩
    ·rw [hno ⟨E1.out,E2.out,E3.out⟩] at ho'
     injection ho' with ho'
     rw [<- ho',<- HOC.out]
     exact ⟨rfl,X9.out⟩
    ·rw [hno ⟨E1.out,E2.out,E3.out⟩] at hn'
     cases hn'
  case neg =>
   have d0:decide ((k:Int) < (l.length:Int))=false:=decide_eq_false (by omega)
   have NO:Hid (lookR kd key b l=none):=by
    have:=HN.out
    rw [show k=l.length by omega,List.take_length] at this
    exact this
   obtain ⟨out,hout⟩:∃ x,x=Tap.tape s ta 32:=⟨_,rfl⟩
   have OL0:Hid (out.length=32):=by unfold Hid; rw [hout,Tap.tape_length]
   have CD:Hid (∀ W,Blk W g 58 [.int .i64 1,.int .i64 s,.int .i64 (ta:Int),.slice Av l.length cv]->Calls Tryd.prog 39 #[.pointer (some ⟨g,0,none⟩),.int .i64 32] W fun e w'=>∃ A c,e = .returned (.slice A 32 c)/\Rd w' A 32 c out/\Blk w' g 58 [.int .i64 1,.int .i64 s,.int .i64 ((ta + 32:Nat):Int),.slice Av l.length cv]/\W.grownBy w' (some g)):=fun W hW=>by
    rw [hout]
    exact rdraw_any hW HR.out.lo HR.out.hi (by omega)
   have HOUT:=Lib.hid hout
   obtain ⟨oc,hoc⟩:∃ x,x=out.map cellOf:=⟨_,rfl⟩
   have OL:Hid (oc.length=32):=by unfold Hid; rw [hoc,List.length_map,OL0.out]
   have IO:Hid ((Tryd.prog.info? 27).map (·.size)=some oc.length):=by unfold Hid; rw [OL.out]; kernel_rfl
   have LO:Hid ((List.replicate 32 (Value.int .u8 0)).length=oc.length):=by unfold Hid; rw [OL.out]; rfl
   have OO:Hid (∀ u ∈ oc,u.oneCell'=true):=by unfold Hid; rw [hoc]; exact cells_u8 _
   have HOC:=Lib.hid hoc
   obtain ⟨nk,hnk⟩:∃ x,x=RNote.mk kd key b out:=⟨_,rfl⟩
   have HNK:=Lib.hid hnk
   obtain ⟨nc,hnc⟩:∃ x,x=nk.cells:=⟨_,rfl⟩
   have NC1:Hid (Tryd.prog.built 63 [(0,.int .i64 kd),(1,.agg kc.toArray),(2,.int .i64 0),(3,.string ⟨#[]⟩),(4,.string ⟨b.toArray⟩),(5,.string ⟨out.toArray⟩)]=some nc.toArray):=by
    unfold Hid
    rw [hnc,hnk]
    show _=some (Value.int .i64 kd :: (key.map cellOf ++ _)).toArray
    rw [<- HKC.out]
    exact noteBuilt KK.out _ _ _
   have NK:Hid (nk.key.length=32/\nk.out.length=32):=by unfold Hid; rw [hnk]; exact ⟨K3.out,OL0.out⟩
   have NL:Hid (nc.length=37):=by unfold Hid; rw [hnc]; exact RNote.cells_length nk NK.out.1
   have ON:Hid (∀ u ∈ nc,u.oneCell'=true):=by unfold Hid; rw [hnc]; exact RNote.cells_one nk
   have ROW:Hid (∀ W:World,(Instr.buildSlice 56 1 #[(0,.agg nc.toArray)]).run Tryd.prog W = .ok (.slice (some ⟨W.heap.size,0,none⟩) 1 1) (W.alloc (.cells nc.toArray 63))):=fun W=>by rw [hnc]; exact noteRow nk NK.out.1 W
   have HNC:=Lib.hid hnc
   have AP:=Lib.hid R1.out.apart
   have OWN:=Lib.hid R1.out.own
   have hLT:Hid (∀ q,(Value.slice Av l.length cv).ownBlock=some q->q < w.heap.size):=fun q hq=>(World.ownsRow.lt HR.out.own q hq).2
   have BG:=Lib.hid R1.out.blk
   have hgq:g < q6:=by have:=HQ.out; omega
   clear hout hoc hnk hnc HN R1
   go_upto_region 9 with (fail)
   clear cg
   refine wp_region_any (by kernel_rfl) ?_
   change wpAny _ _ _ _ _ _ _ (World.drew _)
   have C6:=Lib.hid (B6.out.below X0.out B6.out.lt).drew
   have C8:=Lib.hid (B8.out.below X0.out B8.out.lt).drew
   have C9:=Lib.hid (B9.out.below X0.out B9.out.lt).drew
   replace BG:=Lib.hid BG.out.drew
   replace OWN:Hid (wr.drew.ownsRow B 63 37 (.slice Av l.length cv) l.length (l.flatMap RNote.cells)):=rowN_kept OWN.out (fun _ _=>rfl)
   replace WR:=Lib.hid WR.out.drew
   have hsl:=fun W=>sliceAt_all 27 32 Tryd.underlying27 q9 0 W
   generalize wr.drew=w3 at *
   refine wpAny_take (i:=0) (oi:=?oi6) (v:=.slice (some ⟨q9,0,none⟩) 32 32) ?hi6 (by kernel_rfl) (by kernel_rfl) (by kernel_rfl) ?hQ6 ?hy6 ?rest6
   case hi6=>simp only [zge]; rfl
   case hQ6=>exact fun _ _ _ h=>h
   case hy6=>exact Or.inl ⟨by rfl,by intro w; go_simp⟩
   try simp only [zpt]
   refine wpAny_take (i:=1) (oi:=?oi7) (v:=.pointer (some ⟨g,0,none⟩)) ?hi7 (by kernel_rfl) (by kernel_rfl) (by kernel_rfl) ?hQ7 ?hy7 ?rest7
   case hi7=>simp only [zge]; rfl
   case hQ7=>exact fun _ _ _ h=>h
   case hy7=>exact Or.inl ⟨by rfl,by intro w; go_simp⟩
   try simp only [zpt]
   refine wpAny_ready (rs:=[2]) (by kernel_rfl) (by simp) ?_
   refine AllReady.cons (o:=?p8) ?q8 (fun K hK=>?_) AllReady.nil
   case q8=>simp only [zge]; rfl
   go_simp
   refine (CD.out w3 BG.out).mono ?_
   rintro e w5 ⟨A5,c5,rfl,hR5,hB5,hO5⟩
   refine hK _ _ ?_
   clear hK K
   try simp only [zpt]
   have hs5:=hO5.size
   have D6:Hid (Blk w5 q6 27 kc):=(hO5.block _ C6.out.lt (fun e=>by injection e with e; omega)).trans C6.out
   have D8:Hid (Blk w5 q8 27 (List.replicate 32 (Value.int .u8 0))):=(hO5.block _ C8.out.lt (fun e=>by injection e with e; have:=HQ.out; omega)).trans C8.out
   have D9:Hid (Blk w5 q9 27 (List.replicate 32 (Value.int .u8 0))):=(hO5.block _ C9.out.lt (fun e=>by injection e with e; have:=HQ.out; omega)).trans C9.out
   have BG5:=Lib.hid hB5
   have OWN5:Hid (w5.ownsRow B 63 37 (.slice Av l.length cv) l.length (l.flatMap RNote.cells)):=rowN_kept OWN.out (fun q hq=>hO5.block q (by have:=hLT.out q hq; have:=WR.out.size; omega) (fun e=>AP.out (by rw [hq]; exact e.symm)))
   have F5:Hid (Fr (fun x=>x=g ∨ some x=(Value.slice Av l.length cv).ownBlock) w w5):=(Fr.of_below WR.out).trans (Fr.of_only hO5 (.inl rfl))
   have RB5:Hid (Rd w5 A n c b):=(HRB.out.below WR.out).grown hO5 (fun h0 x hx=>HOG.out x hx h0)
   obtain ⟨w6,hcp,hB6,hO6⟩:=copy_into (off:=0) (dLen:=32) (dCap:=32) D9.out hR5 (by simp)
   rw [show (List.replicate 32 (Value.int .u8 0)).take 0 ++ (out.take (min 32 32)).map cellOf ++ (List.replicate 32 (Value.int .u8 0)).drop (0 + min 32 32)=oc by rw [show out.take (min 32 32)=out from List.take_of_length_le (by rw [OL0.out]; decide),HOC.out]; simp] at hB6
   have h32i:((min 32 32:Nat):Int)=32:=by omega
   rw [h32i] at hcp
   clear hR5 hB5 hO5 C6 C8 C9 BG OWN CD
   refine wpAny_ready (rs:=[3]) (by kernel_rfl) (by simp) ?_
   refine AllReady.cons (o:=?p9) ?q9 (fun K hK=>?_) AllReady.nil
   case q9=>simp only [zge]; rfl
   go_simp
   refine hK _ _ ?_
   clear hK K
   try simp only [zpt]
   have hs6:=hO6.size
   have E6:Hid (Blk w6 q6 27 kc):=(hO6.block _ D6.out.lt (fun e=>by injection e with e; have:=HQ.out; omega)).trans D6.out
   have E8:Hid (Blk w6 q8 27 (List.replicate 32 (Value.int .u8 0))):=(hO6.block _ D8.out.lt (fun e=>by injection e with e; have:=HQ.out; omega)).trans D8.out
   have E9:=Lib.hid hB6
   have BG6:Hid (Blk w6 g 58 [.int .i64 1,.int .i64 s,.int .i64 ((ta + 32:Nat):Int),.slice Av l.length cv]):=(hO6.block _ BG5.out.lt (fun e=>by injection e with e; have:=HQ.out; omega)).trans BG5.out
   have OWN6:Hid (w6.ownsRow B 63 37 (.slice Av l.length cv) l.length (l.flatMap RNote.cells)):=rowN_kept OWN5.out (fun q hq=>hO6.block q (by have:=hLT.out q hq; have:=WR.out.size; omega) (fun e=>by injection e with e; have:=hLT.out q hq; have:=HQ.out; omega))
   have F6:Hid (Fr (fun x=>x=g ∨ some x=(Value.slice Av l.length cv).ownBlock) w w6):=F5.out.cut (below_of_only (Below.refl w.heap.size w5) hO6 (by have:=HQ.out; omega) (by have:=WR.out.size; omega)) (Nat.le_refl _)
   have RB6:Hid (Rd w6 A n c b):=RB5.out.grown hO6 (fun h0 x hx he=>by have:=HRB.out.in_ h0 x hx; have:=HQ.out; omega)
   clear hcp hB6 hO6 D6 D8 D9 BG5 OWN5 F5 RB5 h32i
   refine wpAny_done (by kernel_rfl) ?_ _
   go_upto_region 10 with (fail)
   refine wp_region_any (by kernel_rfl) ?_
   change wpAny _ _ _ _ _ _ _ (World.drew _)
   replace E6:=Lib.hid E6.out.drew
   replace E8:=Lib.hid E8.out.drew
   replace E9:=Lib.hid E9.out.drew
   replace BG6:=Lib.hid BG6.out.drew
   replace OWN6:Hid (w6.drew.ownsRow B 63 37 (.slice Av l.length cv) l.length (l.flatMap RNote.cells)):=rowN_kept OWN6.out (fun _ _=>rfl)
   replace F6:Hid (Fr (fun x=>x=g ∨ some x=(Value.slice Av l.length cv).ownBlock) w w6.drew):=⟨F6.out.os,F6.out.tape,F6.out.output,F6.out.size,F6.out.block⟩
   replace RB6:=Lib.hid RB6.out.drew
   replace hs6:w5.heap.size<=w6.drew.heap.size:=hs6
   generalize w6.drew=w7 at *
   have RH:Hid (Rd w7 (some ⟨q9,0,none⟩) 32 32 out):=by
    have:=E9.out
    rw [HOC.out] at this
    exact Rd.of_block this OL0.out (Nat.le_refl _) (by unfold maxLen; omega) (fun j hj=>by
     rw [Nat.zero_add]
     simp [cellOf,List.getD_eq_getElem?_getD,List.getElem?_eq_getElem (show j < out.length by rw [OL0.out]; exact hj)])
   refine wpAny_take (i:=0) (oi:=?oi10) (v:=.pointer (some ⟨g,0,none⟩)) ?hi10 (by kernel_rfl) (by kernel_rfl) (by kernel_rfl) ?hQ10 ?hy10 ?rest10
   case hi10=>simp only [zge]; rfl
   case hQ10=>exact fun _ _ _ h=>h
   case hy10=>exact Or.inl ⟨by rfl,by intro w; go_simp⟩
   try simp only [zpt]
   refine wpAny_take (i:=1) (oi:=?oi11) (v:=.pointer (some ⟨g,0,none⟩)) ?hi11 (by kernel_rfl) (by kernel_rfl) (by kernel_rfl) ?hQ11 ?hy11 ?rest11
   case hi11=>simp only [zge]; rfl
   case hQ11=>exact fun _ _ _ h=>h
   case hy11=>exact Or.inl ⟨by rfl,by intro w; go_simp⟩
   try simp only [zpt]
   refine wpAny_take (i:=2) (oi:=?oi12) (v:=.pointer (some ⟨g,0,none⟩)) ?hi12 (by kernel_rfl) (by kernel_rfl) (by kernel_rfl) ?hQ12 ?hy12 ?rest12
   case hi12=>simp only [zge]; rfl
   case hQ12=>exact fun _ _ _ h=>h
   case hy12=>exact Or.inl ⟨by rfl,by intro w; go_simp⟩
   try simp only [zpt]
   refine wpAny_take (i:=3) (oi:=?oi13) (v:=.pointer (some ⟨g,3,none⟩)) ?hi13 (by kernel_rfl) (by kernel_rfl) (by kernel_rfl) ?hQ13 ?hy13 ?rest13
   case hi13=>simp only [zge]; rfl
   case hQ13=>exact fun _ _ _ h=>h
   case hy13=>exact Or.inl ⟨by rfl,by intro w; go_simp⟩
   try simp only [zpt]
   refine wpAny_take (i:=5) (oi:=?oi14) (v:=.int .i64 kd) ?hi14 (by kernel_rfl) (by kernel_rfl) (by kernel_rfl) ?hQ14 ?hy14 ?rest14
   case hi14=>simp only [zge]; rfl
   case hQ14=>exact fun _ _ _ h=>h
   case hy14=>exact Or.inl ⟨by rfl,by intro w; go_simp⟩
   try simp only [zpt]
   refine wpAny_take (i:=7) (oi:=?oi15) (v:=.slice A n c) ?hi15 (by kernel_rfl) (by kernel_rfl) (by kernel_rfl) ?hQ15 ?hy15 ?rest15
   case hi15=>simp only [zge]; rfl
   case hQ15=>exact fun _ _ _ h=>h
   case hy15=>exact Or.inl ⟨by rfl,by intro w; go_simp⟩
   try simp only [zpt]
   refine wpAny_take (i:=9) (oi:=?oi16) (v:=.slice (some ⟨q9,0,none⟩) 32 32) ?hi16 (by kernel_rfl) (by kernel_rfl) (by kernel_rfl) ?hQ16 ?hy16 ?rest16
   case hi16=>simp only [zge]; rfl
   case hQ16=>exact fun _ _ _ h=>h
   case hy16=>exact Or.inl ⟨by rfl,by intro w; go_simp⟩
   try simp only [zpt]
   refine phaseL (fun i=>if i=11 then [6,8,10] else if i=12 then [11] else []) (fun d a w'=>∃ x58 x60 x62 x64 x65 x66:Value,a={ tmps:=#[.pointer (some ⟨g,0,none⟩),.int .i64 kd,.agg kc.toArray,.slice A n c,undef,undef,.pointer (some ⟨q6,0,none⟩),undef,.pointer (some ⟨q8,0,none⟩),.pointer (some ⟨q9,0,none⟩),.int .i64 (k:Int),u11,.int .i64 (k:Int),.pointer (some ⟨g,0,none⟩),.pointer (some ⟨g,0,none⟩),.pointer (some ⟨g,3,none⟩),.slice Av l.length cv,.int .i64 (l.length:Int),.bool false,u19,u20,u21,u22,u23,u24,u25,u26,u27,u28,u29,u30,u31,u32,u33,u34,u35,u36,u37,u38,u39,u40,u41,u42,u43,u44,u45,u46,u47,u48,u49,.slice (some ⟨q9,0,none⟩) 32 32,.pointer (some ⟨g,0,none⟩),.slice A5 32 c5,.int .i64 32,.pointer (some ⟨g,0,none⟩),.pointer (some ⟨g,0,none⟩),.pointer (some ⟨g,0,none⟩),.pointer (some ⟨g,3,none⟩),x58,.int .i64 kd,x60,.slice A n c,x62,.slice (some ⟨q9,0,none⟩) 32 32,x64,x65,x66,undef,undef,undef,undef],defers:=[] }/\Hid (Below w7.heap.size w7 w')/\(d 4=true->x58 = .slice Av l.length cv)/\(d 6=true->x60 = .agg kc.toArray)/\(d 8=true->x62 = .string ⟨b.toArray⟩)/\(d 10=true->x64 = .string ⟨out.toArray⟩)/\(d 11=true->x65 = .agg nc.toArray)/\(d 12=true->Hid (∃ gq,x66 = .slice (some ⟨gq,0,none⟩) 1 1/\w7.heap.size<=gq/\Blk w' gq 63 nc))) [4,6,8,10,11,12] ?step17 4 6 [4,6,8,10,11,12] _ _ _ rfl (by decide) (fun _ h=>h) (Fits.of (by kernel_rfl)) ?init17 ?fin17
   case init17=>refine ⟨_,_,_,_,_,_,rfl,Below.refl _ _,?_,?_,?_,?_,?_,?_⟩ <;> (intro h; exact absurd h (by decide))
   case step17 =>
    intro i hi d a v17 hI hdi hdeps
    obtain ⟨x58,x60,x62,x64,x65,x66,rfl,BW,h4,h6,h8,h10,h11,h12⟩:=hI
    have hsw:=BW.out.size
    simp only [List.mem_cons,List.not_mem_nil,or_false] at hi
    rcases hi with rfl | rfl | rfl | rfl | rfl | rfl
    ·have c0:v17.cell? ⟨g,3,none⟩=some (.slice Av l.length cv):=(BG6.out.below BW.out BG6.out.lt).cell 3
     refine wpOp_step (o:=?os18) ?hos18 (fun K hK=>?_)
     case hos18=>simp only [zge]; rfl
     go_simp
     refine hK _ _ ?_
     clear hK K
     try simp only [zpt]
     exact ⟨_,_,_,_,_,_,rfl,BW,fun _=>rfl,fun a=>by first | exact h6 (by simpa using a) | rfl,fun a=>by first | exact h8 (by simpa using a) | rfl,fun a=>by first | exact h10 (by simpa using a) | rfl,fun a=>by first | exact h11 (by simpa using a) | rfl,fun a=>by obtain ⟨gq,e,h1,h2⟩:=(h12 (by simpa using a)).out; exact ⟨gq,e,h1,h2⟩⟩
    ·refine wpOp_step (o:=?os19) ?hos19 (fun K hK=>?_)
     case hos19=>simp only [zge]; rfl
     refine step_loadW rfl 27 (.tmp 6) rfl q6 0 rfl kc _ Tryd.underlying27 rfl IK.out (E6.out.below BW.out E6.out.lt).cells (hK _ _ ?_)
     clear hK K
     try simp only [zpt]
     exact ⟨_,_,_,_,_,_,rfl,BW,fun a=>by first | exact h4 (by simpa using a) | rfl,fun _=>rfl,fun a=>by first | exact h8 (by simpa using a) | rfl,fun a=>by first | exact h10 (by simpa using a) | rfl,fun a=>by first | exact h11 (by simpa using a) | rfl,fun a=>by obtain ⟨gq,e,h1,h2⟩:=(h12 (by simpa using a)).out; exact ⟨gq,e,h1,h2⟩⟩
    ·have hcv:=conv_bytes (RB6.out.below BW.out)
     refine wpOp_step (o:=?os20) ?hos20 (fun K hK=>?_)
     case hos20=>simp only [zge]; rfl
     go_simp
     refine hK _ _ ?_
     clear hK K
     try simp only [zpt]
     exact ⟨_,_,_,_,_,_,rfl,BW,fun a=>by first | exact h4 (by simpa using a) | rfl,fun a=>by first | exact h6 (by simpa using a) | rfl,fun _=>rfl,fun a=>by first | exact h10 (by simpa using a) | rfl,fun a=>by first | exact h11 (by simpa using a) | rfl,fun a=>by obtain ⟨gq,e,h1,h2⟩:=(h12 (by simpa using a)).out; exact ⟨gq,e,h1,h2⟩⟩
    ·have hcv:=conv_bytes (RH.out.below BW.out)
     refine wpOp_step (o:=?os21) ?hos21 (fun K hK=>?_)
     case hos21=>simp only [zge]; rfl
     go_simp
     refine hK _ _ ?_
     clear hK K
     try simp only [zpt]
     exact ⟨_,_,_,_,_,_,rfl,BW,fun a=>by first | exact h4 (by simpa using a) | rfl,fun a=>by first | exact h6 (by simpa using a) | rfl,fun a=>by first | exact h8 (by simpa using a) | rfl,fun _=>rfl,fun a=>by first | exact h11 (by simpa using a) | rfl,fun a=>by obtain ⟨gq,e,h1,h2⟩:=(h12 (by simpa using a)).out; exact ⟨gq,e,h1,h2⟩⟩
    ·obtain rfl:=h6 (hdeps 6 (by simp))
     obtain rfl:=h8 (hdeps 8 (by simp))
     obtain rfl:=h10 (hdeps 10 (by simp))
     refine wpOp_step (o:=?os22) ?hos22 (fun K hK=>?_)
     case hos22=>simp only [zge]; rfl
     refine step_build rfl 63 #[(0,.tmp 59),(1,.tmp 60),(2,.const (.int .i64 0)),(3,.const (.string ⟨#[]⟩)),(4,.tmp 62),(5,.tmp 64)] rfl nc (by simp only [List.map_toArray,List.map_cons,List.map_nil]; exact NC1.out) (hK _ _ ?_)
     clear hK K
     try simp only [zpt]
     exact ⟨_,_,_,_,_,_,rfl,BW,fun a=>by first | exact h4 (by simpa using a) | rfl,fun a=>by first | exact h6 (by simpa using a) | rfl,fun a=>by first | exact h8 (by simpa using a) | rfl,fun a=>by first | exact h10 (by simpa using a) | rfl,fun _=>rfl,fun a=>by obtain ⟨gq,e,h1,h2⟩:=(h12 (by simpa using a)).out; exact ⟨gq,e,h1,h2⟩⟩
    ·obtain rfl:=h11 (hdeps 11 (by simp))
     have hX:=alloc_below v17 (.cells nc.toArray 63)
     refine wpOp_step (o:=?os23) ?hos23 (fun K hK=>?_)
     case hos23=>simp only [zge]; rfl
     refine step_bslice rfl 56 1 #[(0,.tmp 65)] rfl (by simp only [List.map_toArray,List.map_cons,List.map_nil]; exact ROW.out _) (hK _ _ ?_)
     clear hK K
     try simp only [zpt]
     exact ⟨_,_,_,_,_,_,rfl,BW.out.trans (hX.mono hsw),fun a=>by first | exact h4 (by simpa using a) | rfl,fun a=>by first | exact h6 (by simpa using a) | rfl,fun a=>by first | exact h8 (by simpa using a) | rfl,fun a=>by first | exact h10 (by simpa using a) | rfl,fun a=>by first | exact h11 (by simpa using a) | rfl,fun _=>⟨_,rfl,hsw,Blk.at_new _ _ _ _ _ rfl rfl⟩⟩
   case fin17 =>
    intro a v17 hI
    obtain ⟨x58,x60,x62,x64,x65,x66,rfl,BW,h4,h6,h8,h10,h11,h12⟩:=hI
    obtain rfl:=h4 (by decide)
    obtain rfl:=h6 (by decide)
    obtain rfl:=h8 (by decide)
    obtain rfl:=h10 (by decide)
    obtain rfl:=h11 (by decide)
    obtain ⟨gq,rfl,hgq1,hgq2⟩:=(h12 (by decide)).out
    have hsv:=BW.out.size
    have hwz:w.heap.size<=w7.heap.size:=F6.out.size
    have G8:=Lib.hid (E8.out.below BW.out E8.out.lt)
    have G9:=Lib.hid (E9.out.below BW.out E9.out.lt)
    have BG7:=Lib.hid (BG6.out.below BW.out BG6.out.lt)
    have OWN7:Hid (v17.ownsRow B 63 37 (.slice Av l.length cv) l.length (l.flatMap RNote.cells)):=rowN_kept OWN6.out (fun q hq=>BW.out.block q (by have:=hLT.out q hq; omega))
    have F7:Hid (Fr (fun x=>x=g ∨ some x=(Value.slice Av l.length cv).ownBlock) w v17):=F6.out.cut BW.out hwz
    obtain ⟨v8,w8,hap,hown8,hgr8,hlies⟩:=noteApp OWN7.out 56 hgq2 NL.out ON.out (by omega) (by omega)
    clear h4 h6 h8 h10 h11 h12 BW E6 E8 E9 BG6 OWN6 F6 RB6 RH
    try dsimp only
    refine wpAny_ready (rs:=[13]) (by kernel_rfl) (by simp) ?_
    refine AllReady.cons (o:=?p24) ?q24 (fun K hK=>?_) AllReady.nil
    case q24=>simp only [zge]; rfl
    refine step_append (t:=56) rfl (.tmp 58) (.tmp 66) rfl rfl rfl hap (hK _ _ ?_)
    clear hK K
    try simp only [zpt]
    have hs8:=hgr8.size
    have hq8w:=HQ.out
    have J8:Hid (Blk w8 q8 27 (List.replicate 32 (Value.int .u8 0))):=(hgr8.block _ G8.out.lt (fun e=>by have:=hLT.out q8 e.symm; omega)).trans G8.out
    have J9:Hid (Blk w8 q9 27 oc):=(hgr8.block _ G9.out.lt (fun e=>by have:=hLT.out q9 e.symm; omega)).trans G9.out
    have BG8:Hid (Blk w8 g 58 [.int .i64 1,.int .i64 s,.int .i64 ((ta + 32:Nat):Int),.slice Av l.length cv]):=(hgr8.block _ BG7.out.lt AP.out).trans BG7.out
    have F8:Hid (Fr (fun x=>x=g ∨ some x=(Value.slice Av l.length cv).ownBlock) w w8):=F7.out.trans ⟨hgr8.os,hgr8.tape,hgr8.output,hgr8.size,fun i hi hn=>hgr8.block i hi (fun e=>hn (.inr e))⟩
    have OWN8:=Lib.hid hown8
    have LI8:Hid (∀ q,v8.ownBlock=some q->(Value.slice Av l.length cv).ownBlock=some q ∨ w.heap.size<=q):=fun q hq=>by
     rcases hlies with h | ⟨q',h,h'⟩
     ·exact .inl (by rw [<- h]; exact hq)
     ·rw [hq] at h
      injection h with h
      exact .inr (by omega)
    have LT8:Hid (∀ q,v8.ownBlock=some q->q ≠ g):=fun q hq he=>by
     subst he
     exact blk_apart BG8.out OWN8.out (by decide) hq.symm
    have cg8:w8.cell? ⟨g,3,none⟩=some (.slice Av l.length cv):=BG8.out.cell 3
    have fg8:w8.frozen? ⟨g,3,none⟩=false:=BG8.out.frozen 3
    have O8:v8.oneCell'=true:=by
     rcases hown8.2 with ⟨h,_⟩ | ⟨_,_,_,h,_⟩ <;> (rw [h]; rfl)
    obtain ⟨A8,c8,hv8⟩:∃ A8 c8,v8 = .slice A8 (l.length + 1) c8:=by
     rcases hown8.2 with ⟨_,h⟩ | ⟨q,cap,cur,h,_⟩
     ·omega
     ·exact ⟨_,_,h⟩
    subst hv8
    clear hap hown8 hgr8 hlies G8 G9 BG7 F7 OWN7
    refine wpAny_take (i:=14) (oi:=?oi25) (v:=.pointer (some ⟨g,0,none⟩)) ?hi25 (by kernel_rfl) (by kernel_rfl) (by kernel_rfl) ?hQ25 ?hy25 ?rest25
    case hi25=>simp only [zge]; rfl
    case hQ25=>exact fun _ _ _ h=>h
    case hy25=>exact Or.inl ⟨by rfl,by intro w; go_simp⟩
    try simp only [zpt]
    refine wpAny_take (i:=15) (oi:=?oi26) (v:=.pointer (some ⟨g,3,none⟩)) ?hi26 (by kernel_rfl) (by kernel_rfl) (by kernel_rfl) ?hQ26 ?hy26 ?rest26
    case hi26=>simp only [zge]; rfl
    case hQ26=>exact fun _ _ _ h=>h
    case hy26=>exact Or.inl ⟨by rfl,by intro w; go_simp⟩
    try simp only [zpt]
    refine wpAny_ready (rs:=[16]) (by kernel_rfl) (by simp) ?_
    refine AllReady.cons (o:=?p27) ?q27 (fun K hK=>?_) AllReady.nil
    case q27=>simp only [zge]; rfl
    go_simp
    refine hK _ _ ?_
    clear hK K
    try simp only [zpt]
    refine wpAny_done (by kernel_rfl) ?_ _
    have K8:Hid (Blk (w8.setCell ⟨g,3,none⟩ (.slice A8 (l.length + 1) c8)) q8 27 (List.replicate 32 (Value.int .u8 0))):=J8.out.far (by simp only; omega) _
    have K9:Hid (Blk (w8.setCell ⟨g,3,none⟩ (.slice A8 (l.length + 1) c8)) q9 27 oc):=J9.out.far (by simp only; omega) _
    have KG:Hid (Blk (w8.setCell ⟨g,3,none⟩ (.slice A8 (l.length + 1) c8)) g 58 [.int .i64 1,.int .i64 s,.int .i64 ((ta + 32:Nat):Int),.slice A8 (l.length + 1) c8]):=BG8.out.set_ 3 _
    have KO:Hid ((w8.setCell ⟨g,3,none⟩ (.slice A8 (l.length + 1) c8)).ownsRow B 63 37 (.slice A8 (l.length + 1) c8) (l.length + 1) (l.flatMap RNote.cells ++ nc)):=rowN_kept OWN8.out (fun q hq=>Below.heap_setCell w8 ⟨g,3,none⟩ _ q (LT8.out q hq))
    have KF:Hid (Fr (fun x=>x=g ∨ some x=(Value.slice Av l.length cv).ownBlock) w (w8.setCell ⟨g,3,none⟩ (.slice A8 (l.length + 1) c8))):=F8.out.trans ⟨rfl,rfl,rfl,by simp,fun i hi hn=>Below.heap_setCell w8 ⟨g,3,none⟩ _ i (fun e=>hn (.inl e))⟩
    clear J8 J9 BG8 OWN8 F8 cg8 fg8 LT8
    generalize w8.setCell ⟨g,3,none⟩ (.slice A8 (l.length + 1) c8)=w9 at *
    go_wp2_with (first
     | (with_reducible refine load_law rfl 27 (.tmp 9) rfl q9 0 rfl oc _ Tryd.underlying27 rfl IO.out K9.out.cells ?_)
     | (with_reducible refine storeAll_law rfl 27 (.tmp 8) (.tmp 70) rfl q8 rfl oc rfl 27 (List.replicate 32 (Value.int .u8 0)) K8.out IO.out LO.out OO.out ?_))
    have B10:Hid (Blk (w9.setRow q8 oc.toArray) q8 27 oc):=K8.out.row
    refine bodyPost_ret (results_cell_row rfl _ _ q8 27 oc.toArray (0,0) _ rfl B10.out Tryd.underlying27 rfl (by rw [IO.out]; simp)) rfl ⟨fun o' ho'=>?_,fun hn'=>?_⟩
    ·rw [NO.out] at ho'
     cases ho'
    ·rw [<- HOUT.out,<- HOC.out,<- HNK.out]
     have hq8n:=blk_apart K8.out KO.out (by decide)
     refine ⟨rfl,⟨.slice A8 (l.length + 1) c8,⟨(setRow_other w9 q8 g _ (by omega)).trans KG.out,?_,?_,HR.out.lo,HR.out.hi⟩,LI8.out⟩,KF.out.cut (below_setRow (Below.refl w.heap.size w9) (by omega) _) (Nat.le_refl _)⟩
     ·have:=rowN_kept (w':=w9.setRow q8 oc.toArray) KO.out (fun q hq=>setRow_other w9 q8 q _ (fun e=>hq8n (by rw [hq,e])))
      rw [HNC.out] at this
      simpa using this
     ·intro m hm
      rcases List.mem_append.1 hm with h | h
      ·exact GD.out m h
      ·simp at h
       subst h
       exact NK.out
end Go.Proofs.YtajgjeialbgijaaDoor
namespace Go.Proofs.YtajgjeialbgijaaDoor
set_option linter.unusedVariables false
set_option linter.unusedSimpArgs false
set_option maxRecDepth 100000
open Go.RowKit
def Alike (l:List RNote) (B L:List Bx.BNote):Prop:=∀ key b,lookR 1 key b l=Bx.lookB key b B/\lookR 2 key b l=Bx.lookB key b L
theorem Alike.nil:Alike [] [] []:=fun _ _=>⟨rfl,rfl⟩
theorem Alike.mark {l:List RNote} {B L:List Bx.BNote} (h:Alike l B L) (key b out:List UInt8):Alike (l ++ [⟨1,key,b,out⟩]) (B ++ [⟨key,b,out⟩]) L:=fun k x=>by
 obtain ⟨h1,h2⟩:=h k x
 refine ⟨by rw [lookR_app,lookB_app,h1]; simp,?_⟩
 rw [lookR_app,h2]
 simp
def RetY (w:World) (B0 g:Nat) (s:Int) (l:List RNote) (v:Value) (out:List UInt8) (a':Nat) (B' L':List Bx.BNote) (e:Ending) (w':World):Prop :=
 ∃ l' v',e = .returned (.agg (out.map cellOf).toArray)/\RefAt w' B0 g s a' l' v'/\l'.length<=l.length + 1/\Alike l' B' L'/\(∀ q,v'.ownBlock=some q->v.ownBlock=some q ∨ w.heap.size<=q)/\Fr (fun x=>x=g ∨ some x=v.ownBlock) w w'
set_option maxRecDepth 100000 in
set_option maxHeartbeats 1000000 in
theorem rmark_any {w:World} {B0 g:Nat} {s:Int} {ta:Nat} {l:List RNote} {v:Value} {B L:List Bx.BNote} {A:Option Addr} {n c:Nat} {b:List UInt8} (key:List UInt8) (hR:RefAt w B0 g s ta l v) (hA:Alike l B L) (hGd:Bx.Good B) (h32:key.length=32) (hr:Rd w A n c b) (hnb:n<=100000) (hog:∀ x:Addr,A=some x->0 < n->x.block ≠ g) (ha:ta<=900000) (hlen:l.length<=1000) (hB:B0<=w.heap.size) :
  Calls Tryd.prog 13 #[.pointer (some ⟨g,0,none⟩),.agg (key.map cellOf).toArray,.slice A n c] w (RetY w B0 g s l v (Bx.bookOut s ta key b B) (Bx.bookAt ta key b B) (Bx.bookNext s ta key b B) L):=by
 obtain ⟨kc,hkc⟩:∃ kc,kc=key.map cellOf:=⟨_,rfl⟩
 obtain ⟨D,hD⟩:∃ D,D=(Bx.bookOut s ta key b B).map cellOf:=⟨_,rfl⟩
 have hDl:D.length=32:=by rw [hD,List.length_map,Bx.bookOut_length _ _ _ _ _ hGd]
 have IK:Hid ((Tryd.prog.info? 27).map (·.size)=some kc.length):=by unfold Hid; rw [hkc,List.length_map,h32]; kernel_rfl
 have ID:Hid ((Tryd.prog.info? 27).map (·.size)=some D.length):=by unfold Hid; rw [hDl]; kernel_rfl
 have LD:Hid ((List.replicate 32 (Value.int .u8 0)).length=D.length):=by unfold Hid; rw [hDl]; rfl
 have OD:Hid (∀ u ∈ D,u.oneCell'=true):=by unfold Hid; rw [hD]; exact cells_u8 _
 have CB:Hid (∀ (W:World) (A:Option Addr) (n c:Nat),Below w.heap.size w W->Rd W A n c b->n<=100000->(∀ x:Addr,A=some x->0 < n->x.block ≠ g)->Calls Tryd.prog 28 #[.pointer (some ⟨g,0,none⟩),.int .i64 1,.agg kc.toArray,.slice A n c] W fun e w'=>∃ l' v',e = .returned (.agg D.toArray)/\RefAt w' B0 g s (Bx.bookAt ta key b B) l' v'/\l'.length<=l.length + 1/\Alike l' (Bx.bookNext s ta key b B) L/\(∀ q,v'.ownBlock=some q->v.ownBlock=some q ∨ w.heap.size<=q)/\Fr (fun x=>x=g ∨ some x=v.ownBlock) W w'):=fun W A n c hW hrd hn hog'=>by
  rw [hkc,hD]
  refine (rbook_any 1 key (hR.below hW) h32 hrd hn ha hlen (Nat.le_trans hB hW.size) hog').mono ?_
  rintro e w' ⟨h1,h2⟩
  have hlk:=(hA key b).1
  cases hl:Bx.lookB key b B with
  | some o =>
   rw [hl] at hlk
   obtain ⟨rfl,hX⟩:=h1 o hlk
   refine ⟨l,v,by simp [Bx.bookOut,hl],?_,by omega,?_,fun q hq=>.inl hq,Fr.of_below hX⟩
   ·rw [show Bx.bookAt ta key b B=ta by simp [Bx.bookAt,hl]]
    exact (hR.below hW).below hX
   ·rw [show Bx.bookNext s ta key b B=B by simp [Bx.bookNext,hl]]
    exact hA
  | none =>
   rw [hl] at hlk
   obtain ⟨rfl,⟨v',hR',hq'⟩,hF⟩:=h2 hlk
   refine ⟨l ++ [⟨1,key,b,Tap.tape s ta 32⟩],v',by simp [Bx.bookOut,hl],?_,by simp,?_,fun q hq=>(hq' q hq).imp id (fun h=>Nat.le_trans hW.size h),hF⟩
   ·rw [show Bx.bookAt ta key b B=ta + 32 by simp [Bx.bookAt,hl]]
    exact hR'
   ·rw [show Bx.bookNext s ta key b B=B ++ [⟨key,b,Tap.tape s ta 32⟩] by simp [Bx.bookNext,hl]]
    exact hA.mark key b _
 have HR:=Lib.hid hR
 have hgl:=hR.blk.lt
 have HLT:Hid (∀ q,v.ownBlock=some q->q < w.heap.size):=fun q hq=>(World.ownsRow.lt hR.own q hq).2
 have HRB:=Lib.hid hr
 have HOG:=Lib.hid hog
 unfold RetY
 rw [<- hkc,<- hD]
 clear hR hA hGd hr hog hkc hD hDl h32
 go_enter Tryd.func13,Tryd.ntmps13
 go_upto_region 1 with (fail)
 obtain ⟨w0,hw0⟩:∃ w0,w0=(w.alloc (Obj.cells kc.toArray 27)).alloc (Obj.cells (List.replicate 32 (Value.int .u8 0)).toArray 27):=⟨_,rfl⟩
 have B4:Hid (Blk w0 w.heap.size 27 kc):=by unfold Hid; rw [hw0]; exact (Blk.new w _ _).alloc _
 have B6:Hid (Blk w0 (w.heap.size + 1) 27 (List.replicate 32 (Value.int .u8 0))):=by unfold Hid; rw [hw0]; exact Blk.at_new _ _ _ _ _ rfl (by simp)
 have W0:Hid (Below w.heap.size w w0):=by unfold Hid; rw [hw0]; exact ((Below.refl _ _).alloc (Nat.le_refl _) _).alloc (by simp) _
 have hs0:w.heap.size + 2<=w0.heap.size:=by rw [hw0]; simp
 change Code.wp _ _ _ _ ((w.alloc (Obj.cells kc.toArray 27)).alloc (Obj.cells (List.replicate 32 (Value.int .u8 0)).toArray 27))
 rw [<- hw0]
 clear hw0
 have c0:w0.cell? ⟨g,0,none⟩=some (.int .i64 1):=(HR.out.blk.below W0.out hgl).cell 0
 go_wp2_with (first | (with_reducible refine load_law rfl 27 (.tmp 4) rfl w.heap.size 0 rfl kc _ Tryd.underlying27 rfl IK.out B4.out.cells ?_))
 clear c0
 refine (CB.out w0 _ _ _ W0.out (HRB.out.below W0.out) hnb HOG.out).mono ?_
 rintro e w3 ⟨l',v',rfl,h1,h2,h3,h4,h5⟩
 have C6:Hid (Blk w3 (w.heap.size + 1) 27 (List.replicate 32 (Value.int .u8 0))):=h5.blk B6.out (fun h=>by rcases h with h | h; omega; have:=HLT.out _ h.symm; omega)
 have F3:Hid (Fr (fun x=>x=g ∨ some x=v.ownBlock) w w3):=(Fr.of_below W0.out).trans h5
 have R3:=Lib.hid h1
 have H2:=Lib.hid h2
 have H3:=Lib.hid h3
 have H4:=Lib.hid h4
 clear h1 h2 h3 h4 h5
 go_wp2_with (first
  | (with_reducible refine storeAll_law rfl 27 (.tmp 6) (.tmp 18) rfl (w.heap.size + 1) rfl D rfl 27 (List.replicate 32 (Value.int .u8 0)) C6.out ID.out LD.out OD.out ?_))
 have B10:Hid (Blk (w3.setRow (w.heap.size + 1) D.toArray) (w.heap.size + 1) 27 D):=C6.out.row
 have hqn:=blk_apart C6.out R3.out.own (by decide)
 exact bodyPost_ret (results_cell_row rfl _ _ (w.heap.size + 1) 27 D.toArray (0,0) _ rfl B10.out Tryd.underlying27 rfl (by rw [ID.out]; simp)) rfl ⟨l',v',rfl,R3.out.keep (by simp) (setRow_other _ _ _ _ (by omega)) (fun q hq=>setRow_other _ _ _ _ (fun e=>hqn (by rw [hq,e]))),H2.out,H3.out,H4.out,F3.out.cut (below_setRow (Below.refl w.heap.size w3) (by omega) _) (Nat.le_refl _)⟩
end Go.Proofs.YtajgjeialbgijaaDoor
