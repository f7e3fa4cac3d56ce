import Derived.Test.YtajgjeialbgijaaDoorSVn
namespace Go.Proofs.YtajgjeialbgijaaDoor
set_option linter.unusedVariables false
set_option linter.unusedSimpArgs false
set_option maxRecDepth 100000
open Go.RowKit Vs
def At (w:World) (B:Nat) (x:Value) (t:TypeId) (cs:List Value):Prop:=∃ q,x = .pointer (some ⟨q,0,none⟩)/\B<=q/\Blk w q t cs
theorem At.below {w w':World} {B:Nat} {x:Value} {t:TypeId} {cs:List Value} (h:At w B x t cs) (hb:Below w.heap.size w w'):At w' B x t cs:=by
 obtain ⟨q,h1,h2,h3⟩:=h
 exact ⟨q,h1,h2,h3.below hb h3.lt⟩
theorem At.new (w:World) {B:Nat} (t:TypeId) (cs:List Value) (hB:B<=w.heap.size):At (w.alloc (.cells cs.toArray t)) B (.pointer (some ⟨w.heap.size,0,none⟩)) t cs:=⟨_,rfl,hB,Blk.new w t cs⟩
theorem list4 {l:List Value} (h:l.length=4):∃ a b c d,l=[a,b,c,d]:=by
 match l,h with
 | [a,b,c,d],_=>exact ⟨a,b,c,d,rfl⟩
theorem vbuilt7 {D R L:List Value} (hd:D.length=32) (hr:R.length=32) (hl:L.length=4) (c n k e:Int):Tryd.prog.built 30 [(0,.int .i64 c),(1,.int .i64 n),(2,.int .i64 k),(3,.agg D.toArray),(4,.agg R.toArray),(5,.int .i64 e),(6,.agg L.toArray)]=some (.int .i64 c :: .int .i64 n :: .int .i64 k :: (D ++ (R ++ (.int .i64 e :: (L ++ no32.map cellOf))))).toArray:=by
 obtain ⟨a0,a1,a2,a3,a4,a5,a6,a7,a8,a9,a10,a11,a12,a13,a14,a15,a16,a17,a18,a19,a20,a21,a22,a23,a24,a25,a26,a27,a28,a29,a30,a31,rfl⟩:=list32 hd
 obtain ⟨b0,b1,b2,b3,b4,b5,b6,b7,b8,b9,b10,b11,b12,b13,b14,b15,b16,b17,b18,b19,b20,b21,b22,b23,b24,b25,b26,b27,b28,b29,b30,b31,rfl⟩:=list32 hr
 obtain ⟨l0,l1,l2,l3,rfl⟩:=list4 hl
 kernel_rfl
theorem mine_get {v:V} (h:Ok v) {k:Nat} (hk:k < 4):v.cells[68 + k]?=some (.int .i64 (mine v ((k:Int) + 1))):=by
 have hl:=h.vec
 refine lay_vec h k _ ?_
 rw [List.getElem?_map,List.getElem?_eq_getElem (by omega),Option.map_some,mine,show ((k:Int) + 1).toNat - 1=k by omega,List.getD_eq_getElem?_getD,List.getElem?_eq_getElem (by omega)]
 rfl
def nextA (last:V) (c:Int):V:=⟨c,mine last c + 1,last.count + 1,vhash last,last.root,last.ep,last.vec,no32⟩
theorem isC_nat {c:Int} (h:isC c=true):∃ k:Nat,k < 4/\c=(k:Int) + 1:=by
 simp only [isC,decide_eq_true_iff] at h
 exact ⟨(c - 1).toNat,by omega,by omega⟩
set_option maxRecDepth 100000 in
set_option maxHeartbeats 1000000 in
theorem vnext_any {last:V} (h:Ok last) (c:Int) {w:World} (hg:Gl w):Calls Tryd.prog 8 #[vval last,.int .i64 c] w fun e w'=>e = .returned (vval (next last c))/\Below w.heap.size w w':=by
 have HV:=Lib.hid h
 have HG:=Lib.hid hg
 have hsz:=hg.size
 have CC:=Lib.hid isc_any
 have CH:Hid (∀ W,Gl W->Calls Tryd.prog 20 #[vval last] W fun e w'=>e = .returned (.agg ((vhash last).map cellOf).toArray)/\Below W.heap.size W w'):=fun W hW=>vhash_any h hW
 have IV:=Lib.hid (vinfo h)
 have HEP:=Lib.hid (at_ep h)
 have LR:=Lib.hid (lay_root h)
 have LV:=Lib.hid (lay_vec h)
 have IR:=Lib.hid (hinfo h.root)
 have hvl:=h.vec
 have IL:Hid ((Tryd.prog.info? 28).map (·.size)=some (last.vec.map iv).length):=by unfold Hid; rw [List.length_map,hvl]; kernel_rfl
 have BZ:=Lib.hid vbuilt0
 have IZ:=Lib.hid (vinfo zero_ok)
 have OZ:=Lib.hid (cells_one zero)
 have LZ:Hid (zero.cells.length=104):=cells_length zero_ok
 have LC:Hid (last.cells.length=104):=cells_length h
 have hno:=next_ok h c
 obtain ⟨nx,hnx⟩:∃ n,n=next last c:=⟨_,rfl⟩
 rw [<- hnx] at hno ⊢
 have HNX:=Lib.hid hnx
 have HNO:=Lib.hid hno
 clear hnx hno
 unfold vval at *
 obtain ⟨C,hC⟩:∃ C,C=last.cells:=⟨_,rfl⟩
 rw [<- hC] at CH IV HEP LR LV LC ⊢
 have HC:=Lib.hid hC
 obtain ⟨R,hR⟩:∃ R,R=last.root.map cellOf:=⟨_,rfl⟩
 rw [<- hR] at LR IR
 obtain ⟨L,hL⟩:∃ L,L=last.vec.map iv:=⟨_,rfl⟩
 rw [<- hL] at LV IL
 obtain ⟨Z,hZ⟩:∃ Z,Z=zero.cells:=⟨_,rfl⟩
 have HZ:=Lib.hid hZ
 rw [<- hZ] at BZ IZ OZ LZ
 obtain ⟨NC,hNC⟩:∃ X,X=nx.cells:=⟨_,rfl⟩
 rw [<- hNC]
 have HNC:=Lib.hid hNC
 obtain ⟨w1,hw1⟩:∃ w1,w1=(w.alloc (.cells C.toArray 30)).alloc (.cells zero.cells.toArray 30):=⟨_,rfl⟩
 have B1:Hid (Blk w1 w.heap.size 30 C):=by unfold Hid; rw [hw1]; exact (Blk.new w 30 C).alloc _
 have B2:Hid (Blk w1 (w.heap.size + 1) 30 Z):=by unfold Hid; rw [hw1,hZ]; exact Blk.at_new _ _ 30 _ _ rfl (by simp)
 have W1:Hid (Below w.heap.size w w1):=by unfold Hid; rw [hw1]; exact ((Below.refl _ _).alloc (Nat.le_refl _) _).alloc (by simp) _
 have hs1:=B2.out.lt
 have HR:=Lib.hid hR
 have HL:=Lib.hid hL
 clear h hg hC hR hL hZ hNC
 go_enter Tryd.func8,Tryd.ntmps8
 go_upto_region 1 with (fail)
 change Code.wp _ _ _ _ ((w.alloc (.cells C.toArray 30)).alloc (.cells zero.cells.toArray 30))
 rw [<- hw1]
 clear hw1
 obtain ⟨b,hb⟩:∃ b,isC c=b:=⟨_,rfl⟩
 cases b with
 | false =>
  obtain rfl:Z=NC:=by symm; rw [HNC.out,HZ.out,HNX.out,next,if_neg (by simp [hb])]
  go_wp2_with (first
   | (go_at_call 21; refine (CC.out _ _).mono ?_; rintro e w2 ⟨rfl,rfl⟩)
   | (with_reducible refine build_law rfl 30 #[] rfl Z (by simp only [List.map_toArray,List.map_nil]; exact BZ.out) ?_)
   | ((with_reducible refine storeGen_law rfl 30 (.tmp 4) (.tmp 13) rfl (w.heap.size + 1) rfl Z rfl 30 Z IZ.out rfl OZ.out w.heap.size w B2.out W1.out (by omega) ?_); intro w6 B6 W6))
  exact bodyPost_ret (results_cell_row rfl _ _ (w.heap.size + 1) 30 Z.toArray (0,0) _ rfl B6.out Tryd.underlying30 rfl (by rw [IZ.out]; simp)) rfl ⟨rfl,W6.out⟩
 | true =>
  obtain ⟨k,hk,rfl⟩:=isC_nat hb
  obtain ⟨dz,hd⟩:∃ d:Int,d=(k:Int) + 1:=⟨_,rfl⟩
  have HOW:=Lib.hid (mine_in HV.out dz)
  have c0:w1.cell? ⟨w.heap.size,68 + k,none⟩=some (.int .i64 (mine last dz)):=by rw [B1.out.cell,HC.out,mine_get HV.out hk,hd]
  have c1:w1.cell? ⟨w.heap.size,2,none⟩=some (.int .i64 last.count):=by rw [B1.out.cell,HC.out]; rfl
  have d1:IntKind.i64.wrap (dz - 1)=(k:Int):=by rw [hd,IntKind.wrap_i64]; omega
  rw [<- hd] at HNX hb ⊢
  have HD:=Lib.hid hd
  obtain ⟨o,ho⟩:∃ o,o=mine last dz:=⟨_,rfl⟩
  rw [<- ho] at HOW c0
  have HO:=Lib.hid ho
  clear hd ho
  have CO:=Lib.hid (fun W=>more_any HOW.out W)
  have CK:=Lib.hid (fun W=>more_any HV.out.count W)
  by_cases h1:o=top
  ·rw [show decide (o ≠ top)=false by simp [h1]] at CO
   obtain ⟨o1,ho1⟩:∃ x,x=moreOf o:=⟨_,rfl⟩
   rw [<- ho1] at CO
   obtain ⟨k1,hk1⟩:∃ x,x=moreOf last.count:=⟨_,rfl⟩
   obtain ⟨b1,hb1⟩:∃ x,x=decide (last.count ≠ top):=⟨_,rfl⟩
   rw [<- hk1,<- hb1] at CK
   obtain rfl:Z=NC:=by symm; rw [HNC.out,HZ.out,HNX.out,next,if_neg (by rw [<- HO.out]; simp [h1])]
   clear ho1 hk1 hb1 h1
   go_wp2_with (first
    | (go_at_call 21; refine (CC.out _ _).mono ?_; rintro e w2 ⟨rfl,rfl⟩)
    | (go_at_call 22; with_reducible refine (CK.out _).mono ?_; rintro e w2 ⟨rfl,rfl⟩)
    | (go_at_call 22; with_reducible refine (CO.out _).mono ?_; rintro e w2 ⟨rfl,rfl⟩)
    | (with_reducible refine build_law rfl 30 #[] rfl Z (by simp only [List.map_toArray,List.map_nil]; exact BZ.out) ?_)
    | ((with_reducible refine storeGen_law rfl 30 (.tmp 4) (.tmp 35) rfl (w.heap.size + 1) rfl Z rfl 30 Z IZ.out rfl OZ.out w.heap.size w B2.out W1.out (by omega) ?_); intro w6 B6 W6))
   exact bodyPost_ret (results_cell_row rfl _ _ (w.heap.size + 1) 30 Z.toArray (0,0) _ rfl B6.out Tryd.underlying30 rfl (by rw [IZ.out]; simp)) rfl ⟨rfl,W6.out⟩
  ·rw [show decide (o ≠ top)=true by simp [h1]] at CO
   obtain ⟨o1,ho1⟩:∃ x,x=moreOf o:=⟨_,rfl⟩
   rw [<- ho1] at CO
   by_cases h2:last.count=top
   ·rw [show decide (last.count ≠ top)=false by simp [h2]] at CK
    obtain ⟨k1,hk1⟩:∃ x,x=moreOf last.count:=⟨_,rfl⟩
    rw [<- hk1] at CK
    obtain rfl:Z=NC:=by symm; rw [HNC.out,HZ.out,HNX.out,next,if_neg (by simp [h2])]
    clear ho1 hk1 h1 h2
    go_wp2_with (first
     | (go_at_call 21; refine (CC.out _ _).mono ?_; rintro e w2 ⟨rfl,rfl⟩)
     | (go_at_call 22; with_reducible refine (CK.out _).mono ?_; rintro e w2 ⟨rfl,rfl⟩)
     | (go_at_call 22; with_reducible refine (CO.out _).mono ?_; rintro e w2 ⟨rfl,rfl⟩)
     | (with_reducible refine build_law rfl 30 #[] rfl Z (by simp only [List.map_toArray,List.map_nil]; exact BZ.out) ?_)
     | ((with_reducible refine storeGen_law rfl 30 (.tmp 4) (.tmp 35) rfl (w.heap.size + 1) rfl Z rfl 30 Z IZ.out rfl OZ.out w.heap.size w B2.out W1.out (by omega) ?_); intro w6 B6 W6))
    exact bodyPost_ret (results_cell_row rfl _ _ (w.heap.size + 1) 30 Z.toArray (0,0) _ rfl B6.out Tryd.underlying30 rfl (by rw [IZ.out]; simp)) rfl ⟨rfl,W6.out⟩
   ·rw [show decide (last.count ≠ top)=true by simp [h2]] at CK
    obtain ⟨k1,hk1⟩:∃ x,x=moreOf last.count:=⟨_,rfl⟩
    rw [<- hk1] at CK
    have hO1:o1=mine last dz + 1:=by rw [ho1,moreOf,if_neg h1,HO.out]
    have hK1:k1=last.count + 1:=by rw [hk1,moreOf,if_neg h2]
    have hAo:Ok (nextA last dz):=by
     have h4:=HOW.out
     have h5:=HV.out.count
     have h6:=HD.out
     have h7:=HO.out
     unfold In top at *
     exact ⟨hash_length _,HV.out.root,HV.out.vec,rfl,⟨by show _<=dz; omega,by show dz<=_; omega⟩,⟨by show _<=mine last dz + 1; omega,by show mine last dz + 1<=_; omega⟩,⟨by show _<=last.count + 1; omega,by show last.count + 1<=_; omega⟩,HV.out.ep,HV.out.each⟩
    have hN:nx={ nextA last dz with vec:=(nextA last dz).vec.set k o1 }:=by
     rw [HNX.out,next,if_pos ⟨hb,by rw [<- HO.out]; exact h1,h2⟩,hO1]
     rw [show dz.toNat - 1=k by rw [HD.out]; omega]
     rfl
    have SV:=Lib.hid (set_vec hAo k o1 hk)
    rw [<- hN] at SV
    have HAL:=Lib.hid (cells_length hAo)
    obtain ⟨DH,hDH⟩:∃ D,D=(vhash last).map cellOf:=⟨_,rfl⟩
    rw [<- hDH] at CH
    have BA:Hid (Tryd.prog.built 30 [(0,.int .i64 dz),(1,.int .i64 o1),(2,.int .i64 k1),(3,.agg DH.toArray),(4,.agg R.toArray),(5,.int .i64 last.ep),(6,.agg L.toArray)]=some (nextA last dz).cells.toArray):=by
     unfold Hid
     rw [vbuilt7 (by rw [hDH,List.length_map,hash_length]) (by rw [HR.out,List.length_map,HV.out.root]) (by rw [HL.out,List.length_map,hvl]),hDH,HR.out,HL.out,hO1,hK1]
     rfl
    have IA:=Lib.hid (vinfo hAo)
    have OA:=Lib.hid (cells_one (nextA last dz))
    have IN:=Lib.hid (vinfo HNO.out)
    have ON:=Lib.hid (cells_one nx)
    have LN:=Lib.hid (cells_length HNO.out)
    obtain ⟨NA,hNA⟩:∃ X,X=(nextA last dz).cells:=⟨_,rfl⟩
    rw [<- hNA] at SV BA IA OA HAL
    rw [<- HNC.out] at SV IN ON LN
    clear ho1 hk1 h1 h2 hO1 hK1 hAo hN hDH hNA HR HL
    go_upto_region 7 with (first
     | (go_at_call 21; refine (CC.out _ _).mono ?_; rintro e w2 ⟨rfl,rfl⟩)
     | (go_at_call 22; with_reducible refine (CK.out _).mono ?_; rintro e w2 ⟨rfl,rfl⟩)
     | (go_at_call 22; with_reducible refine (CO.out _).mono ?_; rintro e w2 ⟨rfl,rfl⟩))
    clear c0 c1 CO CK
    replace B1:=Lib.hid B1.out.drew
    replace B2:=Lib.hid B2.out.drew
    replace W1:=Lib.hid W1.out.drew
    replace hs1:=B2.out.lt
    refine wp_region_any (by kernel_rfl) ?_
    change wpAny _ _ _ _ _ _ _ (World.drew _)
    generalize w1.drew=wd at *
    refine wpAny_take (i:=0) (oi:=?oi1) (v:=.int .i64 dz) ?hi1 (by kernel_rfl) (by kernel_rfl) (by kernel_rfl) ?hQ1 ?hy1 ?rest1
    case hi1=>simp only [zge]; rfl
    case hQ1=>exact fun _ _ _ h=>h
    case hy1=>exact Or.inl ⟨by rfl,by intro w; go_simp⟩
    try simp only [zpt]
    refine wpAny_take (i:=1) (oi:=?oi2) (v:=.int .i64 o1) ?hi2 (by kernel_rfl) (by kernel_rfl) (by kernel_rfl) ?hQ2 ?hy2 ?rest2
    case hi2=>simp only [zge]; rfl
    case hQ2=>exact fun _ _ _ h=>h
    case hy2=>exact Or.inl ⟨by rfl,by intro w; go_simp⟩
    try simp only [zpt]
    refine wpAny_take (i:=2) (oi:=?oi3) (v:=.int .i64 k1) ?hi3 (by kernel_rfl) (by kernel_rfl) (by kernel_rfl) ?hQ3 ?hy3 ?rest3
    case hi3=>simp only [zge]; rfl
    case hQ3=>exact fun _ _ _ h=>h
    case hy3=>exact Or.inl ⟨by rfl,by intro w; go_simp⟩
    try simp only [zpt]
    refine wpAny_take (i:=5) (oi:=?oi4) (v:=.pointer (some ⟨w.heap.size,35,none⟩)) ?hi4 (by kernel_rfl) (by kernel_rfl) (by kernel_rfl) ?hQ4 ?hy4 ?rest4
    case hi4=>simp only [zge]; rfl
    case hQ4=>exact fun _ _ _ h=>h
    case hy4=>exact Or.inl ⟨by rfl,by intro w; go_simp⟩
    try simp only [zpt]
    refine wpAny_take (i:=7) (oi:=?oi5) (v:=.pointer (some ⟨w.heap.size,67,none⟩)) ?hi5 (by kernel_rfl) (by kernel_rfl) (by kernel_rfl) ?hQ5 ?hy5 ?rest5
    case hi5=>simp only [zge]; rfl
    case hQ5=>exact fun _ _ _ h=>h
    case hy5=>exact Or.inl ⟨by rfl,by intro w; go_simp⟩
    try simp only [zpt]
    refine wpAny_take (i:=9) (oi:=?oi6) (v:=.pointer (some ⟨w.heap.size,68,none⟩)) ?hi6 (by kernel_rfl) (by kernel_rfl) (by kernel_rfl) ?hQ6 ?hy6 ?rest6
    case hi6=>simp only [zge]; rfl
    case hQ6=>exact fun _ _ _ h=>h
    case hy6=>exact Or.inl ⟨by rfl,by intro w; go_simp⟩
    try simp only [zpt]
    refine phaseL (fun i=>if i=4 then [3] else if i=11 then [4,6,8,10] else []) (fun d a w'=>∃ x39 x40 x42 x44 x46 x47 x9:Value,a={ tmps:=#[.agg C.toArray,.int .i64 dz,.pointer (some ⟨w.heap.size,0,none⟩),undef,.pointer (some ⟨w.heap.size + 1,0,none⟩),.int .i64 o1,.bool true,.int .i64 k1,.bool true,x9,.int .i64 dz,.bool true,.bool false,undef,.tuple #[.int .i64 o1,.bool true],.int .i64 dz,.int .i64 (k:Int),.pointer (some ⟨w.heap.size,68,none⟩),.pointer (some ⟨w.heap.size,68 + k,none⟩),.int .i64 o,.tuple #[.int .i64 o1,.bool true],.int .i64 o1,.bool true,.tuple #[.int .i64 k1,.bool true],.pointer (some ⟨w.heap.size,2,none⟩),.int .i64 last.count,.tuple #[.int .i64 k1,.bool true],.int .i64 k1,.bool true,.bool true,.bool false,.bool false,.bool true,.bool false,.bool false,undef,.int .i64 dz,.int .i64 o1,.int .i64 k1,x39,x40,.pointer (some ⟨w.heap.size,35,none⟩),x42,.pointer (some ⟨w.heap.size,67,none⟩),x44,.pointer (some ⟨w.heap.size,68,none⟩),x46,x47,undef,undef,undef,undef,undef,undef],defers:=[] }/\Hid (Below wd.heap.size wd w')/\(d 3=true->x39 = .agg C.toArray)/\(d 4=true->x40 = .agg DH.toArray)/\(d 6=true->x42 = .agg R.toArray)/\(d 8=true->x44 = .int .i64 last.ep)/\(d 10=true->x46 = .agg L.toArray)/\(d 11=true->x47 = .agg NA.toArray)/\(d 12=true->Hid (At w' wd.heap.size x9 30 zero.cells))) [3,4,6,8,10,11,12] ?step7 1 7 [3,4,6,8,10,11,12] _ _ _ rfl (by decide) (fun _ h=>h) (Fits.of (by kernel_rfl)) ?init7 ?fin7
    case init7=>refine ⟨_,_,_,_,_,_,_,rfl,Below.refl _ _,?_,?_,?_,?_,?_,?_,?_⟩ <;> (intro h; exact absurd h (by decide))
    case step7 =>
     intro i hi d a v7 hI hdi hdeps
     obtain ⟨x39,x40,x42,x44,x46,x47,x9,rfl,BW,h3,h4,h6,h8,h10,h11,h12⟩:=hI
     have hsw:=BW.out.size
     simp only [List.mem_cons,List.not_mem_nil,or_false] at hi
     rcases hi with rfl | rfl | rfl | rfl | rfl | rfl | rfl
     ·refine wpOp_step (o:=?os8) ?hos8 (fun K hK=>?_)
      case hos8=>simp only [zge]; rfl
      refine step_loadW rfl 30 (.tmp 2) rfl w.heap.size 0 rfl C _ Tryd.underlying30 rfl IV.out (B1.out.below BW.out B1.out.lt).cells (hK _ _ ?_)
      clear hK K
      try simp only [zpt]
      exact ⟨_,_,_,_,_,_,_,rfl,BW,fun _=>rfl,fun a=>by first | exact h4 (by simpa using a) | rfl,fun a=>by first | exact h6 (by simpa using a) | rfl,fun a=>by first | exact h8 (by simpa using a) | rfl,fun a=>by first | exact h10 (by simpa using a) | rfl,fun a=>by first | exact h11 (by simpa using a) | rfl,fun a=>h12 (by simpa using a)⟩
     ·obtain rfl:=h3 (hdeps 3 (by simp))
      refine wpOp_step (o:=?os9) ?hos9 (fun K hK=>?_)
      case hos9=>simp only [zge]; rfl
      go_simp
      refine (CH.out v7 (HG.out.below (W1.out.trans (BW.out.mono W1.out.size)) hsz)).mono ?_
      rintro e u7 ⟨rfl,hX⟩
      refine hK _ _ ?_
      clear hK K
      try simp only [zpt]
      exact ⟨_,_,_,_,_,_,_,rfl,BW.out.trans (hX.mono hsw),fun a=>by first | exact h3 (by simpa using a) | rfl,fun _=>rfl,fun a=>by first | exact h6 (by simpa using a) | rfl,fun a=>by first | exact h8 (by simpa using a) | rfl,fun a=>by first | exact h10 (by simpa using a) | rfl,fun a=>by first | exact h11 (by simpa using a) | rfl,fun a=>(h12 (by simpa using a)).out.below hX⟩
     ·refine wpOp_step (o:=?os10) ?hos10 (fun K hK=>?_)
      case hos10=>simp only [zge]; rfl
      refine step_loadW rfl 27 (.tmp 41) rfl w.heap.size 35 rfl R _ Tryd.underlying27 rfl IR.out ((B1.out.below BW.out B1.out.lt).at_ LR.out) (hK _ _ ?_)
      clear hK K
      try simp only [zpt]
      exact ⟨_,_,_,_,_,_,_,rfl,BW,fun a=>by first | exact h3 (by simpa using a) | rfl,fun a=>by first | exact h4 (by simpa using a) | rfl,fun _=>rfl,fun a=>by first | exact h8 (by simpa using a) | rfl,fun a=>by first | exact h10 (by simpa using a) | rfl,fun a=>by first | exact h11 (by simpa using a) | rfl,fun a=>h12 (by simpa using a)⟩
     ·have c0:v7.cell? ⟨w.heap.size,67,none⟩=some (.int .i64 last.ep):=((B1.out.below BW.out B1.out.lt).cell 67).trans HEP.out
      refine wpOp_step (o:=?os11) ?hos11 (fun K hK=>?_)
      case hos11=>simp only [zge]; rfl
      go_simp
      refine hK _ _ ?_
      clear hK K
      try simp only [zpt]
      exact ⟨_,_,_,_,_,_,_,rfl,BW,fun a=>by first | exact h3 (by simpa using a) | rfl,fun a=>by first | exact h4 (by simpa using a) | rfl,fun a=>by first | exact h6 (by simpa using a) | rfl,fun _=>rfl,fun a=>by first | exact h10 (by simpa using a) | rfl,fun a=>by first | exact h11 (by simpa using a) | rfl,fun a=>h12 (by simpa using a)⟩
     ·refine wpOp_step (o:=?os12) ?hos12 (fun K hK=>?_)
      case hos12=>simp only [zge]; rfl
      refine step_loadW rfl 28 (.tmp 45) rfl w.heap.size 68 rfl L _ Tryd.underlying28 rfl IL.out ((B1.out.below BW.out B1.out.lt).at_ LV.out) (hK _ _ ?_)
      clear hK K
      try simp only [zpt]
      exact ⟨_,_,_,_,_,_,_,rfl,BW,fun a=>by first | exact h3 (by simpa using a) | rfl,fun a=>by first | exact h4 (by simpa using a) | rfl,fun a=>by first | exact h6 (by simpa using a) | rfl,fun a=>by first | exact h8 (by simpa using a) | rfl,fun _=>rfl,fun a=>by first | exact h11 (by simpa using a) | rfl,fun a=>h12 (by simpa using a)⟩
     ·obtain rfl:=h4 (hdeps 4 (by simp))
      obtain rfl:=h6 (hdeps 6 (by simp))
      obtain rfl:=h8 (hdeps 8 (by simp))
      obtain rfl:=h10 (hdeps 10 (by simp))
      refine wpOp_step (o:=?os13) ?hos13 (fun K hK=>?_)
      case hos13=>simp only [zge]; rfl
      refine step_build rfl 30 #[(0,.tmp 36),(1,.tmp 37),(2,.tmp 38),(3,.tmp 40),(4,.tmp 42),(5,.tmp 44),(6,.tmp 46)] rfl NA (by simp only [List.map_toArray,List.map_cons,List.map_nil]; exact BA.out) (hK _ _ ?_)
      clear hK K
      try simp only [zpt]
      exact ⟨_,_,_,_,_,_,_,rfl,BW,fun a=>by first | exact h3 (by simpa using a) | rfl,fun a=>by first | exact h4 (by simpa using a) | rfl,fun a=>by first | exact h6 (by simpa using a) | rfl,fun a=>by first | exact h8 (by simpa using a) | rfl,fun a=>by first | exact h10 (by simpa using a) | rfl,fun _=>rfl,fun a=>h12 (by simpa using a)⟩
     ·have hN:Hid (At (v7.alloc (.cells zero.cells.toArray 30)) _ _ 30 zero.cells):=At.new v7 30 zero.cells hsw
      have hX:=alloc_below v7 (.cells zero.cells.toArray 30)
      refine wpOp_step (o:=?os14) ?hos14 (fun K hK=>?_)
      case hos14=>simp only [zge]; rfl
      go_simp
      refine hK _ (v7.alloc (.cells zero.cells.toArray 30)) ?_
      clear hK K
      try simp only [zpt]
      exact ⟨_,_,_,_,_,_,_,rfl,BW.out.trans (hX.mono hsw),fun a=>by first | exact h3 (by simpa using a) | rfl,fun a=>by first | exact h4 (by simpa using a) | rfl,fun a=>by first | exact h6 (by simpa using a) | rfl,fun a=>by first | exact h8 (by simpa using a) | rfl,fun a=>by first | exact h10 (by simpa using a) | rfl,fun a=>by first | exact h11 (by simpa using a) | rfl,fun _=>hN⟩
    case fin7 =>
     intro a v7 hI
     obtain ⟨x39,x40,x42,x44,x46,x47,x9,rfl,BW,h3,h4,h6,h8,h10,h11,h12⟩:=hI
     obtain rfl:=h3 (by decide)
     obtain rfl:=h4 (by decide)
     obtain rfl:=h6 (by decide)
     obtain rfl:=h8 (by decide)
     obtain rfl:=h10 (by decide)
     obtain rfl:=h11 (by decide)
     obtain ⟨q,rfl,hq,hQ⟩:=(h12 (by decide)).out
     rw [<- HZ.out] at hQ
     have BQ:=Lib.hid hQ
     have W2:=Lib.hid (W1.out.trans (BW.out.mono W1.out.size))
     replace B2:=Lib.hid (B2.out.below BW.out B2.out.lt)
     have hs2:=BW.out.size
     have hqw:w.heap.size + 1 < q:=Nat.lt_of_lt_of_le hs1 hq
     clear W1 B1 BW hQ h3 h4 h6 h8 h10 h11 h12
     try dsimp only
     refine wpAny_ready (rs:=[13]) (by kernel_rfl) (by simp) ?_
     refine AllReady.cons (o:=?p15) ?q15 (fun K hK=>?_) AllReady.nil
     case q15=>simp only [zge]; rfl
     refine step_storeAll rfl 30 (.tmp 9) (.tmp 47) rfl q rfl NA rfl 30 Z BQ.out IA.out (by rw [LZ.out,HAL.out]) OA.out (hK _ _ ?_)
     clear hK K
     try simp only [zpt]
     have B5:=Lib.hid (Blk.row (cs':=NA) BQ.out)
     have B6:Hid (Blk (v7.setRow q NA.toArray) (w.heap.size + 1) 30 Z):=B2.out.rowFar (by omega) _
     have W5:Hid (Below w.heap.size w (v7.setRow q NA.toArray)):=below_setRow W2.out (by omega) _
     clear B2 BQ W2
     generalize v7.setRow q NA.toArray=w5 at *
     refine wpAny_done (by kernel_rfl) ?_ _
     have B7:Hid (Blk (w5.setCell ⟨q,68 + k,none⟩ (.int .i64 o1)) q 30 NC):=by have:=B5.out.set_ (68 + k) (.int .i64 o1); rw [SV.out] at this; exact this
     have B8:Hid (Blk (w5.setCell ⟨q,68 + k,none⟩ (.int .i64 o1)) (w.heap.size + 1) 30 Z):=B6.out.far (p:=⟨q,68 + k,none⟩) (by show w.heap.size + 1 ≠ q; omega) _
     have W8:Hid (Below w.heap.size w (w5.setCell ⟨q,68 + k,none⟩ (.int .i64 o1))):=W5.out.setCell (by show w.heap.size<=q; omega) _
     have c0:w5.cell? ⟨q,68 + k,none⟩=NA[68 + k]?:=B5.out.cell _
     have hlt:68 + k < NA.length:=by rw [HAL.out]; omega
     rw [List.getElem?_eq_getElem hlt] at c0
     obtain ⟨ov,hov⟩:∃ x,x=NA[68 + k]:=⟨_,rfl⟩
     rw [<- hov] at c0
     have hov1:ov.oneCell'=true:=by rw [hov]; exact OA.out _ (List.getElem_mem _)
     have f0:w5.frozen? ⟨q,68 + k,none⟩=false:=B5.out.frozen _
     clear hov hlt
     go_upto_region 9 with (fail)
     generalize w5.setCell ⟨q,68 + k,none⟩ (.int .i64 o1)=w8 at *
     go_wp2_with (first
      | (with_reducible refine load_law rfl 30 (.tmp 9) rfl q 0 rfl NC _ Tryd.underlying30 rfl IN.out B7.out.cells ?_)
      | ((with_reducible refine storeGen_law rfl 30 (.tmp 4) (.tmp 53) rfl (w.heap.size + 1) rfl NC rfl 30 Z IN.out (by rw [LZ.out,LN.out]) ON.out w.heap.size w B8.out W8.out (by omega) ?_); intro w9 B9 W9))
     exact bodyPost_ret (results_cell_row rfl _ _ (w.heap.size + 1) 30 NC.toArray (0,0) _ rfl B9.out Tryd.underlying30 rfl (by rw [IN.out]; simp)) rfl ⟨rfl,W9.out⟩
end Go.Proofs.YtajgjeialbgijaaDoor
