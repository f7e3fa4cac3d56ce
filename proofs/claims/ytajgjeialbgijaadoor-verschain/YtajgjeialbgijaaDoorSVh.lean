import Derived.Test.YtajgjeialbgijaaDoorSVb
namespace Go.Proofs.YtajgjeialbgijaaDoor
set_option linter.unusedVariables false
set_option linter.unusedSimpArgs false
set_option maxRecDepth 100000
open Go.RowKit Vs
theorem hinfo {h:List UInt8} (hl:h.length=32):(Tryd.prog.info? 27).map (·.size)=some (h.map cellOf).length:=by rw [List.length_map,hl]; kernel_rfl
theorem no32_built:Tryd.prog.built 27 []=some (no32.map cellOf).toArray:=by kernel_rfl
set_option maxRecDepth 100000 in
set_option maxHeartbeats 4000000 in
theorem vhash_any {v:V} (h:Ok v) {w:World} (hg:Gl w):Calls Tryd.prog 20 #[vval v] w fun e w'=>e = .returned (.agg ((vhash v).map cellOf).toArray)/\Below w.heap.size w w':=by
 have HV:=Lib.hid h
 have HG:=Lib.hid hg
 have hsz:=hg.size
 have HBL:=Lib.hid (bytes_len h)
 have HT:=Lib.hid h.tag
 have CB:=Lib.hid (fun W=>vbytes_any h W)
 have IV:=Lib.hid (vinfo h)
 have BZ:=Lib.hid vbuilt0
 have e0:=fun W=>vers_eq h zero_ok W
 have IH:=Lib.hid (hinfo (hash_length v))
 have OH:=Lib.hid (cells_u8 (vhash v))
 have LH:Hid (((List.replicate 32 (Value.int .u8 0)):List Value).length=((vhash v).map cellOf).length):=by unfold Hid; rw [List.length_map,hash_length]; rfl
 have BH:=Lib.hid no32_built
 obtain ⟨b,hb⟩:∃ b,b=decide (v=zero):=⟨_,rfl⟩
 rw [<- hb] at e0
 obtain ⟨D,hD⟩:∃ D,D=(vhash v).map cellOf:=⟨_,rfl⟩
 rw [<- hD] at IH OH LH ⊢
 have HD:=Lib.hid hD
 unfold vval at *
 obtain ⟨C,hC⟩:∃ C,C=v.cells:=⟨_,rfl⟩
 rw [<- hC] at CB IV e0 ⊢
 have HC:=Lib.hid hC
 obtain ⟨Z,hZ⟩:∃ Z,Z=zero.cells:=⟨_,rfl⟩
 rw [<- hZ] at BZ e0
 obtain ⟨w1,hw1⟩:∃ w1,w1=(w.alloc (.cells C.toArray 30)).alloc (.cells (List.replicate 32 (Value.int .u8 0)).toArray 27):=⟨_,rfl⟩
 have B1:Hid (Blk w1 w.heap.size 30 C):=by unfold Hid; rw [hw1]; exact (Blk.new w 30 C).alloc _
 have B2:Hid (Blk w1 (w.heap.size + 1) 27 (List.replicate 32 (Value.int .u8 0))):=by unfold Hid; rw [hw1]; exact Blk.at_new _ _ 27 _ _ rfl (by simp)
 have W1:Hid (Below w.heap.size w w1):=by unfold Hid; rw [hw1]; exact ((Below.refl _ _).alloc (Nat.le_refl _) _).alloc (by simp) _
 have hs1:=B2.out.lt
 clear h hg hD hC hZ
 go_enter Tryd.func20,Tryd.ntmps20
 go_upto_region 1 with (fail)
 change Code.wp _ _ _ _ ((w.alloc (.cells C.toArray 30)).alloc (.cells (List.replicate 32 (Value.int .u8 0)).toArray 27))
 rw [<- hw1]
 clear hw1
 cases b with
 | true =>
  obtain rfl:D=no32.map cellOf:=by rw [HD.out]; simp [vhash,of_decide_eq_true hb.symm]
  clear hb
  go_wp2_with (first
   | (with_reducible refine load_law rfl 30 (.tmp 1) rfl w.heap.size 0 rfl C _ Tryd.underlying30 rfl IV.out B1.out.cells ?_)
   | (with_reducible refine build_law rfl 30 #[] rfl Z (by simp only [List.map_toArray,List.map_nil]; exact BZ.out) ?_)
   | (with_reducible refine build_law rfl 27 #[] rfl (no32.map cellOf) (by simp only [List.map_toArray,List.map_nil]; exact BH.out) ?_)
   | ((with_reducible refine storeGen_law rfl 27 (.tmp 2) (.tmp 6) rfl (w.heap.size + 1) rfl (no32.map cellOf) rfl 27 (List.replicate 32 (Value.int .u8 0)) IH.out LH.out OH.out w.heap.size w B2.out W1.out (by omega) ?_); intro w6 B6 W6))
  exact bodyPost_ret (results_cell_row rfl _ _ (w.heap.size + 1) 27 (no32.map cellOf).toArray (0,0) _ rfl B6.out Tryd.underlying27 rfl (by rw [IH.out]; simp)) rfl ⟨rfl,W6.out⟩
 | false =>
  have HN:Hid (vhash v=Sha.sum (vbytes v ++ v.tag)):=by unfold Hid vhash; rw [if_neg (of_decide_eq_false hb.symm)]
  clear hb
  go_upto_region 3 with (first
   | (with_reducible refine load_law rfl 30 (.tmp 1) rfl w.heap.size 0 rfl C _ Tryd.underlying30 rfl IV.out B1.out.cells ?_)
   | (with_reducible refine build_law rfl 30 #[] rfl Z (by simp only [List.map_toArray,List.map_nil]; exact BZ.out) ?_))
  clear e0
  replace B1:=Lib.hid B1.out.drew
  replace B2:=Lib.hid B2.out.drew
  replace W1:=Lib.hid W1.out.drew
  replace hs1:=B2.out.lt
  refine wp_region_any (by kernel_rfl) ?_
  change wpAny _ _ _ _ _ _ _ (World.drew _)
  generalize w1.drew=wd at *
  refine wpAny_take (i:=2) (oi:=?oi1) (v:=.pointer (some ⟨w.heap.size,72,none⟩)) ?hi1 (by kernel_rfl) (by kernel_rfl) (by kernel_rfl) ?hQ1 ?hy1 ?rest1
  case hi1=>simp only [zge]; rfl
  case hQ1=>exact fun _ _ _ h=>h
  case hy1=>exact Or.inl ⟨by rfl,by intro w; go_simp⟩
  try simp only [zpt]
  refine wpAny_take (i:=3) (oi:=?oi2) (v:=.slice (some ⟨w.heap.size,72,none⟩) 32 32) ?hi2 (by kernel_rfl) (by kernel_rfl) (by kernel_rfl) ?hQ2 ?hy2 ?rest2
  case hi2=>simp only [zge]; rfl
  case hQ2=>exact fun _ _ _ h=>h
  case hy2=>exact Or.inl ⟨by rfl,by intro w; go_simp⟩
  try simp only [zpt]
  refine wpAny_ready (rs:=[0]) (by kernel_rfl) (by simp) ?_
  refine AllReady.cons (o:=?p3) ?q3 (fun K hK=>?_) AllReady.nil
  case q3=>simp only [zge]; rfl
  refine step_loadW rfl 30 (.tmp 1) rfl w.heap.size 0 rfl C _ Tryd.underlying30 rfl IV.out B1.out.cells (hK _ _ ?_)
  clear hK K
  try simp only [zpt]
  refine wpAny_ready (rs:=[1]) (by kernel_rfl) (by simp) ?_
  refine AllReady.cons (o:=?p4) ?q4 (fun K hK=>?_) AllReady.nil
  case q4=>simp only [zge]; rfl
  go_simp
  refine (CB.out wd).mono ?_
  rintro e w3 ⟨x,rfl,hO,hX⟩
  obtain ⟨A3,c3,rfl,hR,_⟩:=hO.value
  have h3:=hX.size
  replace B1:=Lib.hid (B1.out.below hX (by omega))
  replace B2:=Lib.hid (B2.out.below hX (by omega))
  replace W1:=Lib.hid (W1.out.trans (hX.mono (by omega)))
  replace hs1:=B2.out.lt
  have hT:Blk w3 w.heap.size 30 v.cells:=by rw [<- HC.out]; exact B1.out
  have HP:Hid (RdP _ _ 2 [vbytes v,v.tag]):=lit_parts2 (w:=w3) hR (Blk.tag HV.out hT) rfl
  obtain ⟨m3,hm3⟩:∃ m,m=(vbytes v).length:=⟨_,rfl⟩
  rw [<- hm3] at HP ⊢
  clear hO hX hR hT CB hm3
  refine hK _ _ ?_
  clear hK K
  try simp only [zpt]
  refine wpAny_ready (rs:=[4]) (by kernel_rfl) (by simp) ?_
  refine AllReady.cons (o:=?p5) ?q5 (fun K hK=>?_) AllReady.nil
  case q5=>simp only [zge]; rfl
  go_simp
  refine hK _ _ ?_
  clear hK K
  try simp only [zpt]
  have X4:=alloc_below w3 (.cells #[.slice A3 m3 c3,.slice (some ⟨w.heap.size,72,none⟩) 32 32] 41)
  have B4:=Lib.hid (B2.out.below X4 hs1)
  have W4:=Lib.hid (W1.out.trans (X4.mono (by omega)))
  have h4:=X4.size
  have hs4:w.heap.size + 1 < (w3.alloc (.cells #[.slice A3 m3 c3,.slice (some ⟨w.heap.size,72,none⟩) 32 32] 41)).heap.size:=by omega
  clear B1 B2 W1 X4 h4
  generalize w3.alloc (.cells #[.slice A3 m3 c3,.slice (some ⟨w.heap.size,72,none⟩) 32 32] 41)=w4 at *
  generalize w3.heap.size=g3 at *
  have CS:=Lib.hid (shaSum_any (c:=2) (HG.out.below W4.out hsz) HP.out (by decide) (by have:=HBL.out; have:=HT.out; simp; omega))
  refine wpAny_ready (rs:=[5]) (by kernel_rfl) (by simp) ?_
  refine AllReady.cons (o:=?p6) ?q6 (fun K hK=>?_) AllReady.nil
  case q6=>simp only [zge]; rfl
  go_simp
  refine CS.out.mono ?_
  rintro e w5 ⟨D',rfl,hM,hX⟩
  obtain rfl:D'=D:=by rw [HD.out,HN.out,hM]; simp
  have B5:=Lib.hid (B4.out.below hX hs4)
  have W5:=Lib.hid (W4.out.trans (hX.mono (by have:=W4.out.size; omega)))
  clear hM hX CS HP B4 W4
  refine hK _ _ ?_
  clear hK K
  try simp only [zpt]
  refine wpAny_ready (rs:=[6]) (by kernel_rfl) (by simp) ?_
  refine AllReady.cons (o:=?p7) ?q7 (fun K hK=>?_) AllReady.nil
  case q7=>simp only [zge]; rfl
  refine step_storeAll rfl 27 (.tmp 2) (.tmp 12) rfl (w.heap.size + 1) rfl D' rfl 27 (List.replicate 32 (Value.int .u8 0)) B5.out IH.out LH.out OH.out (hK _ _ ?_)
  clear hK K
  try simp only [zpt]
  have B6:=Lib.hid (Blk.row (cs':=D') B5.out)
  have W6:=Lib.hid (below_setRow W5.out (show w.heap.size<=w.heap.size + 1 by omega) D'.toArray)
  generalize w5.setRow (w.heap.size + 1) D'.toArray=w6 at *
  refine wpAny_done (by kernel_rfl) ?_ _
  go_wp2_with fail
  exact bodyPost_ret (results_cell_row rfl _ _ (w.heap.size + 1) 27 D'.toArray (0,0) _ rfl B6.out Tryd.underlying27 rfl (by rw [IH.out]; simp)) rfl ⟨rfl,W6.out⟩
end Go.Proofs.YtajgjeialbgijaaDoor
