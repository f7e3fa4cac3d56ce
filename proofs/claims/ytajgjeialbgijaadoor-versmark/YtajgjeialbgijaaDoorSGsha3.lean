import Derived.Laws.MakeOwn
import Derived.KernelRfl
import Derived.Lib.SlBytesConst
import Derived.Test.YtajgjeialbgijaaDoorSGsha1
import Derived.Test.YtajgjeialbgijaaDoorSGsha2
namespace Go.Proofs.YtajgjeialbgijaaDoor
set_option linter.unusedVariables false
set_option linter.unusedSimpArgs false
set_option maxRecDepth 100000
open Go.RowKit
theorem xor_cell (a b:UInt8):bits .xor .u8 (a.toNat:Int) (b.toNat:Int)=((a ^^^ b).toNat:Int):=by
 rw [u8_xor_nat _ _ a.toNat_lt b.toNat_lt,UInt8.toNat_xor]
theorem mask_at (x:UInt8) (b:List UInt8) (k:Nat) (h:k < b.length):((Sha.mask x (b.take k)).map cellOf ++ (b.drop k).map cellOf)[k]?=some (.int .u8 ((b.getD k 0).toNat:Int)):=by
 rw [List.getElem?_append_right (by simp [Sha.mask]; omega),List.drop_eq_getElem_cons h]
 simp [Sha.mask,cellOf,List.getD_eq_getElem?_getD,List.getElem?_eq_getElem h,Nat.min_eq_left (Nat.le_of_lt h)]
theorem mask_set (x:UInt8) (b:List UInt8) (k:Nat) (h:k < b.length):((Sha.mask x (b.take k)).map cellOf ++ (b.drop k).map cellOf).set k (cellOf (b.getD k 0 ^^^ x))=(Sha.mask x (b.take (k + 1))).map cellOf ++ (b.drop (k + 1)).map cellOf:=by
 have e0:b.getD k 0=b[k]:=by simp [List.getD_eq_getElem?_getD,List.getElem?_eq_getElem h]
 rw [List.set_append_right _ _ (by simp [Sha.mask]; omega),List.drop_eq_getElem_cons h,show b.take (k + 1)=b.take k ++ [b[k]] from List.take_succ_eq_append_getElem h,e0]
 unfold Sha.mask
 simp only [List.map_append,List.length_map,List.length_take,Nat.min_eq_left (Nat.le_of_lt h),Nat.sub_self,List.set_cons_zero,List.map_cons,List.map_nil,List.append_assoc,List.cons_append,List.nil_append]
set_option maxRecDepth 100000 in
set_option maxHeartbeats 1000000 in
theorem masked_any {w:World} {b:List UInt8} (hg:Gl w) (hb:b.length=64) (x:UInt8) (bc:List Value) (hbc:bc=b.map cellOf) :
  Calls Tryd.prog 67 #[.agg bc.toArray,.int .u8 (x.toNat:Int)] w fun e w'=>∃ g,e = .returned (.pointer (some ⟨g,0,none⟩))/\w.heap.size<=g/\Holds w' g (Sha.mask x b)/\Below w.heap.size w w':=by
 have HG:=Lib.hid hg
 have hsz:=hg.size
 have HB:=Lib.hid hb
 have HBC:=Lib.hid hbc
 clear hg hb hbc
 go_enter Tryd.func67,Tryd.ntmps67
 go_wp2_with fail
 go_loopw [7] (fun i wr=>∃ k:Nat,k<=64/\i = .int .i64 k/\Hid (Blk wr w.heap.size 111 ((Sha.mask x (b.take k)).map cellOf ++ (b.drop k).map cellOf))/\Hid (Below w.heap.size w wr)) (fun i _=>64 - (intOf i).toNat)
 case atStart=>exact ⟨0,by omega,rfl,by unfold Hid; rw [HBC.out]; exact Blk.new w 111 _,(Below.refl _ _).alloc (Nat.le_refl _) _⟩
 case round =>
  obtain ⟨k,hk,rfl,BK,BW⟩:=hrel
  by_cases hlt:k < 64
  ·have c0:wr.cell? ⟨w.heap.size,k,none⟩=some (.int .u8 ((b.getD k 0).toNat:Int)):=by rw [BK.out.cell]; exact mask_at x b k (by rw [HB.out]; exact hlt)
   have f0:wr.frozen? ⟨w.heap.size,k,none⟩=false:=BK.out.frozen k
   have HN:Hid (Blk (wr.setCell ⟨w.heap.size,k,none⟩ (.int .u8 (bits .xor .u8 ((b.getD k 0).toNat:Int) (x.toNat:Int)))) w.heap.size 111 ((Sha.mask x (b.take (k + 1))).map cellOf ++ (b.drop (k + 1)).map cellOf)):=by
    have:=BK.out.set_ k (cellOf (b.getD k 0 ^^^ x))
    rw [mask_set x b k (by rw [HB.out]; exact hlt)] at this
    unfold Hid
    rw [xor_cell]
    exact this
   clear BK
   generalize b.getD k 0=y at *
   go_wp2_with fail
   go_roundw
   case rel=>exact ⟨k + 1,by omega,by go_num,HN,BW.out.setCell (Nat.le_refl _) _⟩
   case measure=>simp [intOf]; omega
  ·obtain rfl:k=64:=by omega
   have HB2:Hid (Blk wr w.heap.size 111 ((Sha.mask x b).map cellOf)):=by
    have:=BK.out
    rw [List.take_of_length_le (by rw [HB.out]; omega),List.drop_of_length_le (by rw [HB.out]; omega),List.map_nil,List.append_nil] at this
    exact this
   have HGr:=Lib.hid (HG.out.below BW.out HG.out.size)
   clear BK
   go_wp2_with fail
   refine (new_ex _).mono ?_
   rintro e w1 ⟨gs,rfl,hgs,hH1,hW1⟩
   have hlt0:=HB2.out.lt
   have HR:Hid (Rd w1 (some ⟨w.heap.size,0,none⟩) 64 64 (Sha.mask x b)) :=
    Rd.of_block (HB2.out.below hW1 hlt0) (by rw [Sha.mask_length,HB.out]) (Nat.le_refl _) (by unfold maxLen; omega) (fun j hj=>by
     have hj':j < (Sha.mask x b).length:=by rw [Sha.mask_length,HB.out]; exact hj
     simp [List.getD_eq_getElem?_getD,List.getElem?_eq_getElem hj'])
   have HG1:=Lib.hid (HGr.out.below hW1 HGr.out.size)
   have HH1:=Lib.hid hH1
   have W1:Hid (Below w.heap.size w w1):=BW.out.trans (hW1.mono (by omega))
   have hw1:=hW1.size
   clear hH1 hW1
   go_wp2_with fail
   refine (write_any HG1.out (by omega) HH1.out HR.out (fun _ ad had=>by injection had with had; subst had; simp; omega) (by rw [Sha.mask_length,HB.out]; simp)).mono ?_
   rintro e w2 ⟨rfl,R2,O2⟩
   have HH2:=Lib.hid R2.holds
   have W2:Hid (Below w.heap.size w w2):=below_of_only W1.out O2 (by omega) (by omega)
   clear R2 O2
   go_wp2_with fail
   go_ret
   exact ⟨gs,rfl,by omega,HH2.out,W2.out⟩
end Go.Proofs.YtajgjeialbgijaaDoor
namespace Go.Proofs.YtajgjeialbgijaaDoor
set_option linter.unusedVariables false
set_option linter.unusedSimpArgs false
set_option maxRecDepth 100000
open Go.RowKit
set_option maxRecDepth 100000 in
set_option maxHeartbeats 2000000 in
theorem ksum_any {w:World} {A:Option Addr} {n c gi go:Nat} {mi mo:List UInt8} {ps:List (List UInt8)} (hg:Gl w) (hi:Holds w gi mi) (ho:Holds w go mo) (hr:RdP w A n ps) (hn:n<=1000000) (hb:mi.length + ps.flatten.length<=549755813888) (hbo:mo.length<=549755813000) :
  Calls Tryd.prog 51 #[.agg #[.pointer (some ⟨gi,0,none⟩),.pointer (some ⟨go,0,none⟩)],.slice A n c] w fun e w'=>∃ D,e = .returned (.agg D.toArray)/\Summed (mo ++ Sha.sum (mi ++ ps.flatten)) D/\Below w.heap.size w w':=by
 have HG:=Lib.hid hg
 have hsz:=hg.size
 have HR:=Lib.hid hr
 have HHi:=Lib.hid hi
 have HHo:=Lib.hid ho
 have hgi:=hi.lt
 have hgo:=ho.lt
 clear hg hr hi ho
 go_enter Tryd.func51,Tryd.ntmps51
 go_wp2_with fail
 refine wp_region_any (by kernel_rfl) ?_
 change wpAny _ _ _ _ _ _ _ (World.drew _)
 obtain ⟨w2,hw2⟩:∃ w2,w2=((w.alloc (Obj.cells #[.pointer (some ⟨gi,0,none⟩),.pointer (some ⟨go,0,none⟩)] 97)).alloc (Obj.cells (List.replicate 32 (.int .u8 0)).toArray 27)).drew:=⟨_,rfl⟩
 have hs:w.heap.size + 2<=w2.heap.size:=by rw [hw2]; show _<=(World.alloc _ _).heap.size; simp
 have HW:Hid (Below w.heap.size w w2):=by unfold Hid; rw [hw2]; exact (((Below.refl _ _).alloc (Nat.le_refl _) _).alloc (by simp) _).drew
 have HK:Hid (Blk w2 w.heap.size 97 [.pointer (some ⟨gi,0,none⟩),.pointer (some ⟨go,0,none⟩)]):=by unfold Hid; rw [hw2]; exact (Blk.alloc (Blk.new w 97 [.pointer (some ⟨gi,0,none⟩),.pointer (some ⟨go,0,none⟩)]) _).drew
 have HZ:Hid (Blk w2 (w.heap.size + 1) 27 (List.replicate 32 (.int .u8 0))):=by unfold Hid; rw [hw2]; exact (Blk.at_new _ _ 27 _ _ rfl (by simp)).drew
 have cI:w2.cell? ⟨w.heap.size,0,none⟩=some (.pointer (some ⟨gi,0,none⟩)):=HK.out.cell 0
 have cO:w2.cell? ⟨w.heap.size,1,none⟩=some (.pointer (some ⟨go,0,none⟩)):=HK.out.cell 1
 replace HHi:Hid (Holds w2 gi mi):=HHi.out.keep (HW.out.block gi hgi)
 replace HHo:Hid (Holds w2 go mo):=HHo.out.keep (HW.out.block go hgo)
 clear HK
 change wpAny _ _ _ _ _ _ _ (((w.alloc (Obj.cells #[.pointer (some ⟨gi,0,none⟩),.pointer (some ⟨go,0,none⟩)] 97)).alloc (Obj.cells (List.replicate 32 (.int .u8 0)).toArray 27)).drew)
 rw [<- hw2]
 clear hw2
 refine wpAny_take (i:=0) (oi:=?oi1) (v:=.pointer (some ⟨w.heap.size,0,none⟩)) ?hi1 (by kernel_rfl) (by kernel_rfl) (by kernel_rfl) ?hQ1 ?hy1 ?rest1
 case hi1=>simp only [zge]; rfl
 case hQ1=>exact fun _ _ _ h=>h
 case hy1=>exact Or.inl ⟨by rfl,by intro w; go_simp⟩
 try simp only [zpt]
 refine wpAny_take (i:=3) (oi:=?oi2) (v:=.pointer (some ⟨w.heap.size,1,none⟩)) ?hi2 (by kernel_rfl) (by kernel_rfl) (by kernel_rfl) ?hQ2 ?hy2 ?rest2
 case hi2=>simp only [zge]; rfl
 case hQ2=>exact fun _ _ _ h=>h
 case hy2=>exact Or.inl ⟨by rfl,by intro w; go_simp⟩
 try simp only [zpt]
 refine wpAny_ready (rs:=[1,4]) (by kernel_rfl) (by simp) ?_
 refine AllReady.cons (o:=?o3) ?ho3 (fun K hK=>?_) ?more3
 case ho3=>simp only [zge]; rfl
 ·go_simp
  refine hK _ _ ?_
  clear hK K
  try simp only [zpt]
  refine wpAny_ready (rs:=[2,4]) (by kernel_rfl) (by simp) ?_
  refine AllReady.cons (o:=?o4) ?ho4 (fun K hK=>?_) ?more4
  case ho4=>simp only [zge]; rfl
  ·go_simp
   refine (copy_ex HHi.out).mono ?_
   rintro e w3 ⟨g1,rfl,hg1,hH,hX⟩
   have HC1:Hid (Holds w3 g1 mi):=hH
   have hlt1:g1 < w3.heap.size:=hH.lt
   have hgg1:w.heap.size + 2<=g1:=by omega
   have cI:w3.cell? ⟨w.heap.size,0,none⟩=some (.pointer (some ⟨gi,0,none⟩)):=(hX.cell (p:=⟨w.heap.size,0,none⟩) (by show w.heap.size < _; omega)).trans cI
   have cO:w3.cell? ⟨w.heap.size,1,none⟩=some (.pointer (some ⟨go,0,none⟩)):=(hX.cell (p:=⟨w.heap.size,1,none⟩) (by show w.heap.size < _; omega)).trans cO
   replace HHi:Hid (Holds w3 gi mi):=HHi.out.keep (hX.block gi (by omega))
   replace HHo:Hid (Holds w3 go mo):=HHo.out.keep (hX.block go (by omega))
   replace HW:Hid (Below w.heap.size w w3):=HW.out.trans (hX.mono (by omega))
   replace HZ:Hid (Blk w3 (w.heap.size + 1) 27 (List.replicate 32 (.int .u8 0))):=HZ.out.below hX (by omega)
   have hs:w.heap.size + 2<=w3.heap.size:=Nat.le_trans hs hX.size
   clear hH hX hg1
   refine hK _ _ ?_
   clear hK K
   try simp only [zpt]
   refine wpAny_ready (rs:=[4]) (by kernel_rfl) (by simp) ?_
   refine AllReady.cons (o:=?o5) ?ho5 (fun K hK=>?_) AllReady.nil
   case ho5=>simp only [zge]; rfl
   go_simp
   refine hK _ _ ?_
   clear hK K
   try simp only [zpt]
   refine wpAny_ready (rs:=[5]) (by kernel_rfl) (by simp) ?_
   refine AllReady.cons (o:=?o6) ?ho6 (fun K hK=>?_) AllReady.nil
   case ho6=>simp only [zge]; rfl
   go_simp
   refine (copy_ex HHo.out).mono ?_
   rintro e w4 ⟨g2,rfl,hg2,hH,hX⟩
   have HC2:Hid (Holds w4 g2 mo):=hH
   have hlt2:g2 < w4.heap.size:=hH.lt
   replace HC1:Hid (Holds w4 g1 mi):=HC1.out.keep (hX.block g1 hlt1)
   have hg12:g1 < g2:=by omega
   have cI:w4.cell? ⟨w.heap.size,0,none⟩=some (.pointer (some ⟨gi,0,none⟩)):=(hX.cell (p:=⟨w.heap.size,0,none⟩) (by show w.heap.size < _; omega)).trans cI
   have cO:w4.cell? ⟨w.heap.size,1,none⟩=some (.pointer (some ⟨go,0,none⟩)):=(hX.cell (p:=⟨w.heap.size,1,none⟩) (by show w.heap.size < _; omega)).trans cO
   replace HHi:Hid (Holds w4 gi mi):=HHi.out.keep (hX.block gi (by omega))
   replace HHo:Hid (Holds w4 go mo):=HHo.out.keep (hX.block go (by omega))
   replace HW:Hid (Below w.heap.size w w4):=HW.out.trans (hX.mono (by omega))
   replace HZ:Hid (Blk w4 (w.heap.size + 1) 27 (List.replicate 32 (.int .u8 0))):=HZ.out.below hX (by omega)
   have hs:w.heap.size + 2<=w4.heap.size:=Nat.le_trans hs hX.size
   clear hH hX hg2 hlt1
   refine hK _ _ ?_
   clear hK K
   try simp only [zpt]
   refine wpAny_ready (rs:=[6]) (by kernel_rfl) (by simp) ?_
   refine AllReady.cons (o:=?o7) ?ho7 (fun K hK=>?_) AllReady.nil
   case ho7=>simp only [zge]; rfl
   go_simp
   refine hK _ _ ?_
   clear hK K
   try simp only [zpt]
   refine wpAny_ready (rs:=[7]) (by kernel_rfl) (by simp) ?_
   refine AllReady.cons (o:=?o8) ?ho8 (fun K hK=>?_) AllReady.nil
   case ho8=>simp only [zge]; rfl
   go_simp
   refine hK _ _ ?_
   clear hK K
   try simp only [zpt]
   refine wpAny_done (by kernel_rfl) ?_ _
   clear cI cO HHi HHo
   have HGr:=Lib.hid (HG.out.below HW.out HG.out.size)
   have HP:Hid (RdP w4 A n ps):=HR.out.below HW.out
   go_wp2_with fail
   go_loopw [18] (fun i wr=>∃ k:Nat,k<=n/\i = .int .i64 k/\Hid (Holds wr g1 (mi ++ (ps.take k).flatten))/\Hid (w4.grownBy wr (some g1))) (fun i _=>n - (intOf i).toNat)
   case atStart=>exact ⟨0,by omega,rfl,by unfold Hid; rw [List.take_zero,List.flatten_nil,List.append_nil]; exact HC1,only_refl _ _⟩
   case round =>
    clear HC1
    obtain ⟨k,hk,rfl,HH,HO⟩:=hrel
    have HGk:=Lib.hid (HGr.out.only HO.out (by omega))
    by_cases hlt:k < n
    ·obtain ⟨b,off,A',n',c',rfl,hblt,hcell,hrd⟩:=HR.out.at_ k hlt
     have c0:wr.cell? ⟨b,off + k,none⟩=some (.slice A' n' c'):=by
      have h1:=HW.out.cell (p:=⟨b,off + k,none⟩) hblt
      have h2:wr.heap[b]?=w4.heap[b]?:=HO.out.block b (by omega) (by simp; omega)
      rw [World.cell?_of_block (a:=⟨b,off + k,none⟩) h2,h1,hcell]
     have HRd:Hid (Rd wr A' n' c' (ps.getD k [])):=(hrd.below HW.out).grown HO.out (hrd.apart (by omega))
     have HAp:=Lib.hid (hrd.apart (g:=g1) (by omega))
     have HF:=Lib.hid (flat_take ps k (by rw [HR.out.len]; exact hlt))
     have hfl:=flat_len_take ps (k + 1)
     rw [HF.out,List.length_append] at hfl
     have HFl:=Lib.hid hfl
     clear hfl hcell hrd
     go_wp2_with fail
     refine (write_any HGk.out (by omega) HH.out HRd.out HAp.out (by have:=HFl.out; rw [List.length_append]; omega)).mono ?_
     rintro e w5 ⟨rfl,R2,O2⟩
     have HH2:Hid (Holds w5 g1 (mi ++ (ps.take (k + 1)).flatten)):=by unfold Hid; rw [HF.out,<- List.append_assoc]; exact R2.holds
     have HO2:=Lib.hid (only_trans HO.out O2)
     clear R2 O2
     go_wp2_with fail
     go_roundw
     case rel=>exact ⟨k + 1,by omega,by go_num,HH2,HO2⟩
     case measure=>simp [intOf]; omega
    ·have HH2:Hid (Holds wr g1 (mi ++ ps.flatten)):=by
      have:=HH.out
      rw [List.take_of_length_le (by rw [HR.out.len]; omega)] at this
      exact this
     have hwr:=HO.out.size
     have HZr:Hid (Blk wr (w.heap.size + 1) 27 (List.replicate 32 (.int .u8 0))):=(HO.out.block _ HZ.out.lt (by simp; omega)).trans HZ.out
     have Wr:Hid (Below w.heap.size w wr):=below_of_only HW.out HO.out (by omega) (by omega)
     have HC2r:Hid (Holds wr g2 mo):=HC2.out.keep (HO.out.block g2 hlt2 (by simp; omega))
     clear HH HZ HC2
     go_wp2_with fail
     refine (sum_ex HGk.out HH2.out (by rw [List.length_append]; exact hb)).mono ?_
     rintro e w5 ⟨D,rfl,hS,hW2⟩
     have HS:=Lib.hid hS
     have HI:=Lib.hid hS.info
     have HL:Hid ((List.replicate 32 (Value.int .u8 0)).length=D.length):=by unfold Hid; rw [hS.len]; rfl
     have H1:=Lib.hid hS.one
     have hw5:=hW2.size
     have HZ5:Hid (Blk w5 (w.heap.size + 1) 27 (List.replicate 32 (.int .u8 0))):=HZr.out.below hW2 HZr.out.lt
     have W5:Hid (Below w.heap.size w w5):=Wr.out.trans (hW2.mono (by omega))
     have HC5:Hid (Holds w5 g2 mo):=HC2r.out.keep (hW2.block g2 (by omega))
     have HG5:=Lib.hid (HGk.out.below hW2 HGk.out.size)
     clear hS hW2 HZr Wr HC2r HH2
     go_upto_region 8 with (first
      | ((with_reducible refine storeGen_law rfl 27 (.tmp 9) (.tmp 27) rfl w5.heap.size rfl D rfl 27 (List.replicate 32 (.int .u8 0)) HI.out HL.out H1.out w5.heap.size w5 ?_ ?_ (Nat.le_refl _) ?_)
         ·exact Blk.at_new _ _ 27 _ _ (by rfl) rfl
         ·exact (Below.refl _ _).alloc (Nat.le_refl _) _
         intro w6 B6 W6))
     have hw6:=W6.out.size
     have HR6:Hid (Rd w6 (some ⟨w5.heap.size,0,none⟩) 32 32 (Sha.sum (mi ++ ps.flatten))) :=
      Rd.of_block B6.out (Sha.sum_length _) (Nat.le_refl _) (by unfold maxLen; omega) (fun j hj=>by
       have hj':j < (Sha.sum (mi ++ ps.flatten)).length:=by rw [Sha.sum_length]; exact hj
       rw [HS.out]
       simp [List.getD_eq_getElem?_getD,List.getElem?_eq_getElem hj'])
     have HZ6:Hid (Blk w6 (w.heap.size + 1) 27 (List.replicate 32 (.int .u8 0))):=HZ5.out.below W6.out (by omega)
     have WW6:Hid (Below w.heap.size w w6):=W5.out.trans (W6.out.mono (by omega))
     have HC6:Hid (Holds w6 g2 mo):=HC5.out.keep (W6.out.block g2 (by omega))
     have HG6:=Lib.hid (HG5.out.below W6.out HG5.out.size)
     clear HZ5 W5 HC5 HG5 B6 W6
     go_wp2_with fail
     refine (write_any HG6.out (by omega) HC6.out HR6.out (fun _ ad had=>by injection had with had; subst had; simp; omega) (by rw [Sha.sum_length]; omega)).mono ?_
     rintro e w7 ⟨rfl,R7,O7⟩
     have HH7:=Lib.hid R7.holds
     have hw7:=O7.size
     have HZ7:Hid (Blk w7 (w.heap.size + 1) 27 (List.replicate 32 (.int .u8 0))):=(O7.block _ HZ6.out.lt (by simp; omega)).trans HZ6.out
     have W7:Hid (Below w.heap.size w w7):=below_of_only WW6.out O7 (by omega) (by omega)
     have HG7:=Lib.hid (HG6.out.only O7 (by omega))
     clear R7 O7 HZ6 WW6 HC6 HR6
     go_wp2_with fail
     refine (sum_ex HG7.out HH7.out (by rw [List.length_append,Sha.sum_length]; omega)).mono ?_
     rintro e w8 ⟨D2,rfl,hS2,hW8⟩
     have HS2:=Lib.hid hS2
     have HI2:=Lib.hid hS2.info
     have HL2:Hid ((List.replicate 32 (Value.int .u8 0)).length=D2.length):=by unfold Hid; rw [hS2.len]; rfl
     have H12:=Lib.hid hS2.one
     have HZ8:Hid (Blk w8 (w.heap.size + 1) 27 (List.replicate 32 (.int .u8 0))):=HZ7.out.below hW8 HZ7.out.lt
     have W8:Hid (Below w.heap.size w w8):=W7.out.trans (hW8.mono (by omega))
     clear hS2 hW8 HZ7 W7 HH7
     go_wp2_with (first
      | ((with_reducible refine storeGen_law rfl 27 (.tmp 4) (.tmp 32) rfl (w.heap.size + 1) rfl D2 rfl 27 (List.replicate 32 (.int .u8 0)) HI2.out HL2.out H12.out w.heap.size w HZ8.out W8.out (Nat.le_succ _) ?_); intro w9 B9 W9))
     exact bodyPost_ret (results_cell_row rfl _ _ (w.heap.size + 1) 27 D2.toArray (0,0) _ rfl B9.out Tryd.underlying27 rfl (by rw [HI2.out]; simp)) rfl ⟨D2,rfl,HS2.out,W9.out⟩
  case more4 =>
   refine AllReady.cons (o:=?o9) ?ho9 (fun K hK=>?_) AllReady.nil
   case ho9=>simp only [zge]; rfl
   go_simp
   refine hK _ _ ?_
   clear hK K
   try simp only [zpt]
   refine wpAny_ready (rs:=[2]) (by kernel_rfl) (by simp) ?_
   refine AllReady.cons (o:=?o10) ?ho10 (fun K hK=>?_) AllReady.nil
   case ho10=>simp only [zge]; rfl
   go_simp
   refine (copy_ex HHi.out).mono ?_
   rintro e w3 ⟨g1,rfl,hg1,hH,hX⟩
   have HC1:Hid (Holds w3 g1 mi):=hH
   have hlt1:g1 < w3.heap.size:=hH.lt
   have hgg1:w.heap.size + 2<=g1:=by omega
   have cI:w3.cell? ⟨w.heap.size,0,none⟩=some (.pointer (some ⟨gi,0,none⟩)):=(hX.cell (p:=⟨w.heap.size,0,none⟩) (by show w.heap.size < _; omega)).trans cI
   have cO:w3.cell? ⟨w.heap.size,1,none⟩=some (.pointer (some ⟨go,0,none⟩)):=(hX.cell (p:=⟨w.heap.size,1,none⟩) (by show w.heap.size < _; omega)).trans cO
   replace HHi:Hid (Holds w3 gi mi):=HHi.out.keep (hX.block gi (by omega))
   replace HHo:Hid (Holds w3 go mo):=HHo.out.keep (hX.block go (by omega))
   replace HW:Hid (Below w.heap.size w w3):=HW.out.trans (hX.mono (by omega))
   replace HZ:Hid (Blk w3 (w.heap.size + 1) 27 (List.replicate 32 (.int .u8 0))):=HZ.out.below hX (by omega)
   have hs:w.heap.size + 2<=w3.heap.size:=Nat.le_trans hs hX.size
   clear hH hX hg1
   refine hK _ _ ?_
   clear hK K
   try simp only [zpt]
   refine wpAny_ready (rs:=[5]) (by kernel_rfl) (by simp) ?_
   refine AllReady.cons (o:=?o11) ?ho11 (fun K hK=>?_) AllReady.nil
   case ho11=>simp only [zge]; rfl
   go_simp
   refine (copy_ex HHo.out).mono ?_
   rintro e w4 ⟨g2,rfl,hg2,hH,hX⟩
   have HC2:Hid (Holds w4 g2 mo):=hH
   have hlt2:g2 < w4.heap.size:=hH.lt
   replace HC1:Hid (Holds w4 g1 mi):=HC1.out.keep (hX.block g1 hlt1)
   have hg12:g1 < g2:=by omega
   have cI:w4.cell? ⟨w.heap.size,0,none⟩=some (.pointer (some ⟨gi,0,none⟩)):=(hX.cell (p:=⟨w.heap.size,0,none⟩) (by show w.heap.size < _; omega)).trans cI
   have cO:w4.cell? ⟨w.heap.size,1,none⟩=some (.pointer (some ⟨go,0,none⟩)):=(hX.cell (p:=⟨w.heap.size,1,none⟩) (by show w.heap.size < _; omega)).trans cO
   replace HHi:Hid (Holds w4 gi mi):=HHi.out.keep (hX.block gi (by omega))
   replace HHo:Hid (Holds w4 go mo):=HHo.out.keep (hX.block go (by omega))
   replace HW:Hid (Below w.heap.size w w4):=HW.out.trans (hX.mono (by omega))
   replace HZ:Hid (Blk w4 (w.heap.size + 1) 27 (List.replicate 32 (.int .u8 0))):=HZ.out.below hX (by omega)
   have hs:w.heap.size + 2<=w4.heap.size:=Nat.le_trans hs hX.size
   clear hH hX hg2 hlt1
   refine hK _ _ ?_
   clear hK K
   try simp only [zpt]
   refine wpAny_ready (rs:=[6]) (by kernel_rfl) (by simp) ?_
   refine AllReady.cons (o:=?o12) ?ho12 (fun K hK=>?_) AllReady.nil
   case ho12=>simp only [zge]; rfl
   go_simp
   refine hK _ _ ?_
   clear hK K
   try simp only [zpt]
   refine wpAny_ready (rs:=[7]) (by kernel_rfl) (by simp) ?_
   refine AllReady.cons (o:=?o13) ?ho13 (fun K hK=>?_) AllReady.nil
   case ho13=>simp only [zge]; rfl
   go_simp
   refine hK _ _ ?_
   clear hK K
   try simp only [zpt]
   refine wpAny_done (by kernel_rfl) ?_ _
   clear cI cO HHi HHo
   have HGr:=Lib.hid (HG.out.below HW.out HG.out.size)
   have HP:Hid (RdP w4 A n ps):=HR.out.below HW.out
   go_wp2_with fail
   go_loopw [18] (fun i wr=>∃ k:Nat,k<=n/\i = .int .i64 k/\Hid (Holds wr g1 (mi ++ (ps.take k).flatten))/\Hid (w4.grownBy wr (some g1))) (fun i _=>n - (intOf i).toNat)
   case atStart=>exact ⟨0,by omega,rfl,by unfold Hid; rw [List.take_zero,List.flatten_nil,List.append_nil]; exact HC1,only_refl _ _⟩
   case round =>
    clear HC1
    obtain ⟨k,hk,rfl,HH,HO⟩:=hrel
    have HGk:=Lib.hid (HGr.out.only HO.out (by omega))
    by_cases hlt:k < n
    ·obtain ⟨b,off,A',n',c',rfl,hblt,hcell,hrd⟩:=HR.out.at_ k hlt
     have c0:wr.cell? ⟨b,off + k,none⟩=some (.slice A' n' c'):=by
      have h1:=HW.out.cell (p:=⟨b,off + k,none⟩) hblt
      have h2:wr.heap[b]?=w4.heap[b]?:=HO.out.block b (by omega) (by simp; omega)
      rw [World.cell?_of_block (a:=⟨b,off + k,none⟩) h2,h1,hcell]
     have HRd:Hid (Rd wr A' n' c' (ps.getD k [])):=(hrd.below HW.out).grown HO.out (hrd.apart (by omega))
     have HAp:=Lib.hid (hrd.apart (g:=g1) (by omega))
     have HF:=Lib.hid (flat_take ps k (by rw [HR.out.len]; exact hlt))
     have hfl:=flat_len_take ps (k + 1)
     rw [HF.out,List.length_append] at hfl
     have HFl:=Lib.hid hfl
     clear hfl hcell hrd
     go_wp2_with fail
     refine (write_any HGk.out (by omega) HH.out HRd.out HAp.out (by have:=HFl.out; rw [List.length_append]; omega)).mono ?_
     rintro e w5 ⟨rfl,R2,O2⟩
     have HH2:Hid (Holds w5 g1 (mi ++ (ps.take (k + 1)).flatten)):=by unfold Hid; rw [HF.out,<- List.append_assoc]; exact R2.holds
     have HO2:=Lib.hid (only_trans HO.out O2)
     clear R2 O2
     go_wp2_with fail
     go_roundw
     case rel=>exact ⟨k + 1,by omega,by go_num,HH2,HO2⟩
     case measure=>simp [intOf]; omega
    ·have HH2:Hid (Holds wr g1 (mi ++ ps.flatten)):=by
      have:=HH.out
      rw [List.take_of_length_le (by rw [HR.out.len]; omega)] at this
      exact this
     have hwr:=HO.out.size
     have HZr:Hid (Blk wr (w.heap.size + 1) 27 (List.replicate 32 (.int .u8 0))):=(HO.out.block _ HZ.out.lt (by simp; omega)).trans HZ.out
     have Wr:Hid (Below w.heap.size w wr):=below_of_only HW.out HO.out (by omega) (by omega)
     have HC2r:Hid (Holds wr g2 mo):=HC2.out.keep (HO.out.block g2 hlt2 (by simp; omega))
     clear HH HZ HC2
     go_wp2_with fail
     refine (sum_ex HGk.out HH2.out (by rw [List.length_append]; exact hb)).mono ?_
     rintro e w5 ⟨D,rfl,hS,hW2⟩
     have HS:=Lib.hid hS
     have HI:=Lib.hid hS.info
     have HL:Hid ((List.replicate 32 (Value.int .u8 0)).length=D.length):=by unfold Hid; rw [hS.len]; rfl
     have H1:=Lib.hid hS.one
     have hw5:=hW2.size
     have HZ5:Hid (Blk w5 (w.heap.size + 1) 27 (List.replicate 32 (.int .u8 0))):=HZr.out.below hW2 HZr.out.lt
     have W5:Hid (Below w.heap.size w w5):=Wr.out.trans (hW2.mono (by omega))
     have HC5:Hid (Holds w5 g2 mo):=HC2r.out.keep (hW2.block g2 (by omega))
     have HG5:=Lib.hid (HGk.out.below hW2 HGk.out.size)
     clear hS hW2 HZr Wr HC2r HH2
     go_upto_region 8 with (first
      | ((with_reducible refine storeGen_law rfl 27 (.tmp 9) (.tmp 27) rfl w5.heap.size rfl D rfl 27 (List.replicate 32 (.int .u8 0)) HI.out HL.out H1.out w5.heap.size w5 ?_ ?_ (Nat.le_refl _) ?_)
         ·exact Blk.at_new _ _ 27 _ _ (by rfl) rfl
         ·exact (Below.refl _ _).alloc (Nat.le_refl _) _
         intro w6 B6 W6))
     have hw6:=W6.out.size
     have HR6:Hid (Rd w6 (some ⟨w5.heap.size,0,none⟩) 32 32 (Sha.sum (mi ++ ps.flatten))) :=
      Rd.of_block B6.out (Sha.sum_length _) (Nat.le_refl _) (by unfold maxLen; omega) (fun j hj=>by
       have hj':j < (Sha.sum (mi ++ ps.flatten)).length:=by rw [Sha.sum_length]; exact hj
       rw [HS.out]
       simp [List.getD_eq_getElem?_getD,List.getElem?_eq_getElem hj'])
     have HZ6:Hid (Blk w6 (w.heap.size + 1) 27 (List.replicate 32 (.int .u8 0))):=HZ5.out.below W6.out (by omega)
     have WW6:Hid (Below w.heap.size w w6):=W5.out.trans (W6.out.mono (by omega))
     have HC6:Hid (Holds w6 g2 mo):=HC5.out.keep (W6.out.block g2 (by omega))
     have HG6:=Lib.hid (HG5.out.below W6.out HG5.out.size)
     clear HZ5 W5 HC5 HG5 B6 W6
     go_wp2_with fail
     refine (write_any HG6.out (by omega) HC6.out HR6.out (fun _ ad had=>by injection had with had; subst had; simp; omega) (by rw [Sha.sum_length]; omega)).mono ?_
     rintro e w7 ⟨rfl,R7,O7⟩
     have HH7:=Lib.hid R7.holds
     have hw7:=O7.size
     have HZ7:Hid (Blk w7 (w.heap.size + 1) 27 (List.replicate 32 (.int .u8 0))):=(O7.block _ HZ6.out.lt (by simp; omega)).trans HZ6.out
     have W7:Hid (Below w.heap.size w w7):=below_of_only WW6.out O7 (by omega) (by omega)
     have HG7:=Lib.hid (HG6.out.only O7 (by omega))
     clear R7 O7 HZ6 WW6 HC6 HR6
     go_wp2_with fail
     refine (sum_ex HG7.out HH7.out (by rw [List.length_append,Sha.sum_length]; omega)).mono ?_
     rintro e w8 ⟨D2,rfl,hS2,hW8⟩
     have HS2:=Lib.hid hS2
     have HI2:=Lib.hid hS2.info
     have HL2:Hid ((List.replicate 32 (Value.int .u8 0)).length=D2.length):=by unfold Hid; rw [hS2.len]; rfl
     have H12:=Lib.hid hS2.one
     have HZ8:Hid (Blk w8 (w.heap.size + 1) 27 (List.replicate 32 (.int .u8 0))):=HZ7.out.below hW8 HZ7.out.lt
     have W8:Hid (Below w.heap.size w w8):=W7.out.trans (hW8.mono (by omega))
     clear hS2 hW8 HZ7 W7 HH7
     go_wp2_with (first
      | ((with_reducible refine storeGen_law rfl 27 (.tmp 4) (.tmp 32) rfl (w.heap.size + 1) rfl D2 rfl 27 (List.replicate 32 (.int .u8 0)) HI2.out HL2.out H12.out w.heap.size w HZ8.out W8.out (Nat.le_succ _) ?_); intro w9 B9 W9))
     exact bodyPost_ret (results_cell_row rfl _ _ (w.heap.size + 1) 27 D2.toArray (0,0) _ rfl B9.out Tryd.underlying27 rfl (by rw [HI2.out]; simp)) rfl ⟨D2,rfl,HS2.out,W9.out⟩
 case more3 =>
  refine AllReady.cons (o:=?o14) ?ho14 (fun K hK=>?_) AllReady.nil
  case ho14=>simp only [zge]; rfl
  go_simp
  refine hK _ _ ?_
  clear hK K
  try simp only [zpt]
  refine wpAny_ready (rs:=[1]) (by kernel_rfl) (by simp) ?_
  refine AllReady.cons (o:=?o15) ?ho15 (fun K hK=>?_) AllReady.nil
  case ho15=>simp only [zge]; rfl
  go_simp
  refine hK _ _ ?_
  clear hK K
  try simp only [zpt]
  refine wpAny_ready (rs:=[2]) (by kernel_rfl) (by simp) ?_
  refine AllReady.cons (o:=?o16) ?ho16 (fun K hK=>?_) AllReady.nil
  case ho16=>simp only [zge]; rfl
  go_simp
  refine (copy_ex HHi.out).mono ?_
  rintro e w3 ⟨g1,rfl,hg1,hH,hX⟩
  have HC1:Hid (Holds w3 g1 mi):=hH
  have hlt1:g1 < w3.heap.size:=hH.lt
  have hgg1:w.heap.size + 2<=g1:=by omega
  have cI:w3.cell? ⟨w.heap.size,0,none⟩=some (.pointer (some ⟨gi,0,none⟩)):=(hX.cell (p:=⟨w.heap.size,0,none⟩) (by show w.heap.size < _; omega)).trans cI
  have cO:w3.cell? ⟨w.heap.size,1,none⟩=some (.pointer (some ⟨go,0,none⟩)):=(hX.cell (p:=⟨w.heap.size,1,none⟩) (by show w.heap.size < _; omega)).trans cO
  replace HHi:Hid (Holds w3 gi mi):=HHi.out.keep (hX.block gi (by omega))
  replace HHo:Hid (Holds w3 go mo):=HHo.out.keep (hX.block go (by omega))
  replace HW:Hid (Below w.heap.size w w3):=HW.out.trans (hX.mono (by omega))
  replace HZ:Hid (Blk w3 (w.heap.size + 1) 27 (List.replicate 32 (.int .u8 0))):=HZ.out.below hX (by omega)
  have hs:w.heap.size + 2<=w3.heap.size:=Nat.le_trans hs hX.size
  clear hH hX hg1
  refine hK _ _ ?_
  clear hK K
  try simp only [zpt]
  refine wpAny_ready (rs:=[5]) (by kernel_rfl) (by simp) ?_
  refine AllReady.cons (o:=?o17) ?ho17 (fun K hK=>?_) AllReady.nil
  case ho17=>simp only [zge]; rfl
  go_simp
  refine (copy_ex HHo.out).mono ?_
  rintro e w4 ⟨g2,rfl,hg2,hH,hX⟩
  have HC2:Hid (Holds w4 g2 mo):=hH
  have hlt2:g2 < w4.heap.size:=hH.lt
  replace HC1:Hid (Holds w4 g1 mi):=HC1.out.keep (hX.block g1 hlt1)
  have hg12:g1 < g2:=by omega
  have cI:w4.cell? ⟨w.heap.size,0,none⟩=some (.pointer (some ⟨gi,0,none⟩)):=(hX.cell (p:=⟨w.heap.size,0,none⟩) (by show w.heap.size < _; omega)).trans cI
  have cO:w4.cell? ⟨w.heap.size,1,none⟩=some (.pointer (some ⟨go,0,none⟩)):=(hX.cell (p:=⟨w.heap.size,1,none⟩) (by show w.heap.size < _; omega)).trans cO
  replace HHi:Hid (Holds w4 gi mi):=HHi.out.keep (hX.block gi (by omega))
  replace HHo:Hid (Holds w4 go mo):=HHo.out.keep (hX.block go (by omega))
  replace HW:Hid (Below w.heap.size w w4):=HW.out.trans (hX.mono (by omega))
  replace HZ:Hid (Blk w4 (w.heap.size + 1) 27 (List.replicate 32 (.int .u8 0))):=HZ.out.below hX (by omega)
  have hs:w.heap.size + 2<=w4.heap.size:=Nat.le_trans hs hX.size
  clear hH hX hg2 hlt1
  refine hK _ _ ?_
  clear hK K
  try simp only [zpt]
  refine wpAny_ready (rs:=[6]) (by kernel_rfl) (by simp) ?_
  refine AllReady.cons (o:=?o18) ?ho18 (fun K hK=>?_) AllReady.nil
  case ho18=>simp only [zge]; rfl
  go_simp
  refine hK _ _ ?_
  clear hK K
  try simp only [zpt]
  refine wpAny_ready (rs:=[7]) (by kernel_rfl) (by simp) ?_
  refine AllReady.cons (o:=?o19) ?ho19 (fun K hK=>?_) AllReady.nil
  case ho19=>simp only [zge]; rfl
  go_simp
  refine hK _ _ ?_
  clear hK K
  try simp only [zpt]
  refine wpAny_done (by kernel_rfl) ?_ _
  clear cI cO HHi HHo
  have HGr:=Lib.hid (HG.out.below HW.out HG.out.size)
  have HP:Hid (RdP w4 A n ps):=HR.out.below HW.out
  go_wp2_with fail
  go_loopw [18] (fun i wr=>∃ k:Nat,k<=n/\i = .int .i64 k/\Hid (Holds wr g1 (mi ++ (ps.take k).flatten))/\Hid (w4.grownBy wr (some g1))) (fun i _=>n - (intOf i).toNat)
  case atStart=>exact ⟨0,by omega,rfl,by unfold Hid; rw [List.take_zero,List.flatten_nil,List.append_nil]; exact HC1,only_refl _ _⟩
  case round =>
   clear HC1
   obtain ⟨k,hk,rfl,HH,HO⟩:=hrel
   have HGk:=Lib.hid (HGr.out.only HO.out (by omega))
   by_cases hlt:k < n
   ·obtain ⟨b,off,A',n',c',rfl,hblt,hcell,hrd⟩:=HR.out.at_ k hlt
    have c0:wr.cell? ⟨b,off + k,none⟩=some (.slice A' n' c'):=by
     have h1:=HW.out.cell (p:=⟨b,off + k,none⟩) hblt
     have h2:wr.heap[b]?=w4.heap[b]?:=HO.out.block b (by omega) (by simp; omega)
     rw [World.cell?_of_block (a:=⟨b,off + k,none⟩) h2,h1,hcell]
    have HRd:Hid (Rd wr A' n' c' (ps.getD k [])):=(hrd.below HW.out).grown HO.out (hrd.apart (by omega))
    have HAp:=Lib.hid (hrd.apart (g:=g1) (by omega))
    have HF:=Lib.hid (flat_take ps k (by rw [HR.out.len]; exact hlt))
    have hfl:=flat_len_take ps (k + 1)
    rw [HF.out,List.length_append] at hfl
    have HFl:=Lib.hid hfl
    clear hfl hcell hrd
    go_wp2_with fail
    refine (write_any HGk.out (by omega) HH.out HRd.out HAp.out (by have:=HFl.out; rw [List.length_append]; omega)).mono ?_
    rintro e w5 ⟨rfl,R2,O2⟩
    have HH2:Hid (Holds w5 g1 (mi ++ (ps.take (k + 1)).flatten)):=by unfold Hid; rw [HF.out,<- List.append_assoc]; exact R2.holds
    have HO2:=Lib.hid (only_trans HO.out O2)
    clear R2 O2
    go_wp2_with fail
    go_roundw
    case rel=>exact ⟨k + 1,by omega,by go_num,HH2,HO2⟩
    case measure=>simp [intOf]; omega
   ·have HH2:Hid (Holds wr g1 (mi ++ ps.flatten)):=by
     have:=HH.out
     rw [List.take_of_length_le (by rw [HR.out.len]; omega)] at this
     exact this
    have hwr:=HO.out.size
    have HZr:Hid (Blk wr (w.heap.size + 1) 27 (List.replicate 32 (.int .u8 0))):=(HO.out.block _ HZ.out.lt (by simp; omega)).trans HZ.out
    have Wr:Hid (Below w.heap.size w wr):=below_of_only HW.out HO.out (by omega) (by omega)
    have HC2r:Hid (Holds wr g2 mo):=HC2.out.keep (HO.out.block g2 hlt2 (by simp; omega))
    clear HH HZ HC2
    go_wp2_with fail
    refine (sum_ex HGk.out HH2.out (by rw [List.length_append]; exact hb)).mono ?_
    rintro e w5 ⟨D,rfl,hS,hW2⟩
    have HS:=Lib.hid hS
    have HI:=Lib.hid hS.info
    have HL:Hid ((List.replicate 32 (Value.int .u8 0)).length=D.length):=by unfold Hid; rw [hS.len]; rfl
    have H1:=Lib.hid hS.one
    have hw5:=hW2.size
    have HZ5:Hid (Blk w5 (w.heap.size + 1) 27 (List.replicate 32 (.int .u8 0))):=HZr.out.below hW2 HZr.out.lt
    have W5:Hid (Below w.heap.size w w5):=Wr.out.trans (hW2.mono (by omega))
    have HC5:Hid (Holds w5 g2 mo):=HC2r.out.keep (hW2.block g2 (by omega))
    have HG5:=Lib.hid (HGk.out.below hW2 HGk.out.size)
    clear hS hW2 HZr Wr HC2r HH2
    go_upto_region 8 with (first
     | ((with_reducible refine storeGen_law rfl 27 (.tmp 9) (.tmp 27) rfl w5.heap.size rfl D rfl 27 (List.replicate 32 (.int .u8 0)) HI.out HL.out H1.out w5.heap.size w5 ?_ ?_ (Nat.le_refl _) ?_)
        ·exact Blk.at_new _ _ 27 _ _ (by rfl) rfl
        ·exact (Below.refl _ _).alloc (Nat.le_refl _) _
        intro w6 B6 W6))
    have hw6:=W6.out.size
    have HR6:Hid (Rd w6 (some ⟨w5.heap.size,0,none⟩) 32 32 (Sha.sum (mi ++ ps.flatten))) :=
     Rd.of_block B6.out (Sha.sum_length _) (Nat.le_refl _) (by unfold maxLen; omega) (fun j hj=>by
      have hj':j < (Sha.sum (mi ++ ps.flatten)).length:=by rw [Sha.sum_length]; exact hj
      rw [HS.out]
      simp [List.getD_eq_getElem?_getD,List.getElem?_eq_getElem hj'])
    have HZ6:Hid (Blk w6 (w.heap.size + 1) 27 (List.replicate 32 (.int .u8 0))):=HZ5.out.below W6.out (by omega)
    have WW6:Hid (Below w.heap.size w w6):=W5.out.trans (W6.out.mono (by omega))
    have HC6:Hid (Holds w6 g2 mo):=HC5.out.keep (W6.out.block g2 (by omega))
    have HG6:=Lib.hid (HG5.out.below W6.out HG5.out.size)
    clear HZ5 W5 HC5 HG5 B6 W6
    go_wp2_with fail
    refine (write_any HG6.out (by omega) HC6.out HR6.out (fun _ ad had=>by injection had with had; subst had; simp; omega) (by rw [Sha.sum_length]; omega)).mono ?_
    rintro e w7 ⟨rfl,R7,O7⟩
    have HH7:=Lib.hid R7.holds
    have hw7:=O7.size
    have HZ7:Hid (Blk w7 (w.heap.size + 1) 27 (List.replicate 32 (.int .u8 0))):=(O7.block _ HZ6.out.lt (by simp; omega)).trans HZ6.out
    have W7:Hid (Below w.heap.size w w7):=below_of_only WW6.out O7 (by omega) (by omega)
    have HG7:=Lib.hid (HG6.out.only O7 (by omega))
    clear R7 O7 HZ6 WW6 HC6 HR6
    go_wp2_with fail
    refine (sum_ex HG7.out HH7.out (by rw [List.length_append,Sha.sum_length]; omega)).mono ?_
    rintro e w8 ⟨D2,rfl,hS2,hW8⟩
    have HS2:=Lib.hid hS2
    have HI2:=Lib.hid hS2.info
    have HL2:Hid ((List.replicate 32 (Value.int .u8 0)).length=D2.length):=by unfold Hid; rw [hS2.len]; rfl
    have H12:=Lib.hid hS2.one
    have HZ8:Hid (Blk w8 (w.heap.size + 1) 27 (List.replicate 32 (.int .u8 0))):=HZ7.out.below hW8 HZ7.out.lt
    have W8:Hid (Below w.heap.size w w8):=W7.out.trans (hW8.mono (by omega))
    clear hS2 hW8 HZ7 W7 HH7
    go_wp2_with (first
     | ((with_reducible refine storeGen_law rfl 27 (.tmp 4) (.tmp 32) rfl (w.heap.size + 1) rfl D2 rfl 27 (List.replicate 32 (.int .u8 0)) HI2.out HL2.out H12.out w.heap.size w HZ8.out W8.out (Nat.le_succ _) ?_); intro w9 B9 W9))
    exact bodyPost_ret (results_cell_row rfl _ _ (w.heap.size + 1) 27 D2.toArray (0,0) _ rfl B9.out Tryd.underlying27 rfl (by rw [HI2.out]; simp)) rfl ⟨D2,rfl,HS2.out,W9.out⟩
end Go.Proofs.YtajgjeialbgijaaDoor
namespace Go.Proofs.YtajgjeialbgijaaDoor
set_option linter.unusedVariables false
set_option linter.unusedSimpArgs false
set_option maxRecDepth 100000
open Go.RowKit
theorem copy_into {w:World} {g off dLen dCap n c:Nat} {t:TypeId} {cs:List Value} {A:Option Addr} {l:List UInt8} (hb:Blk w g t cs) (hr:Rd w A n c l) (hfit:off + dLen<=cs.length) :
  ∃ W',(Builtin.copy_ #[41,41] 3 #[.slice (some ⟨g,off,none⟩) dLen dCap,.slice A n c]).run Tryd.prog w = .ok (.int .i64 ((min n dLen:Nat):Int)) W'/\Blk W' g t (cs.take off ++ (l.take (min n dLen)).map cellOf ++ cs.drop (off + min n dLen))/\w.grownBy W' (some g):=by
 have hln:=hr.len
 have hxl:(l.take (min n dLen)).length=min n dLen:=by rw [List.length_take]; omega
 rcases Nat.eq_zero_or_pos n with h0 | h0
 ·subst h0
  refine ⟨w,?_,?_,only_refl _ _⟩
  ·rw [run_copy_none (P:=Tryd.prog) _ 41 41 3 5 _ _ _ _ _ _ Tryd.underlying41 size5 (by simp)]
   simp [goInt]
  ·rw [Nat.zero_min,List.take_zero,List.map_nil,List.append_nil,Nat.add_zero,List.take_append_drop]
   exact hb
 ·obtain ⟨b,o,rfl,hblt,hc⟩:=hr.at_ h0
  have hcopy:=run_copy_row (P:=Tryd.prog) w 41 41 3 5 g off dLen dCap ⟨b,o,none⟩ n c cs.toArray t ((l.take (min n dLen)).map cellOf) Tryd.underlying41 size5 hb (by rw [List.length_map,hxl])
   (fun j v hv=>by
    rw [add_plain]
    refine hr.cells j v ?_
    rw [List.map_take,List.getElem?_take] at hv
    split at hv
    ·exact hv
    ·cases hv) (by rw [List.length_map,hxl,List.size_toArray]; omega) (cells_u8 _)
  refine ⟨_,?_,(hb.row (cs':=cs.take off ++ (l.take (min n dLen)).map cellOf ++ cs.drop (off + min n dLen))),only_setRow (only_refl w _) (.inl rfl) _⟩
  rw [hcopy,List.length_map,hxl]
  rfl
def zero51:List Value:=List.replicate 64 (.int .u8 0)
theorem key_cells (k:List UInt8) (x:List UInt8) (hx:x=Sha.key0 k):zero51.take 0 ++ (x.take (min x.length 64)).map cellOf ++ zero51.drop (0 + min x.length 64)=(Sha.keyBlock k).map cellOf:=by
 have hl:x.length<=64:=by rw [hx]; exact Sha.key0_length k
 rw [Nat.min_eq_left hl,List.take_of_length_le (Nat.le_refl _),Nat.zero_add,List.take_zero,List.nil_append]
 unfold Sha.keyBlock zero51
 rw [<- hx,List.map_append,List.drop_replicate,List.map_replicate]
 rfl
theorem lit_parts1 (w:World) {A:Option Addr} {n c:Nat} {l:List UInt8} (h:Rd w A n c l):RdP (w.alloc (.cells #[.slice A n c] 41)) (some ⟨w.heap.size,0,none⟩) 1 [l] :=
 ⟨rfl,fun j hj=>by
  obtain rfl:j=0:=by omega
  exact ⟨w.heap.size,0,A,n,c,rfl,by simp,(Blk.new w 41 [.slice A n c]).cell 0,h.below ((Below.refl _ _).alloc (Nat.le_refl _) _)⟩⟩
set_option maxRecDepth 100000 in
set_option maxHeartbeats 2000000 in
theorem begin_any {w:World} {A:Option Addr} {n c:Nat} {key:List UInt8} (hg:Gl w) (hr:Rd w A n c key) (hn:n<=1000000000) :
  Calls Tryd.prog 50 #[.slice A n c] w fun e w'=>∃ gi go,e = .returned (.agg #[.pointer (some ⟨gi,0,none⟩),.pointer (some ⟨go,0,none⟩)])/\Holds w' gi (Sha.mask 0x36 (Sha.keyBlock key))/\Holds w' go (Sha.mask 0x5c (Sha.keyBlock key))/\Below w.heap.size w w':=by
 have HG:=Lib.hid hg
 have hsz:=hg.size
 have HR:=Lib.hid hr
 have HKL:=Lib.hid hr.len
 clear hg hr
 obtain ⟨w2,hw2⟩:∃ w2,w2=(w.alloc (Obj.cells #[.pointer none,.pointer none] 97)).alloc (Obj.cells zero51.toArray 111):=⟨_,rfl⟩
 have hs:w.heap.size + 2<=w2.heap.size:=by rw [hw2]; simp
 have HW:Hid (Below w.heap.size w w2):=by unfold Hid; rw [hw2]; exact ((Below.refl _ _).alloc (Nat.le_refl _) _).alloc (by simp) _
 have HZ:Hid (Blk w2 w.heap.size 97 [.pointer none,.pointer none]):=by unfold Hid; rw [hw2]; exact Blk.alloc (Blk.new w 97 [.pointer none,.pointer none]) _
 have HB1:Hid (Blk w2 (w.heap.size + 1) 111 zero51):=by unfold Hid; rw [hw2]; exact Blk.at_new _ _ 111 _ _ rfl (by simp)
 have HR2:Hid (Rd w2 A n c key):=HR.out.below HW.out
 have HG2:=Lib.hid (HG.out.below HW.out HG.out.size)
 by_cases hk:n<=64
 ·have hkb2:decide (64 < n)=false:=by simpa using hk
  have HX0:Hid (key=Sha.key0 key):=by unfold Hid Sha.key0; rw [if_neg (by rw [HKL.out]; omega)]
  obtain ⟨w3,hcopy,hB3,hO3⟩:=copy_into (off:=0) (dLen:=64) (dCap:=64) HB1.out HR2.out (by simp [zero51])
  rw [show min n 64=min key.length 64 by rw [HKL.out]] at hB3
  rw [key_cells key key HX0.out] at hB3
  have hw3:=hO3.size
  replace HZ:Hid (Blk w3 w.heap.size 97 [.pointer none,.pointer none]):=(hO3.block _ HZ.out.lt (by simp)).trans HZ.out
  replace HW:Hid (Below w.heap.size w w3):=below_of_only HW.out hO3 (by omega) (by omega)
  replace HG2:=Lib.hid (HG.out.below HW.out HG.out.size)
  obtain ⟨kb,hkb⟩:∃ kb,kb=(Sha.keyBlock key).map cellOf:=⟨_,rfl⟩
  have HKC:=Lib.hid hkb
  have HKB:=Lib.hid (Sha.keyBlock_length key)
  have HI51:Hid ((Tryd.prog.info? 111).map (·.size)=some kb.length):=by unfold Hid; rw [hkb,List.length_map,Sha.keyBlock_length]; kernel_rfl
  have HI61:Hid ((Tryd.prog.info? 97).map (·.size)=some 2):=by unfold Hid; kernel_rfl
  rw [<- hkb] at hB3
  have HBk:=Lib.hid hB3
  replace hs:w.heap.size + 2<=w3.heap.size:=by omega
  have HWW:=Lib.hid hw2
  clear hB3 hO3 hkb hw2 HB1 HR2 HX0 hw3
  have hcopy2:(Builtin.copy_ #[41,41] 3 #[.slice (some ⟨w.heap.size + 1,0,none⟩) 64 64,.slice A n c]).run Tryd.prog ((w.alloc (Obj.cells #[.pointer none,.pointer none] 97)).alloc (Obj.cells zero51.toArray 111)) = .ok (.int .i64 ((min n 64:Nat):Int)) w3:=by rw [<- HWW.out]; exact hcopy
  simp only [zero51,List.replicate] at hcopy2
  clear hcopy HWW
  go_enter Tryd.func50,Tryd.ntmps50
  go_wp2_with fail
  clear hcopy2
  refine wp_region_any (by kernel_rfl) ?_
  change wpAny _ _ _ _ _ _ _ (World.drew _)
  replace HBk:=Lib.hid HBk.out.drew
  replace HW:=Lib.hid HW.out.drew
  replace HZ:=Lib.hid HZ.out.drew
  replace HG2:=Lib.hid (HG.out.below HW.out HG.out.size)
  replace hs:w.heap.size + 2<=w3.drew.heap.size:=hs
  generalize w3.drew=v0 at *
  have HRg:Hid (v0.rangeAt (w.heap.size + 1) 0 kb):=HBk.out.cells
  refine wpAny_ready (rs:=[0,2]) (by kernel_rfl) (by simp) ?_
  refine AllReady.cons (o:=?o1) ?ho1 (fun K hK=>?_) ?more1
  case ho1=>simp only [zge]; rfl
  ·refine step_load rfl 111 (.tmp 3) rfl (w.heap.size + 1) 0 rfl kb _ HRg.out Tryd.underlying111 rfl HI51.out (hK _ _ ?_)
   clear hK K
   try simp only [zpt]
   refine wpAny_ready (rs:=[1,2]) (by kernel_rfl) (by simp) ?_
   refine AllReady.cons (o:=?o3) ?ho3 (fun K hK=>?_) ?more3
   case ho3=>simp only [zge]; rfl
   ·go_simp
    refine (masked_any HG2.out HKB.out 0x36 kb HKC.out).mono ?_
    rintro e v1 ⟨g1,rfl,hg1,hH,hX⟩
    have HC1:Hid (Holds v1 g1 (Sha.mask 0x36 (Sha.keyBlock key))):=hH
    have hlt1:g1 < v1.heap.size:=hH.lt
    replace HBk:Hid (Blk v1 (w.heap.size + 1) 111 kb):=HBk.out.below hX (by omega)
    have HRg:Hid (v1.rangeAt (w.heap.size + 1) 0 kb):=HBk.out.cells
    replace HW:Hid (Below w.heap.size w v1):=HW.out.trans (hX.mono (by omega))
    replace HZ:Hid (Blk v1 w.heap.size 97 [.pointer none,.pointer none]):=HZ.out.below hX (by omega)
    have HG2:=Lib.hid (HG2.out.below hX HG2.out.size)
    have hs:w.heap.size + 2<=v1.heap.size:=Nat.le_trans hs hX.size
    clear hH hX
    refine hK _ _ ?_
    clear hK K
    try simp only [zpt]
    refine wpAny_ready (rs:=[2]) (by kernel_rfl) (by simp) ?_
    refine AllReady.cons (o:=?o4) ?ho4 (fun K hK=>?_) AllReady.nil
    case ho4=>simp only [zge]; rfl
    refine step_load rfl 111 (.tmp 3) rfl (w.heap.size + 1) 0 rfl kb _ HRg.out Tryd.underlying111 rfl HI51.out (hK _ _ ?_)
    clear hK K
    try simp only [zpt]
    refine wpAny_ready (rs:=[3]) (by kernel_rfl) (by simp) ?_
    refine AllReady.cons (o:=?o6) ?ho6 (fun K hK=>?_) AllReady.nil
    case ho6=>simp only [zge]; rfl
    go_simp
    refine (masked_any HG2.out HKB.out 0x5c kb HKC.out).mono ?_
    rintro e v2 ⟨g2,rfl,hg2,hH,hX⟩
    have HC2:Hid (Holds v2 g2 (Sha.mask 0x5c (Sha.keyBlock key))):=hH
    have hlt2:g2 < v2.heap.size:=hH.lt
    replace HC1:Hid (Holds v2 g1 (Sha.mask 0x36 (Sha.keyBlock key))):=HC1.out.keep (hX.block g1 hlt1)
    replace HBk:Hid (Blk v2 (w.heap.size + 1) 111 kb):=HBk.out.below hX (by omega)
    have HRg:Hid (v2.rangeAt (w.heap.size + 1) 0 kb):=HBk.out.cells
    replace HW:Hid (Below w.heap.size w v2):=HW.out.trans (hX.mono (by omega))
    replace HZ:Hid (Blk v2 w.heap.size 97 [.pointer none,.pointer none]):=HZ.out.below hX (by omega)
    have HG2:=Lib.hid (HG2.out.below hX HG2.out.size)
    have hs:w.heap.size + 2<=v2.heap.size:=Nat.le_trans hs hX.size
    clear hH hX
    refine hK _ _ ?_
    clear hK K
    try simp only [zpt]
    refine wpAny_take (i:=4) (oi:=?oi7) (v:=.agg #[.pointer (some ⟨g1,0,none⟩),.pointer (some ⟨g2,0,none⟩)]) ?hi7 (by kernel_rfl) (by kernel_rfl) (by kernel_rfl) ?hQ7 ?hy7 ?rest7
    case hi7=>simp only [zge]; rfl
    case hQ7=>exact fun _ _ _ h=>h
    case hy7=>exact Or.inl ⟨by rfl,by intro w; go_simp⟩
    try simp only [zpt]
    refine wpAny_ready (rs:=[5]) (by kernel_rfl) (by simp) ?_
    refine AllReady.cons (o:=?o8) ?ho8 (fun K hK=>?_) AllReady.nil
    case ho8=>simp only [zge]; rfl
    refine step_store rfl 97 (.tmp 2) (.tmp 21) rfl w.heap.size 0 rfl [.pointer (some ⟨g1,0,none⟩),.pointer (some ⟨g2,0,none⟩)] rfl 97 [.pointer none,.pointer none] HZ.out HI61.out (by simp) (by simp; exact ⟨rfl,rfl⟩) (hK _ _ ?_)
    clear hK K
    have HZ9:Hid (Blk (v2.setRow w.heap.size #[.pointer (some ⟨g1,0,none⟩),.pointer (some ⟨g2,0,none⟩)]) w.heap.size 97 [.pointer (some ⟨g1,0,none⟩),.pointer (some ⟨g2,0,none⟩)]):=HZ.out.row
    have W9:Hid (Below w.heap.size w (v2.setRow w.heap.size #[.pointer (some ⟨g1,0,none⟩),.pointer (some ⟨g2,0,none⟩)])):=below_setRow HW.out (Nat.le_refl _) _
    have H19:Hid (Holds (v2.setRow w.heap.size #[.pointer (some ⟨g1,0,none⟩),.pointer (some ⟨g2,0,none⟩)]) g1 (Sha.mask 0x36 (Sha.keyBlock key))):=HC1.out.keep (setRow_other _ _ _ _ (by omega))
    have H29:Hid (Holds (v2.setRow w.heap.size #[.pointer (some ⟨g1,0,none⟩),.pointer (some ⟨g2,0,none⟩)]) g2 (Sha.mask 0x5c (Sha.keyBlock key))):=HC2.out.keep (setRow_other _ _ _ _ (by omega))
    simp only [List.take_zero,List.nil_append,List.length_cons,List.length_nil,Nat.zero_add,List.drop_succ_cons,List.drop_zero,List.drop_nil,List.append_nil]
    generalize v2.setRow w.heap.size #[.pointer (some ⟨g1,0,none⟩),.pointer (some ⟨g2,0,none⟩)]=w9 at *
    try simp only [Act.put]
    refine wpAny_done (by kernel_rfl) ?_ _
    clear HC1 HC2 HZ HW HBk HRg
    go_wp2_with fail
    exact bodyPost_ret (results_cell_row rfl _ _ w.heap.size 97 #[.pointer (some ⟨g1,0,none⟩),.pointer (some ⟨g2,0,none⟩)] (0,0) _ rfl HZ9.out Tryd.underlying97 rfl (by rw [HI61.out]; rfl)) rfl ⟨g1,g2,rfl,H19.out,H29.out,W9.out⟩
   case more3 =>
    refine AllReady.cons (o:=?o9) ?ho9 (fun K hK=>?_) AllReady.nil
    case ho9=>simp only [zge]; rfl
    refine step_load rfl 111 (.tmp 3) rfl (w.heap.size + 1) 0 rfl kb _ HRg.out Tryd.underlying111 rfl HI51.out (hK _ _ ?_)
    clear hK K
    try simp only [zpt]
    refine wpAny_ready (rs:=[1]) (by kernel_rfl) (by simp) ?_
    refine AllReady.cons (o:=?o11) ?ho11 (fun K hK=>?_) AllReady.nil
    case ho11=>simp only [zge]; rfl
    go_simp
    refine (masked_any HG2.out HKB.out 0x36 kb HKC.out).mono ?_
    rintro e v1 ⟨g1,rfl,hg1,hH,hX⟩
    have HC1:Hid (Holds v1 g1 (Sha.mask 0x36 (Sha.keyBlock key))):=hH
    have hlt1:g1 < v1.heap.size:=hH.lt
    replace HBk:Hid (Blk v1 (w.heap.size + 1) 111 kb):=HBk.out.below hX (by omega)
    have HRg:Hid (v1.rangeAt (w.heap.size + 1) 0 kb):=HBk.out.cells
    replace HW:Hid (Below w.heap.size w v1):=HW.out.trans (hX.mono (by omega))
    replace HZ:Hid (Blk v1 w.heap.size 97 [.pointer none,.pointer none]):=HZ.out.below hX (by omega)
    have HG2:=Lib.hid (HG2.out.below hX HG2.out.size)
    have hs:w.heap.size + 2<=v1.heap.size:=Nat.le_trans hs hX.size
    clear hH hX
    refine hK _ _ ?_
    clear hK K
    try simp only [zpt]
    refine wpAny_ready (rs:=[3]) (by kernel_rfl) (by simp) ?_
    refine AllReady.cons (o:=?o12) ?ho12 (fun K hK=>?_) AllReady.nil
    case ho12=>simp only [zge]; rfl
    go_simp
    refine (masked_any HG2.out HKB.out 0x5c kb HKC.out).mono ?_
    rintro e v2 ⟨g2,rfl,hg2,hH,hX⟩
    have HC2:Hid (Holds v2 g2 (Sha.mask 0x5c (Sha.keyBlock key))):=hH
    have hlt2:g2 < v2.heap.size:=hH.lt
    replace HC1:Hid (Holds v2 g1 (Sha.mask 0x36 (Sha.keyBlock key))):=HC1.out.keep (hX.block g1 hlt1)
    replace HBk:Hid (Blk v2 (w.heap.size + 1) 111 kb):=HBk.out.below hX (by omega)
    have HRg:Hid (v2.rangeAt (w.heap.size + 1) 0 kb):=HBk.out.cells
    replace HW:Hid (Below w.heap.size w v2):=HW.out.trans (hX.mono (by omega))
    replace HZ:Hid (Blk v2 w.heap.size 97 [.pointer none,.pointer none]):=HZ.out.below hX (by omega)
    have HG2:=Lib.hid (HG2.out.below hX HG2.out.size)
    have hs:w.heap.size + 2<=v2.heap.size:=Nat.le_trans hs hX.size
    clear hH hX
    refine hK _ _ ?_
    clear hK K
    try simp only [zpt]
    refine wpAny_take (i:=4) (oi:=?oi13) (v:=.agg #[.pointer (some ⟨g1,0,none⟩),.pointer (some ⟨g2,0,none⟩)]) ?hi13 (by kernel_rfl) (by kernel_rfl) (by kernel_rfl) ?hQ13 ?hy13 ?rest13
    case hi13=>simp only [zge]; rfl
    case hQ13=>exact fun _ _ _ h=>h
    case hy13=>exact Or.inl ⟨by rfl,by intro w; go_simp⟩
    try simp only [zpt]
    refine wpAny_ready (rs:=[5]) (by kernel_rfl) (by simp) ?_
    refine AllReady.cons (o:=?o14) ?ho14 (fun K hK=>?_) AllReady.nil
    case ho14=>simp only [zge]; rfl
    refine step_store rfl 97 (.tmp 2) (.tmp 21) rfl w.heap.size 0 rfl [.pointer (some ⟨g1,0,none⟩),.pointer (some ⟨g2,0,none⟩)] rfl 97 [.pointer none,.pointer none] HZ.out HI61.out (by simp) (by simp; exact ⟨rfl,rfl⟩) (hK _ _ ?_)
    clear hK K
    have HZ9:Hid (Blk (v2.setRow w.heap.size #[.pointer (some ⟨g1,0,none⟩),.pointer (some ⟨g2,0,none⟩)]) w.heap.size 97 [.pointer (some ⟨g1,0,none⟩),.pointer (some ⟨g2,0,none⟩)]):=HZ.out.row
    have W9:Hid (Below w.heap.size w (v2.setRow w.heap.size #[.pointer (some ⟨g1,0,none⟩),.pointer (some ⟨g2,0,none⟩)])):=below_setRow HW.out (Nat.le_refl _) _
    have H19:Hid (Holds (v2.setRow w.heap.size #[.pointer (some ⟨g1,0,none⟩),.pointer (some ⟨g2,0,none⟩)]) g1 (Sha.mask 0x36 (Sha.keyBlock key))):=HC1.out.keep (setRow_other _ _ _ _ (by omega))
    have H29:Hid (Holds (v2.setRow w.heap.size #[.pointer (some ⟨g1,0,none⟩),.pointer (some ⟨g2,0,none⟩)]) g2 (Sha.mask 0x5c (Sha.keyBlock key))):=HC2.out.keep (setRow_other _ _ _ _ (by omega))
    simp only [List.take_zero,List.nil_append,List.length_cons,List.length_nil,Nat.zero_add,List.drop_succ_cons,List.drop_zero,List.drop_nil,List.append_nil]
    generalize v2.setRow w.heap.size #[.pointer (some ⟨g1,0,none⟩),.pointer (some ⟨g2,0,none⟩)]=w9 at *
    try simp only [Act.put]
    refine wpAny_done (by kernel_rfl) ?_ _
    clear HC1 HC2 HZ HW HBk HRg
    go_wp2_with fail
    exact bodyPost_ret (results_cell_row rfl _ _ w.heap.size 97 #[.pointer (some ⟨g1,0,none⟩),.pointer (some ⟨g2,0,none⟩)] (0,0) _ rfl HZ9.out Tryd.underlying97 rfl (by rw [HI61.out]; rfl)) rfl ⟨g1,g2,rfl,H19.out,H29.out,W9.out⟩
  case more1 =>
   refine AllReady.cons (o:=?o15) ?ho15 (fun K hK=>?_) AllReady.nil
   case ho15=>simp only [zge]; rfl
   refine step_load rfl 111 (.tmp 3) rfl (w.heap.size + 1) 0 rfl kb _ HRg.out Tryd.underlying111 rfl HI51.out (hK _ _ ?_)
   clear hK K
   try simp only [zpt]
   refine wpAny_ready (rs:=[0]) (by kernel_rfl) (by simp) ?_
   refine AllReady.cons (o:=?o17) ?ho17 (fun K hK=>?_) AllReady.nil
   case ho17=>simp only [zge]; rfl
   refine step_load rfl 111 (.tmp 3) rfl (w.heap.size + 1) 0 rfl kb _ HRg.out Tryd.underlying111 rfl HI51.out (hK _ _ ?_)
   clear hK K
   try simp only [zpt]
   refine wpAny_ready (rs:=[1]) (by kernel_rfl) (by simp) ?_
   refine AllReady.cons (o:=?o19) ?ho19 (fun K hK=>?_) AllReady.nil
   case ho19=>simp only [zge]; rfl
   go_simp
   refine (masked_any HG2.out HKB.out 0x36 kb HKC.out).mono ?_
   rintro e v1 ⟨g1,rfl,hg1,hH,hX⟩
   have HC1:Hid (Holds v1 g1 (Sha.mask 0x36 (Sha.keyBlock key))):=hH
   have hlt1:g1 < v1.heap.size:=hH.lt
   replace HBk:Hid (Blk v1 (w.heap.size + 1) 111 kb):=HBk.out.below hX (by omega)
   have HRg:Hid (v1.rangeAt (w.heap.size + 1) 0 kb):=HBk.out.cells
   replace HW:Hid (Below w.heap.size w v1):=HW.out.trans (hX.mono (by omega))
   replace HZ:Hid (Blk v1 w.heap.size 97 [.pointer none,.pointer none]):=HZ.out.below hX (by omega)
   have HG2:=Lib.hid (HG2.out.below hX HG2.out.size)
   have hs:w.heap.size + 2<=v1.heap.size:=Nat.le_trans hs hX.size
   clear hH hX
   refine hK _ _ ?_
   clear hK K
   try simp only [zpt]
   refine wpAny_ready (rs:=[3]) (by kernel_rfl) (by simp) ?_
   refine AllReady.cons (o:=?o20) ?ho20 (fun K hK=>?_) AllReady.nil
   case ho20=>simp only [zge]; rfl
   go_simp
   refine (masked_any HG2.out HKB.out 0x5c kb HKC.out).mono ?_
   rintro e v2 ⟨g2,rfl,hg2,hH,hX⟩
   have HC2:Hid (Holds v2 g2 (Sha.mask 0x5c (Sha.keyBlock key))):=hH
   have hlt2:g2 < v2.heap.size:=hH.lt
   replace HC1:Hid (Holds v2 g1 (Sha.mask 0x36 (Sha.keyBlock key))):=HC1.out.keep (hX.block g1 hlt1)
   replace HBk:Hid (Blk v2 (w.heap.size + 1) 111 kb):=HBk.out.below hX (by omega)
   have HRg:Hid (v2.rangeAt (w.heap.size + 1) 0 kb):=HBk.out.cells
   replace HW:Hid (Below w.heap.size w v2):=HW.out.trans (hX.mono (by omega))
   replace HZ:Hid (Blk v2 w.heap.size 97 [.pointer none,.pointer none]):=HZ.out.below hX (by omega)
   have HG2:=Lib.hid (HG2.out.below hX HG2.out.size)
   have hs:w.heap.size + 2<=v2.heap.size:=Nat.le_trans hs hX.size
   clear hH hX
   refine hK _ _ ?_
   clear hK K
   try simp only [zpt]
   refine wpAny_take (i:=4) (oi:=?oi21) (v:=.agg #[.pointer (some ⟨g1,0,none⟩),.pointer (some ⟨g2,0,none⟩)]) ?hi21 (by kernel_rfl) (by kernel_rfl) (by kernel_rfl) ?hQ21 ?hy21 ?rest21
   case hi21=>simp only [zge]; rfl
   case hQ21=>exact fun _ _ _ h=>h
   case hy21=>exact Or.inl ⟨by rfl,by intro w; go_simp⟩
   try simp only [zpt]
   refine wpAny_ready (rs:=[5]) (by kernel_rfl) (by simp) ?_
   refine AllReady.cons (o:=?o22) ?ho22 (fun K hK=>?_) AllReady.nil
   case ho22=>simp only [zge]; rfl
   refine step_store rfl 97 (.tmp 2) (.tmp 21) rfl w.heap.size 0 rfl [.pointer (some ⟨g1,0,none⟩),.pointer (some ⟨g2,0,none⟩)] rfl 97 [.pointer none,.pointer none] HZ.out HI61.out (by simp) (by simp; exact ⟨rfl,rfl⟩) (hK _ _ ?_)
   clear hK K
   have HZ9:Hid (Blk (v2.setRow w.heap.size #[.pointer (some ⟨g1,0,none⟩),.pointer (some ⟨g2,0,none⟩)]) w.heap.size 97 [.pointer (some ⟨g1,0,none⟩),.pointer (some ⟨g2,0,none⟩)]):=HZ.out.row
   have W9:Hid (Below w.heap.size w (v2.setRow w.heap.size #[.pointer (some ⟨g1,0,none⟩),.pointer (some ⟨g2,0,none⟩)])):=below_setRow HW.out (Nat.le_refl _) _
   have H19:Hid (Holds (v2.setRow w.heap.size #[.pointer (some ⟨g1,0,none⟩),.pointer (some ⟨g2,0,none⟩)]) g1 (Sha.mask 0x36 (Sha.keyBlock key))):=HC1.out.keep (setRow_other _ _ _ _ (by omega))
   have H29:Hid (Holds (v2.setRow w.heap.size #[.pointer (some ⟨g1,0,none⟩),.pointer (some ⟨g2,0,none⟩)]) g2 (Sha.mask 0x5c (Sha.keyBlock key))):=HC2.out.keep (setRow_other _ _ _ _ (by omega))
   simp only [List.take_zero,List.nil_append,List.length_cons,List.length_nil,Nat.zero_add,List.drop_succ_cons,List.drop_zero,List.drop_nil,List.append_nil]
   generalize v2.setRow w.heap.size #[.pointer (some ⟨g1,0,none⟩),.pointer (some ⟨g2,0,none⟩)]=w9 at *
   try simp only [Act.put]
   refine wpAny_done (by kernel_rfl) ?_ _
   clear HC1 HC2 HZ HW HBk HRg
   go_wp2_with fail
   exact bodyPost_ret (results_cell_row rfl _ _ w.heap.size 97 #[.pointer (some ⟨g1,0,none⟩),.pointer (some ⟨g2,0,none⟩)] (0,0) _ rfl HZ9.out Tryd.underlying97 rfl (by rw [HI61.out]; rfl)) rfl ⟨g1,g2,rfl,H19.out,H29.out,W9.out⟩
 ·have hkb2:64 < n:=by omega
  have HX0:Hid (Sha.sum key=Sha.key0 key):=by unfold Hid Sha.key0; rw [if_pos (by rw [HKL.out]; omega)]
  have HP:=Lib.hid (lit_parts1 w2 HR2.out)
  have HW2:=Lib.hid ((Below.refl w2.heap.size w2).alloc (Nat.le_refl _) (.cells #[.slice A n c] 41))
  have HG3:=Lib.hid (HG2.out.below HW2.out HG2.out.size)
  have hcall:=Lib.hid (shaSum_any (c:=1) HG3.out HP.out (by omega) (by simp [HKL.out]; omega))
  simp only [List.flatten_cons,List.flatten_nil,List.append_nil] at hcall
  have HWW:=Lib.hid hw2
  clear hw2 HP
  go_enter Tryd.func50,Tryd.ntmps50
  go_upto_region 3 with (fail)
  change Code.wp _ _ _ _ ((w.alloc (Obj.cells #[.pointer none,.pointer none] 97)).alloc (Obj.cells zero51.toArray 111))
  rw [<- HWW.out]
  clear HWW
  go_wp2_with fail
  refine hcall.out.mono ?_
  rintro e w3 ⟨D,rfl,hS,hX⟩
  have hsx:=hX.size
  simp at hsx
  replace HZ:Hid (Blk w3 w.heap.size 97 [.pointer none,.pointer none]):=(HZ.out.alloc _).below hX (by simp; omega)
  replace HB1:Hid (Blk w3 (w.heap.size + 1) 111 zero51):=(HB1.out.alloc _).below hX (by simp; omega)
  replace HW:Hid (Below w.heap.size w w3):=(HW.out.trans (HW2.out.mono (by omega))).trans (hX.mono (by simp; omega))
  have HS:=Lib.hid hS
  have HI:=Lib.hid hS.info
  have HL:Hid ((List.replicate 32 (Value.int .u8 0)).length=D.length):=by unfold Hid; rw [hS.len]; rfl
  have H1:=Lib.hid hS.one
  replace hs:w.heap.size + 2<=w3.heap.size:=by omega
  clear hS hX hcall HW2 HG3 HR2
  go_wp2_with (first
   | ((with_reducible refine storeGen_law rfl 27 (.tmp 4) (.tmp 10) rfl w3.heap.size rfl D rfl 27 (List.replicate 32 (.int .u8 0)) HI.out HL.out H1.out w3.heap.size w3 ?_ ?_ (Nat.le_refl _) ?_)
      ·exact Blk.at_new _ _ 27 _ _ (by rfl) rfl
      ·exact (Below.refl _ _).alloc (Nat.le_refl _) _
      intro w4 B4 W4))
  try simp only [Act.put]
  have hw4:=W4.out.size
  replace HZ:Hid (Blk w4.drew w.heap.size 97 [.pointer none,.pointer none]):=Blk.drew (HZ.out.below W4.out (show w.heap.size < w3.heap.size by omega))
  replace HB1:Hid (Blk w4.drew (w.heap.size + 1) 111 zero51):=Blk.drew (HB1.out.below W4.out (show w.heap.size + 1 < w3.heap.size by omega))
  replace HW:Hid (Below w.heap.size w w4.drew):=(HW.out.trans (W4.out.mono (show w.heap.size<=w3.heap.size by omega))).drew
  replace B4:Hid (Blk w4.drew w3.heap.size 27 D):=B4.out.drew
  replace hs:w.heap.size + 2<=w4.drew.heap.size:=by show _<=w4.heap.size; omega
  clear W4 hw4
  refine wp_region_any (by kernel_rfl) ?_
  change wpAny _ _ _ _ _ _ _ (World.drew _)
  generalize w4.drew=w5 at *
  have HR5:Hid (Rd w5 (some ⟨w3.heap.size,0,none⟩) 32 32 (Sha.sum key)) :=
   Rd.of_block B4.out (Sha.sum_length _) (Nat.le_refl _) (by unfold maxLen; omega) (fun j hj=>by
    have hj':j < (Sha.sum key).length:=by rw [Sha.sum_length]; exact hj
    rw [HS.out]
    simp [List.getD_eq_getElem?_getD,List.getElem?_eq_getElem hj'])
  obtain ⟨w6,hcopy,hB6,hO6⟩:=copy_into (off:=0) (dLen:=64) (dCap:=64) HB1.out HR5.out (by simp [zero51])
  rw [show min 32 64=min (Sha.sum key).length 64 by rw [Sha.sum_length]] at hB6
  rw [key_cells key _ HX0.out] at hB6
  have hw6:=hO6.size
  replace HZ:Hid (Blk w6 w.heap.size 97 [.pointer none,.pointer none]):=(hO6.block _ HZ.out.lt (by simp)).trans HZ.out
  replace HW:Hid (Below w.heap.size w w6):=below_of_only HW.out hO6 (by omega) (by omega)
  replace HG2:=Lib.hid (HG.out.below HW.out HG.out.size)
  obtain ⟨kb,hkb⟩:∃ kb,kb=(Sha.keyBlock key).map cellOf:=⟨_,rfl⟩
  have HKC:=Lib.hid hkb
  have HKB:=Lib.hid (Sha.keyBlock_length key)
  have HI51:Hid ((Tryd.prog.info? 111).map (·.size)=some kb.length):=by unfold Hid; rw [hkb,List.length_map,Sha.keyBlock_length]; kernel_rfl
  have HI61:Hid ((Tryd.prog.info? 97).map (·.size)=some 2):=by unfold Hid; kernel_rfl
  rw [<- hkb] at hB6
  have HBk:=Lib.hid hB6
  replace hs:w.heap.size + 2<=w6.heap.size:=by omega
  clear hB6 hO6 hkb HB1 HX0 hw6 HR5 B4
  refine wpAny_take (i:=0) (oi:=?oi23) (v:=.slice (some ⟨w.heap.size + 1,0,none⟩) 64 64) ?hi23 (by kernel_rfl) (by kernel_rfl) (by kernel_rfl) ?hQ23 ?hy23 ?rest23
  case hi23=>simp only [zge]; rfl
  case hQ23=>exact fun _ _ _ h=>h
  case hy23=>exact Or.inl ⟨by rfl,by intro w; go_simp⟩
  try simp only [zpt]
  refine wpAny_take (i:=1) (oi:=?oi24) (v:=.slice (some ⟨w3.heap.size,0,none⟩) 32 32) ?hi24 (by kernel_rfl) (by kernel_rfl) (by kernel_rfl) ?hQ24 ?hy24 ?rest24
  case hi24=>simp only [zge]; rfl
  case hQ24=>exact fun _ _ _ h=>h
  case hy24=>exact Or.inl ⟨by rfl,by intro w; go_simp⟩
  try simp only [zpt]
  refine wpAny_ready (rs:=[2]) (by kernel_rfl) (by simp) ?_
  refine AllReady.cons (o:=?o25) ?ho25 (fun K hK=>?_) AllReady.nil
  case ho25=>simp only [zge]; rfl
  go_simp
  refine hK _ _ ?_
  clear hK K hcopy
  try simp only [Act.put]
  refine wpAny_done (by kernel_rfl) ?_ _
  go_wp2_with fail
  refine wp_region_any (by kernel_rfl) ?_
  change wpAny _ _ _ _ _ _ _ (World.drew _)
  replace HBk:=Lib.hid HBk.out.drew
  replace HW:=Lib.hid HW.out.drew
  replace HZ:=Lib.hid HZ.out.drew
  replace HG2:=Lib.hid (HG.out.below HW.out HG.out.size)
  replace hs:w.heap.size + 2<=w6.drew.heap.size:=hs
  generalize w6.drew=v0 at *
  have HRg:Hid (v0.rangeAt (w.heap.size + 1) 0 kb):=HBk.out.cells
  refine wpAny_ready (rs:=[0,2]) (by kernel_rfl) (by simp) ?_
  refine AllReady.cons (o:=?o26) ?ho26 (fun K hK=>?_) ?more26
  case ho26=>simp only [zge]; rfl
  ·refine step_load rfl 111 (.tmp 3) rfl (w.heap.size + 1) 0 rfl kb _ HRg.out Tryd.underlying111 rfl HI51.out (hK _ _ ?_)
   clear hK K
   try simp only [zpt]
   refine wpAny_ready (rs:=[1,2]) (by kernel_rfl) (by simp) ?_
   refine AllReady.cons (o:=?o28) ?ho28 (fun K hK=>?_) ?more28
   case ho28=>simp only [zge]; rfl
   ·go_simp
    refine (masked_any HG2.out HKB.out 0x36 kb HKC.out).mono ?_
    rintro e v1 ⟨g1,rfl,hg1,hH,hX⟩
    have HC1:Hid (Holds v1 g1 (Sha.mask 0x36 (Sha.keyBlock key))):=hH
    have hlt1:g1 < v1.heap.size:=hH.lt
    replace HBk:Hid (Blk v1 (w.heap.size + 1) 111 kb):=HBk.out.below hX (by omega)
    have HRg:Hid (v1.rangeAt (w.heap.size + 1) 0 kb):=HBk.out.cells
    replace HW:Hid (Below w.heap.size w v1):=HW.out.trans (hX.mono (by omega))
    replace HZ:Hid (Blk v1 w.heap.size 97 [.pointer none,.pointer none]):=HZ.out.below hX (by omega)
    have HG2:=Lib.hid (HG2.out.below hX HG2.out.size)
    have hs:w.heap.size + 2<=v1.heap.size:=Nat.le_trans hs hX.size
    clear hH hX
    refine hK _ _ ?_
    clear hK K
    try simp only [zpt]
    refine wpAny_ready (rs:=[2]) (by kernel_rfl) (by simp) ?_
    refine AllReady.cons (o:=?o29) ?ho29 (fun K hK=>?_) AllReady.nil
    case ho29=>simp only [zge]; rfl
    refine step_load rfl 111 (.tmp 3) rfl (w.heap.size + 1) 0 rfl kb _ HRg.out Tryd.underlying111 rfl HI51.out (hK _ _ ?_)
    clear hK K
    try simp only [zpt]
    refine wpAny_ready (rs:=[3]) (by kernel_rfl) (by simp) ?_
    refine AllReady.cons (o:=?o31) ?ho31 (fun K hK=>?_) AllReady.nil
    case ho31=>simp only [zge]; rfl
    go_simp
    refine (masked_any HG2.out HKB.out 0x5c kb HKC.out).mono ?_
    rintro e v2 ⟨g2,rfl,hg2,hH,hX⟩
    have HC2:Hid (Holds v2 g2 (Sha.mask 0x5c (Sha.keyBlock key))):=hH
    have hlt2:g2 < v2.heap.size:=hH.lt
    replace HC1:Hid (Holds v2 g1 (Sha.mask 0x36 (Sha.keyBlock key))):=HC1.out.keep (hX.block g1 hlt1)
    replace HBk:Hid (Blk v2 (w.heap.size + 1) 111 kb):=HBk.out.below hX (by omega)
    have HRg:Hid (v2.rangeAt (w.heap.size + 1) 0 kb):=HBk.out.cells
    replace HW:Hid (Below w.heap.size w v2):=HW.out.trans (hX.mono (by omega))
    replace HZ:Hid (Blk v2 w.heap.size 97 [.pointer none,.pointer none]):=HZ.out.below hX (by omega)
    have HG2:=Lib.hid (HG2.out.below hX HG2.out.size)
    have hs:w.heap.size + 2<=v2.heap.size:=Nat.le_trans hs hX.size
    clear hH hX
    refine hK _ _ ?_
    clear hK K
    try simp only [zpt]
    refine wpAny_take (i:=4) (oi:=?oi32) (v:=.agg #[.pointer (some ⟨g1,0,none⟩),.pointer (some ⟨g2,0,none⟩)]) ?hi32 (by kernel_rfl) (by kernel_rfl) (by kernel_rfl) ?hQ32 ?hy32 ?rest32
    case hi32=>simp only [zge]; rfl
    case hQ32=>exact fun _ _ _ h=>h
    case hy32=>exact Or.inl ⟨by rfl,by intro w; go_simp⟩
    try simp only [zpt]
    refine wpAny_ready (rs:=[5]) (by kernel_rfl) (by simp) ?_
    refine AllReady.cons (o:=?o33) ?ho33 (fun K hK=>?_) AllReady.nil
    case ho33=>simp only [zge]; rfl
    refine step_store rfl 97 (.tmp 2) (.tmp 21) rfl w.heap.size 0 rfl [.pointer (some ⟨g1,0,none⟩),.pointer (some ⟨g2,0,none⟩)] rfl 97 [.pointer none,.pointer none] HZ.out HI61.out (by simp) (by simp; exact ⟨rfl,rfl⟩) (hK _ _ ?_)
    clear hK K
    have HZ9:Hid (Blk (v2.setRow w.heap.size #[.pointer (some ⟨g1,0,none⟩),.pointer (some ⟨g2,0,none⟩)]) w.heap.size 97 [.pointer (some ⟨g1,0,none⟩),.pointer (some ⟨g2,0,none⟩)]):=HZ.out.row
    have W9:Hid (Below w.heap.size w (v2.setRow w.heap.size #[.pointer (some ⟨g1,0,none⟩),.pointer (some ⟨g2,0,none⟩)])):=below_setRow HW.out (Nat.le_refl _) _
    have H19:Hid (Holds (v2.setRow w.heap.size #[.pointer (some ⟨g1,0,none⟩),.pointer (some ⟨g2,0,none⟩)]) g1 (Sha.mask 0x36 (Sha.keyBlock key))):=HC1.out.keep (setRow_other _ _ _ _ (by omega))
    have H29:Hid (Holds (v2.setRow w.heap.size #[.pointer (some ⟨g1,0,none⟩),.pointer (some ⟨g2,0,none⟩)]) g2 (Sha.mask 0x5c (Sha.keyBlock key))):=HC2.out.keep (setRow_other _ _ _ _ (by omega))
    simp only [List.take_zero,List.nil_append,List.length_cons,List.length_nil,Nat.zero_add,List.drop_succ_cons,List.drop_zero,List.drop_nil,List.append_nil]
    generalize v2.setRow w.heap.size #[.pointer (some ⟨g1,0,none⟩),.pointer (some ⟨g2,0,none⟩)]=w9 at *
    try simp only [Act.put]
    refine wpAny_done (by kernel_rfl) ?_ _
    clear HC1 HC2 HZ HW HBk HRg
    go_wp2_with fail
    exact bodyPost_ret (results_cell_row rfl _ _ w.heap.size 97 #[.pointer (some ⟨g1,0,none⟩),.pointer (some ⟨g2,0,none⟩)] (0,0) _ rfl HZ9.out Tryd.underlying97 rfl (by rw [HI61.out]; rfl)) rfl ⟨g1,g2,rfl,H19.out,H29.out,W9.out⟩
   case more28 =>
    refine AllReady.cons (o:=?o34) ?ho34 (fun K hK=>?_) AllReady.nil
    case ho34=>simp only [zge]; rfl
    refine step_load rfl 111 (.tmp 3) rfl (w.heap.size + 1) 0 rfl kb _ HRg.out Tryd.underlying111 rfl HI51.out (hK _ _ ?_)
    clear hK K
    try simp only [zpt]
    refine wpAny_ready (rs:=[1]) (by kernel_rfl) (by simp) ?_
    refine AllReady.cons (o:=?o36) ?ho36 (fun K hK=>?_) AllReady.nil
    case ho36=>simp only [zge]; rfl
    go_simp
    refine (masked_any HG2.out HKB.out 0x36 kb HKC.out).mono ?_
    rintro e v1 ⟨g1,rfl,hg1,hH,hX⟩
    have HC1:Hid (Holds v1 g1 (Sha.mask 0x36 (Sha.keyBlock key))):=hH
    have hlt1:g1 < v1.heap.size:=hH.lt
    replace HBk:Hid (Blk v1 (w.heap.size + 1) 111 kb):=HBk.out.below hX (by omega)
    have HRg:Hid (v1.rangeAt (w.heap.size + 1) 0 kb):=HBk.out.cells
    replace HW:Hid (Below w.heap.size w v1):=HW.out.trans (hX.mono (by omega))
    replace HZ:Hid (Blk v1 w.heap.size 97 [.pointer none,.pointer none]):=HZ.out.below hX (by omega)
    have HG2:=Lib.hid (HG2.out.below hX HG2.out.size)
    have hs:w.heap.size + 2<=v1.heap.size:=Nat.le_trans hs hX.size
    clear hH hX
    refine hK _ _ ?_
    clear hK K
    try simp only [zpt]
    refine wpAny_ready (rs:=[3]) (by kernel_rfl) (by simp) ?_
    refine AllReady.cons (o:=?o37) ?ho37 (fun K hK=>?_) AllReady.nil
    case ho37=>simp only [zge]; rfl
    go_simp
    refine (masked_any HG2.out HKB.out 0x5c kb HKC.out).mono ?_
    rintro e v2 ⟨g2,rfl,hg2,hH,hX⟩
    have HC2:Hid (Holds v2 g2 (Sha.mask 0x5c (Sha.keyBlock key))):=hH
    have hlt2:g2 < v2.heap.size:=hH.lt
    replace HC1:Hid (Holds v2 g1 (Sha.mask 0x36 (Sha.keyBlock key))):=HC1.out.keep (hX.block g1 hlt1)
    replace HBk:Hid (Blk v2 (w.heap.size + 1) 111 kb):=HBk.out.below hX (by omega)
    have HRg:Hid (v2.rangeAt (w.heap.size + 1) 0 kb):=HBk.out.cells
    replace HW:Hid (Below w.heap.size w v2):=HW.out.trans (hX.mono (by omega))
    replace HZ:Hid (Blk v2 w.heap.size 97 [.pointer none,.pointer none]):=HZ.out.below hX (by omega)
    have HG2:=Lib.hid (HG2.out.below hX HG2.out.size)
    have hs:w.heap.size + 2<=v2.heap.size:=Nat.le_trans hs hX.size
    clear hH hX
    refine hK _ _ ?_
    clear hK K
    try simp only [zpt]
    refine wpAny_take (i:=4) (oi:=?oi38) (v:=.agg #[.pointer (some ⟨g1,0,none⟩),.pointer (some ⟨g2,0,none⟩)]) ?hi38 (by kernel_rfl) (by kernel_rfl) (by kernel_rfl) ?hQ38 ?hy38 ?rest38
    case hi38=>simp only [zge]; rfl
    case hQ38=>exact fun _ _ _ h=>h
    case hy38=>exact Or.inl ⟨by rfl,by intro w; go_simp⟩
    try simp only [zpt]
    refine wpAny_ready (rs:=[5]) (by kernel_rfl) (by simp) ?_
    refine AllReady.cons (o:=?o39) ?ho39 (fun K hK=>?_) AllReady.nil
    case ho39=>simp only [zge]; rfl
    refine step_store rfl 97 (.tmp 2) (.tmp 21) rfl w.heap.size 0 rfl [.pointer (some ⟨g1,0,none⟩),.pointer (some ⟨g2,0,none⟩)] rfl 97 [.pointer none,.pointer none] HZ.out HI61.out (by simp) (by simp; exact ⟨rfl,rfl⟩) (hK _ _ ?_)
    clear hK K
    have HZ9:Hid (Blk (v2.setRow w.heap.size #[.pointer (some ⟨g1,0,none⟩),.pointer (some ⟨g2,0,none⟩)]) w.heap.size 97 [.pointer (some ⟨g1,0,none⟩),.pointer (some ⟨g2,0,none⟩)]):=HZ.out.row
    have W9:Hid (Below w.heap.size w (v2.setRow w.heap.size #[.pointer (some ⟨g1,0,none⟩),.pointer (some ⟨g2,0,none⟩)])):=below_setRow HW.out (Nat.le_refl _) _
    have H19:Hid (Holds (v2.setRow w.heap.size #[.pointer (some ⟨g1,0,none⟩),.pointer (some ⟨g2,0,none⟩)]) g1 (Sha.mask 0x36 (Sha.keyBlock key))):=HC1.out.keep (setRow_other _ _ _ _ (by omega))
    have H29:Hid (Holds (v2.setRow w.heap.size #[.pointer (some ⟨g1,0,none⟩),.pointer (some ⟨g2,0,none⟩)]) g2 (Sha.mask 0x5c (Sha.keyBlock key))):=HC2.out.keep (setRow_other _ _ _ _ (by omega))
    simp only [List.take_zero,List.nil_append,List.length_cons,List.length_nil,Nat.zero_add,List.drop_succ_cons,List.drop_zero,List.drop_nil,List.append_nil]
    generalize v2.setRow w.heap.size #[.pointer (some ⟨g1,0,none⟩),.pointer (some ⟨g2,0,none⟩)]=w9 at *
    try simp only [Act.put]
    refine wpAny_done (by kernel_rfl) ?_ _
    clear HC1 HC2 HZ HW HBk HRg
    go_wp2_with fail
    exact bodyPost_ret (results_cell_row rfl _ _ w.heap.size 97 #[.pointer (some ⟨g1,0,none⟩),.pointer (some ⟨g2,0,none⟩)] (0,0) _ rfl HZ9.out Tryd.underlying97 rfl (by rw [HI61.out]; rfl)) rfl ⟨g1,g2,rfl,H19.out,H29.out,W9.out⟩
  case more26 =>
   refine AllReady.cons (o:=?o40) ?ho40 (fun K hK=>?_) AllReady.nil
   case ho40=>simp only [zge]; rfl
   refine step_load rfl 111 (.tmp 3) rfl (w.heap.size + 1) 0 rfl kb _ HRg.out Tryd.underlying111 rfl HI51.out (hK _ _ ?_)
   clear hK K
   try simp only [zpt]
   refine wpAny_ready (rs:=[0]) (by kernel_rfl) (by simp) ?_
   refine AllReady.cons (o:=?o42) ?ho42 (fun K hK=>?_) AllReady.nil
   case ho42=>simp only [zge]; rfl
   refine step_load rfl 111 (.tmp 3) rfl (w.heap.size + 1) 0 rfl kb _ HRg.out Tryd.underlying111 rfl HI51.out (hK _ _ ?_)
   clear hK K
   try simp only [zpt]
   refine wpAny_ready (rs:=[1]) (by kernel_rfl) (by simp) ?_
   refine AllReady.cons (o:=?o44) ?ho44 (fun K hK=>?_) AllReady.nil
   case ho44=>simp only [zge]; rfl
   go_simp
   refine (masked_any HG2.out HKB.out 0x36 kb HKC.out).mono ?_
   rintro e v1 ⟨g1,rfl,hg1,hH,hX⟩
   have HC1:Hid (Holds v1 g1 (Sha.mask 0x36 (Sha.keyBlock key))):=hH
   have hlt1:g1 < v1.heap.size:=hH.lt
   replace HBk:Hid (Blk v1 (w.heap.size + 1) 111 kb):=HBk.out.below hX (by omega)
   have HRg:Hid (v1.rangeAt (w.heap.size + 1) 0 kb):=HBk.out.cells
   replace HW:Hid (Below w.heap.size w v1):=HW.out.trans (hX.mono (by omega))
   replace HZ:Hid (Blk v1 w.heap.size 97 [.pointer none,.pointer none]):=HZ.out.below hX (by omega)
   have HG2:=Lib.hid (HG2.out.below hX HG2.out.size)
   have hs:w.heap.size + 2<=v1.heap.size:=Nat.le_trans hs hX.size
   clear hH hX
   refine hK _ _ ?_
   clear hK K
   try simp only [zpt]
   refine wpAny_ready (rs:=[3]) (by kernel_rfl) (by simp) ?_
   refine AllReady.cons (o:=?o45) ?ho45 (fun K hK=>?_) AllReady.nil
   case ho45=>simp only [zge]; rfl
   go_simp
   refine (masked_any HG2.out HKB.out 0x5c kb HKC.out).mono ?_
   rintro e v2 ⟨g2,rfl,hg2,hH,hX⟩
   have HC2:Hid (Holds v2 g2 (Sha.mask 0x5c (Sha.keyBlock key))):=hH
   have hlt2:g2 < v2.heap.size:=hH.lt
   replace HC1:Hid (Holds v2 g1 (Sha.mask 0x36 (Sha.keyBlock key))):=HC1.out.keep (hX.block g1 hlt1)
   replace HBk:Hid (Blk v2 (w.heap.size + 1) 111 kb):=HBk.out.below hX (by omega)
   have HRg:Hid (v2.rangeAt (w.heap.size + 1) 0 kb):=HBk.out.cells
   replace HW:Hid (Below w.heap.size w v2):=HW.out.trans (hX.mono (by omega))
   replace HZ:Hid (Blk v2 w.heap.size 97 [.pointer none,.pointer none]):=HZ.out.below hX (by omega)
   have HG2:=Lib.hid (HG2.out.below hX HG2.out.size)
   have hs:w.heap.size + 2<=v2.heap.size:=Nat.le_trans hs hX.size
   clear hH hX
   refine hK _ _ ?_
   clear hK K
   try simp only [zpt]
   refine wpAny_take (i:=4) (oi:=?oi46) (v:=.agg #[.pointer (some ⟨g1,0,none⟩),.pointer (some ⟨g2,0,none⟩)]) ?hi46 (by kernel_rfl) (by kernel_rfl) (by kernel_rfl) ?hQ46 ?hy46 ?rest46
   case hi46=>simp only [zge]; rfl
   case hQ46=>exact fun _ _ _ h=>h
   case hy46=>exact Or.inl ⟨by rfl,by intro w; go_simp⟩
   try simp only [zpt]
   refine wpAny_ready (rs:=[5]) (by kernel_rfl) (by simp) ?_
   refine AllReady.cons (o:=?o47) ?ho47 (fun K hK=>?_) AllReady.nil
   case ho47=>simp only [zge]; rfl
   refine step_store rfl 97 (.tmp 2) (.tmp 21) rfl w.heap.size 0 rfl [.pointer (some ⟨g1,0,none⟩),.pointer (some ⟨g2,0,none⟩)] rfl 97 [.pointer none,.pointer none] HZ.out HI61.out (by simp) (by simp; exact ⟨rfl,rfl⟩) (hK _ _ ?_)
   clear hK K
   have HZ9:Hid (Blk (v2.setRow w.heap.size #[.pointer (some ⟨g1,0,none⟩),.pointer (some ⟨g2,0,none⟩)]) w.heap.size 97 [.pointer (some ⟨g1,0,none⟩),.pointer (some ⟨g2,0,none⟩)]):=HZ.out.row
   have W9:Hid (Below w.heap.size w (v2.setRow w.heap.size #[.pointer (some ⟨g1,0,none⟩),.pointer (some ⟨g2,0,none⟩)])):=below_setRow HW.out (Nat.le_refl _) _
   have H19:Hid (Holds (v2.setRow w.heap.size #[.pointer (some ⟨g1,0,none⟩),.pointer (some ⟨g2,0,none⟩)]) g1 (Sha.mask 0x36 (Sha.keyBlock key))):=HC1.out.keep (setRow_other _ _ _ _ (by omega))
   have H29:Hid (Holds (v2.setRow w.heap.size #[.pointer (some ⟨g1,0,none⟩),.pointer (some ⟨g2,0,none⟩)]) g2 (Sha.mask 0x5c (Sha.keyBlock key))):=HC2.out.keep (setRow_other _ _ _ _ (by omega))
   simp only [List.take_zero,List.nil_append,List.length_cons,List.length_nil,Nat.zero_add,List.drop_succ_cons,List.drop_zero,List.drop_nil,List.append_nil]
   generalize v2.setRow w.heap.size #[.pointer (some ⟨g1,0,none⟩),.pointer (some ⟨g2,0,none⟩)]=w9 at *
   try simp only [Act.put]
   refine wpAny_done (by kernel_rfl) ?_ _
   clear HC1 HC2 HZ HW HBk HRg
   go_wp2_with fail
   exact bodyPost_ret (results_cell_row rfl _ _ w.heap.size 97 #[.pointer (some ⟨g1,0,none⟩),.pointer (some ⟨g2,0,none⟩)] (0,0) _ rfl HZ9.out Tryd.underlying97 rfl (by rw [HI61.out]; rfl)) rfl ⟨g1,g2,rfl,H19.out,H29.out,W9.out⟩
end Go.Proofs.YtajgjeialbgijaaDoor
namespace Go.Proofs.YtajgjeialbgijaaDoor
set_option linter.unusedVariables false
set_option linter.unusedSimpArgs false
set_option maxRecDepth 100000
open Go.RowKit
def Maced (k m:List UInt8) (D:List Value):Prop:=D=(Sha.hmac k m).map cellOf
theorem Maced.len {k m:List UInt8} {D:List Value} (h:Maced k m D):D.length=32:=by rw [h,List.length_map,Sha.hmac_length]
theorem Maced.one {k m:List UInt8} {D:List Value} (h:Maced k m D):∀ v ∈ D,v.oneCell'=true:=by rw [h]; exact cells_u8 _
theorem Maced.info {k m:List UInt8} {D:List Value} (h:Maced k m D):(Tryd.prog.info? 27).map (·.size)=some D.length:=by rw [h.len]; kernel_rfl
set_option maxRecDepth 100000 in
set_option maxHeartbeats 1000000 in
theorem hmac_any {w:World} {A A':Option Addr} {n c n' c':Nat} {key:List UInt8} {ps:List (List UInt8)} (hg:Gl w) (hr:Rd w A n c key) (hn:n<=1000000000) (hp:RdP w A' n' ps) (hn':n'<=1000000) (hb:ps.flatten.length<=1000000000) :
  Calls Tryd.prog 35 #[.slice A n c,.slice A' n' c'] w fun e w'=>∃ D,e = .returned (.agg D.toArray)/\Maced key ps.flatten D/\Below w.heap.size w w':=by
 have HG:=Lib.hid hg
 have hsz:=hg.size
 have HR:=Lib.hid hr
 have HP:=Lib.hid hp
 clear hg hr hp
 go_enter Tryd.func35,Tryd.ntmps35
 go_upto_region 1 with (fail)
 have W1:=Lib.hid ((Below.refl w.heap.size w).alloc (Nat.le_refl _) (.cells (List.replicate 32 (.int .u8 0)).toArray 27))
 have HZ1:=Lib.hid (Blk.new w 27 (List.replicate 32 (.int .u8 0)))
 have hs1:w.heap.size + 1<=(w.alloc (.cells (List.replicate 32 (.int .u8 0)).toArray 27)).heap.size:=by simp
 change Code.wp _ _ _ _ (w.alloc (.cells (List.replicate 32 (.int .u8 0)).toArray 27))
 generalize w.alloc (.cells (List.replicate 32 (.int .u8 0)).toArray 27)=w1 at *
 have HG1:=Lib.hid (HG.out.below W1.out HG.out.size)
 have HR1:=Lib.hid (HR.out.below W1.out)
 go_wp2_with fail
 refine (begin_any HG1.out HR1.out hn).mono ?_
 rintro e w2 ⟨gi,go,rfl,hHi,hHo,hX⟩
 have HHi:=Lib.hid hHi
 have HHo:=Lib.hid hHo
 have hs2:=hX.size
 have HZ2:=Lib.hid (HZ1.out.below hX HZ1.out.lt)
 have W2:=Lib.hid (W1.out.trans (hX.mono (by omega)))
 have HG2:=Lib.hid (HG.out.below W2.out HG.out.size)
 have HP2:=Lib.hid (HP.out.below W2.out)
 clear hHi hHo hX HR1 HG1 W1 HZ1
 go_wp2_with fail
 refine (ksum_any HG2.out HHi.out HHo.out HP2.out hn' (by rw [Sha.mask_length,Sha.keyBlock_length]; omega) (by rw [Sha.mask_length,Sha.keyBlock_length]; omega)).mono ?_
 rintro e w3 ⟨D,rfl,hS,hX⟩
 have hM:Maced key ps.flatten D:=hS
 have HM:=Lib.hid hM
 have HI:=Lib.hid hM.info
 have HL:Hid ((List.replicate 32 (Value.int .u8 0)).length=D.length):=by unfold Hid; rw [hM.len]; rfl
 have H1:=Lib.hid hM.one
 have HZ3:=Lib.hid (HZ2.out.below hX HZ2.out.lt)
 have W3:=Lib.hid (W2.out.trans (hX.mono (by omega)))
 clear hS hM hX HZ2 W2 HP2 HHi HHo
 go_wp2_with (first
  | ((with_reducible refine storeGen_law rfl 27 (.tmp 4) (.tmp 8) rfl w.heap.size rfl D rfl 27 (List.replicate 32 (.int .u8 0)) HI.out HL.out H1.out w.heap.size w HZ3.out W3.out (Nat.le_refl _) ?_); intro w4 B4 W4))
 exact bodyPost_ret (results_cell_row rfl _ _ w.heap.size 27 D.toArray (0,0) _ rfl B4.out Tryd.underlying27 rfl (by rw [HI.out]; simp)) rfl ⟨D,rfl,HM.out,W4.out⟩
end Go.Proofs.YtajgjeialbgijaaDoor
namespace Go.Proofs.YtajgjeialbgijaaDoor
set_option linter.unusedVariables false
set_option linter.unusedSimpArgs false
set_option maxRecDepth 100000
open Go.RowKit
theorem or_cell (a b:UInt8):bits .or .u8 (a.toNat:Int) (b.toNat:Int)=((a ||| b).toNat:Int):=by
 rw [u8_or_nat _ _ a.toNat_lt b.toNat_lt,UInt8.toNat_or]
theorem or_zero (x a b:UInt8):(x ||| (a ^^^ b))=0 ↔ x=0/\a=b:=by
 rw [UInt8.or_eq_zero_iff,UInt8.xor_eq_zero_iff]
theorem take_same (l r:List UInt8) (k:Nat) (h1:k < l.length) (h2:k < r.length):l.take (k + 1)=r.take (k + 1) ↔ l.take k=r.take k/\l.getD k 0=r.getD k 0:=by
 have e1:l.getD k 0=l[k]:=by simp [List.getD_eq_getElem?_getD,List.getElem?_eq_getElem h1]
 have e2:r.getD k 0=r[k]:=by simp [List.getD_eq_getElem?_getD,List.getElem?_eq_getElem h2]
 rw [show l.take (k + 1)=l.take k ++ [l[k]] from List.take_succ_eq_append_getElem h1,show r.take (k + 1)=r.take k ++ [r[k]] from List.take_succ_eq_append_getElem h2,e1,e2]
 constructor
 ·intro h
  have:=List.append_inj h (by simp; omega)
  exact ⟨this.1,by simpa using this.2⟩
 ·rintro ⟨h,h'⟩
  rw [h,h']
theorem ret_bb {a b:Bool} (h:a=b):Ending.returned (.bool a) = .returned (.bool b):=by rw [h]
def sameB (l r:List UInt8):Bool:=decide (l=r)
set_option maxRecDepth 100000 in
set_option maxHeartbeats 1000000 in
theorem same_any {w:World} {A A':Option Addr} {n c n' c':Nat} {l r:List UInt8} (h1:Rd w A n c l) (h2:Rd w A' n' c' r) :
  Calls Tryd.prog 40 #[.slice A n c,.slice A' n' c'] w fun e w'=>e = .returned (.bool (sameB l r))/\Below w.heap.size w w':=by
 have hc1:=h1.cap
 have hm1:=h1.max
 unfold maxLen at hm1
 have HR1:=Lib.hid h1
 have HR2:=Lib.hid h2
 have HL1:=Lib.hid h1.len
 have HL2:=Lib.hid h2.len
 clear h1 h2
 by_cases hn:n=n'
 ·subst hn
  go_enter Tryd.func40,Tryd.ntmps40
  go_wp2_with fail
  go_loopw [5,14] (fun u i wr=>∃ (k:Nat) (x:UInt8),k<=n/\i = .int .i64 k/\u = .int .u8 (x.toNat:Int)/\Hid (x=0 ↔ l.take k=r.take k)/\Hid (Below w.heap.size w wr)) (fun _ i _=>n - (intOf i).toNat)
  case atStart=>exact ⟨0,0,by omega,rfl,rfl,by unfold Hid; simp,Below.refl _ _⟩
  case round =>
   obtain ⟨k,x,hk,rfl,rfl,HX,HW⟩:=hrel
   by_cases hlt:k < n
   ·obtain ⟨b,off,rfl,hblt,hcell⟩:=HR1.out.at_ (by omega)
    obtain ⟨b',off',rfl,hblt',hcell'⟩:=HR2.out.at_ (by omega)
    have c0:wr.drew.cell? ⟨b,off + k,none⟩=some (.int .u8 ((l.getD k 0).toNat:Int)):=(HW.out.cell (p:=⟨b,off + k,none⟩) hblt).trans (hcell k hlt)
    have c1:wr.drew.cell? ⟨b',off' + k,none⟩=some (.int .u8 ((r.getD k 0).toNat:Int)):=(HW.out.cell (p:=⟨b',off' + k,none⟩) hblt').trans (hcell' k hlt)
    have HX2:Hid ((x ||| (l.getD k 0 ^^^ r.getD k 0))=0 ↔ l.take (k + 1)=r.take (k + 1)):=by
     unfold Hid
     rw [or_zero,take_same l r k (by rw [HL1.out]; exact hlt) (by rw [HL2.out]; exact hlt),HX.out]
    have HW2:=Lib.hid HW.out.drew
    clear hcell hcell' HX HW
    generalize l.getD k 0=y at *
    generalize r.getD k 0=z at *
    have bk:(k:Int) < (n:Int):=by omega
    go_wp2_with fail
    refine wp_region_still_lit (by kernel_rfl) (by kernel_rfl) ?_
    have hD:({ wr with drawn:=wr.drawn + 1 }:World)=wr.drew:=rfl
    rw [hD]
    clear hD
    generalize wr.drew=w2 at *
    repeat still_step
    refine wpStill_nil ?_
    rw [xor_cell,or_cell]
    go_wp2_with fail
    go_roundw
    case rel=>exact ⟨k + 1,x ||| (y ^^^ z),by omega,by go_num,rfl,HX2,HW2⟩
    case measure=>simp [intOf]; omega
   ·have HX2:Hid (x=0 ↔ l=r):=by
     have:=HX.out
     rw [List.take_of_length_le (by rw [HL1.out]; omega),List.take_of_length_le (by rw [HL2.out]; omega)] at this
     exact this
    clear HX
    go_wp2_with fail
    go_ret
    have hb:((x.toNat:Int) == 0)=sameB l r:=by
     unfold sameB
     rw [Bool.eq_iff_iff,decide_eq_true_iff,<- HX2.out]
     simp [<- UInt8.toNat_inj]
    exact ⟨ret_bb hb,HW.out⟩
 ·have hnb:((n:Int) != (n':Int))=true:=by simp; omega
  have HF:Hid (sameB l r=false):=by
   unfold Hid sameB
   rw [decide_eq_false_iff_not]
   intro h
   rw [h] at HL1
   exact hn (HL1.out.symm.trans HL2.out)
  go_enter Tryd.func40,Tryd.ntmps40
  go_wp2_with fail
  go_ret
  rw [HF.out]
  exact ⟨rfl,Below.refl _ _⟩
end Go.Proofs.YtajgjeialbgijaaDoor
namespace Go.Proofs.YtajgjeialbgijaaDoor
set_option linter.unusedVariables false
set_option linter.unusedSimpArgs false
set_option maxRecDepth 100000
open Go.RowKit
namespace Sha
def T (key info:List UInt8):Nat->List UInt8
 | 0=>[]
 | k + 1=>hmac key (T key info k ++ info ++ [UInt8.ofNat (k + 1)])
theorem sums_succ (key info:List UInt8) (n i:Nat):sums key info (n + 1) i (T key info i)=T key info (i + 1) ++ sums key info n (i + 1) (T key info (i + 1)):=rfl
theorem sums_snoc (key info:List UInt8):∀ (n i:Nat),sums key info (n + 1) i (T key info i)=sums key info n i (T key info i) ++ T key info (i + n + 1)
 | 0,i=>by rw [sums_succ]; simp [sums]
 | n + 1,i=>by
  rw [sums_succ,sums_snoc key info n (i + 1),<- List.append_assoc,<- sums_succ,show i + 1 + n + 1=i + (n + 1) + 1 by omega]
theorem T_length (key info:List UInt8) (k:Nat):(T key info k).length<=32:=by
 cases k with
 | zero=>simp [T]
 | succ k=>rw [T,hmac_length]; exact Nat.le_refl _
theorem T_length' (key info:List UInt8) (k:Nat):(T key info (k + 1)).length=32:=by rw [T,hmac_length]
def pre (key info:List UInt8) (k:Nat):List UInt8:=sums key info k 0 (T key info 0)
theorem pre_length (key info:List UInt8) (k:Nat):(pre key info k).length=32 * k:=sums_length _ _ _ _ _
theorem pre_succ (key info:List UInt8) (k:Nat):pre key info (k + 1)=pre key info k ++ T key info (k + 1):=by
 unfold pre
 rw [sums_snoc,Nat.zero_add]
theorem expand_pre (key info:List UInt8) (n k:Nat) (h1:n<=32 * k) (h2:32 * k < n + 32):expand key info n=(pre key info k).take n:=by
 have e:k=(n + 31) / 32:=by omega
 unfold expand pre
 rw [e]
 rfl
end Sha
def outC (p:List UInt8) (n:Nat):List Value:=(p.take n).map cellOf ++ List.replicate (n - p.length) (.int .u8 0)
theorem outC_length (p:List UInt8) (n:Nat):(outC p n).length=n:=by simp [outC]; omega
theorem out_step (p t:List UInt8) (n j:Nat) (hp:p.length=j) (ht:t.length=32) (h:j < n) :
  (outC p n).take j ++ (t.take (min 32 (n - j))).map cellOf ++ (outC p n).drop (j + min 32 (n - j))=outC (p ++ t) n:=by
 have e1:p.take n=p:=List.take_of_length_le (by omega)
 unfold outC
 rw [e1,List.take_append_of_le_length (by simp; omega),List.take_of_length_le (by simp; omega),List.drop_append,List.drop_of_length_le (by simp; omega),List.nil_append,List.drop_replicate,List.length_map,hp]
 rw [List.take_append,e1,hp,List.length_append,hp,ht,List.map_append]
 have e2:t.take (min 32 (n - j))=t.take (n - j):=by
  rcases Nat.le_total 32 (n - j) with h' | h'
  ·rw [Nat.min_eq_left h',List.take_of_length_le (by omega),List.take_of_length_le (by omega)]
  ·rw [Nat.min_eq_right h']
 rw [e2]
 congr 2
 omega
theorem out_end (p:List UInt8) (n:Nat) (h:n<=p.length):outC p n=(p.take n).map cellOf:=by
 unfold outC
 rw [Nat.sub_eq_zero_of_le h]
 simp
theorem make_bytes (n:Nat) (h:n<=140737488355328) (W:World) :
  (Instr.makeSlice 41 (.int .i64 (n:Int)) (.int .i64 (n:Int))).run Tryd.prog W = .ok (.slice (some ⟨W.heap.size,0,none⟩) n n) (W.alloc (.cells (outC [] n).toArray 5)):=by
 obtain ⟨i0,hi,hz0,hz1,hz2⟩:=info_parts info5
 have hr:=run_make (P:=Tryd.prog) W 41 5 i0 (.int .u8 0) Tryd.underlying41 hi hz0 .i64 .i64 (n:Int) (n:Int) (by omega) (by omega) (by rw [hz2]; omega) (by omega)
 rw [hz1,Int.toNat_natCast,Nat.mul_one] at hr
 have e:madeCells #[.int .u8 0] n=(outC [] n).toArray:=by
  apply Array.ext'
  rw [toList_madeCells_one]
  simp [outC]
 rw [<- e]
 exact hr
theorem lit_parts3 (w:World) {A A' A'':Option Addr} {n c n' c' n'' c'':Nat} {l l' l'':List UInt8} (h:Rd w A n c l) (h':Rd w A' n' c' l') (h'':Rd w A'' n'' c'' l'') :
  RdP (w.alloc (.cells #[.slice A n c,.slice A' n' c',.slice A'' n'' c''] 41)) (some ⟨w.heap.size,0,none⟩) 3 [l,l',l''] :=
 ⟨rfl,fun j hj=>by
  have hX:=(Below.refl w.heap.size w).alloc (Nat.le_refl _) (.cells #[.slice A n c,.slice A' n' c',.slice A'' n'' c''] 41)
  have hB:=Blk.new w 41 [.slice A n c,.slice A' n' c',.slice A'' n'' c'']
  match j,hj with
  | 0,_=>exact ⟨w.heap.size,0,A,n,c,rfl,by simp,hB.cell 0,h.below hX⟩
  | 1,_=>exact ⟨w.heap.size,0,A',n',c',rfl,by simp,hB.cell 1,h'.below hX⟩
  | 2,_=>exact ⟨w.heap.size,0,A'',n'',c'',rfl,by simp,hB.cell 2,h''.below hX⟩⟩
theorem lit_bytes1 (w:World) (x:UInt8):Rd (w.alloc (.cells #[.int .u8 (x.toNat:Int)] 5)) (some ⟨w.heap.size,0,none⟩) 1 1 [x] :=
 Rd.of_block (Blk.new w 5 [cellOf x]) rfl (Nat.le_refl _) (by unfold maxLen; omega) (fun j hj=>by
  obtain rfl:j=0:=by omega
  rfl)
set_option maxRecDepth 100000 in
set_option maxHeartbeats 2000000 in
theorem expand_any {w:World} {A A':Option Addr} {nk ck ni ci:Nat} {key info:List UInt8} (hg:Gl w) (hr:Rd w A nk ck key) (hn:nk<=1000000000) (hi:Rd w A' ni ci info) (hni:ni<=1000000) (n:Nat) (h1:1<=n) (h2:n<=8160) :
  Calls Tryd.prog 102 #[.slice A nk ck,.slice A' ni ci,.int .i64 (n:Int)] w fun e w'=>∃ g,e = .returned (.slice (some ⟨g,0,none⟩) n n)/\Rd w' (some ⟨g,0,none⟩) n n (Sha.expand key info n)/\w.heap.size<=g/\Below w.heap.size w w':=by
 have HG:=Lib.hid hg
 have hsz:=hg.size
 have HR:=Lib.hid hr
 have HI:=Lib.hid hi
 have HIL:=Lib.hid hi.len
 clear hg hr hi
 have hmk:=fun W=>make_bytes n (by omega) W
 have b1:((n:Int) < 1)=False:=by simp; omega
 have b2:((8160:Int) < (n:Int))=False:=by simp; omega
 go_enter Tryd.func102,Tryd.ntmps102
 go_upto_region 3 with (fail)
 go_wp2_with fail
 refine (begin_any HG.out HR.out hn).mono ?_
 rintro e w1 ⟨g1,g2,rfl,hH1,hH2,hX⟩
 have HH1:=Lib.hid hH1
 have HH2:=Lib.hid hH2
 have hl1:=hH1.lt
 have hl2:=hH2.lt
 have W1:=Lib.hid hX
 have hs1:=hX.size
 have HI61:Hid ((Tryd.prog.info? 97).map (·.size)=some 2):=by unfold Hid; kernel_rfl
 clear hX hH1 hH2
 go_upto_region 4 with (fail)
 have B2:=Lib.hid (Blk.new w1 97 [.pointer (some ⟨g1,0,none⟩),.pointer (some ⟨g2,0,none⟩)])
 have X2:=Lib.hid ((Below.refl w1.heap.size w1).alloc (Nat.le_refl _) (.cells [.pointer (some ⟨g1,0,none⟩),.pointer (some ⟨g2,0,none⟩)].toArray 97))
 change Code.wp _ _ _ _ (w1.alloc (.cells [.pointer (some ⟨g1,0,none⟩),.pointer (some ⟨g2,0,none⟩)].toArray 97))
 generalize w1.alloc (.cells [.pointer (some ⟨g1,0,none⟩),.pointer (some ⟨g2,0,none⟩)].toArray 97)=w2 at *
 have hs2:w1.heap.size + 1<=w2.heap.size:=B2.out.lt
 replace HH1:Hid (Holds w2 g1 (Sha.mask 0x36 (Sha.keyBlock key))):=HH1.out.keep (X2.out.block g1 hl1)
 replace HH2:Hid (Holds w2 g2 (Sha.mask 0x5c (Sha.keyBlock key))):=HH2.out.keep (X2.out.block g2 hl2)
 have W2:=Lib.hid (W1.out.trans (X2.out.mono (by omega)))
 clear X2 W1
 go_wp2_with fail
 clear hmk
 go_loopw [9,10] (fun v i wr=>∃ (k:Nat) (B:Option Addr) (q qc:Nat),k<=255/\32 * k < n + 32/\i = .int .i64 k/\v = .slice B q qc/\Hid (Rd wr B q qc (Sha.T key info k))/\Hid (Holds wr g1 (Sha.mask 0x36 (Sha.keyBlock key)))/\Hid (Holds wr g2 (Sha.mask 0x5c (Sha.keyBlock key)))/\Hid (Blk wr w1.heap.size 97 [.pointer (some ⟨g1,0,none⟩),.pointer (some ⟨g2,0,none⟩)])/\Hid (Blk wr w2.heap.size 5 (outC (Sha.pre key info k) n))/\Hid (Below w.heap.size w wr)) (fun _ i _=>256 - (intOf i).toNat)
 case atStart =>
  have X:=(Below.refl w2.heap.size w2).alloc (Nat.le_refl _) (.cells (outC [] n).toArray 5)
  exact ⟨0,none,0,0,by omega,by omega,rfl,rfl,Rd.nil _ _ _ (by unfold maxLen; omega),HH1.out.keep (X.block g1 (by omega)),HH2.out.keep (X.block g2 (by omega)),B2.out.alloc _,Blk.at_new _ _ 5 _ _ rfl rfl,W2.out.trans (X.mono (by omega))⟩
 case round =>
  clear HH1 HH2 B2 W2
  obtain ⟨k,B,q,qc,hk,hk2,rfl,rfl,HT,HH1,HH2,BK,BO,W⟩:=hrel
  by_cases hlt:32 * k < n
  ·have hlb:(k:Int) * 32 < (n:Int):=by omega
   have hwr:=BO.out.lt
   have c0:wr.cell? ⟨w1.heap.size,0,none⟩=some (.pointer (some ⟨g1,0,none⟩)):=BK.out.cell 0
   have c1:wr.cell? ⟨w1.heap.size,1,none⟩=some (.pointer (some ⟨g2,0,none⟩)):=BK.out.cell 1
   obtain ⟨x,hx⟩:∃ x:UInt8,x=UInt8.ofNat (k + 1):=⟨_,rfl⟩
   have hxe:((k:Int) + 1)=(x.toNat:Int):=by rw [hx]; simp; omega
   have hxe2:((k:Int) + 1) % 256=(x.toNat:Int):=by rw [hx]; simp
   have HXX:=Lib.hid hx
   have X1:=Lib.hid ((Below.refl wr.heap.size wr).alloc (Nat.le_refl _) (.cells #[.int .u8 (x.toNat:Int)] 5))
   have X2:=Lib.hid (X1.out.trans ((((Below.refl _ _).alloc (Nat.le_refl _) (.cells #[.slice B q qc,.slice A' ni ci,.slice (some ⟨wr.heap.size,0,none⟩) 1 1] 41))).mono X1.out.size))
   have HP:=Lib.hid (lit_parts3 _ (HT.out.below X1.out) ((HI.out.below W.out).below X1.out) (lit_bytes1 wr x))
   have hcall:=Lib.hid (ksum_any (c:=3) ((HG.out.below W.out HG.out.size).below X2.out (HG.out.below W.out HG.out.size).size) (HH1.out.keep (X2.out.block g1 (by omega))) (HH2.out.keep (X2.out.block g2 (by omega))) HP.out (by omega) (by have:=Sha.T_length key info k; simp [Sha.mask_length,Sha.keyBlock_length,HIL.out]; omega) (by rw [Sha.mask_length,Sha.keyBlock_length]; omega))
   clear hx
   have esz:(wr.alloc (.cells #[.int .u8 (x.toNat:Int)] 5)).heap.size=wr.heap.size + 1:=by simp
   rw [esz] at hcall
   have hs2x:=X2.out.size
   go_wp2_with fail
   clear hxe hxe2 esz
   refine hcall.out.mono ?_
   rintro e w3 ⟨D,rfl,hS,hX⟩
   have hM:D=(Sha.T key info (k + 1)).map cellOf:=by
    have h0:D=(Sha.hmac key ([Sha.T key info k,info,[x]].flatten)).map cellOf:=hS
    rw [h0,Sha.T,HXX.out]
    simp
   have hDl:D.length=32:=by rw [hM,List.length_map,Sha.T_length']
   have HM:=Lib.hid hM
   have HI30:Hid ((Tryd.prog.info? 27).map (·.size)=some D.length):=by unfold Hid; rw [hDl]; kernel_rfl
   have HL30:Hid ((List.replicate 32 (Value.int .u8 0)).length=D.length):=by unfold Hid; rw [hDl]; rfl
   have H130:Hid (∀ v ∈ D,v.oneCell'=true):=by unfold Hid; rw [hM]; exact cells_u8 _
   have X3:Hid (Below wr.heap.size wr w3):=X2.out.trans (hX.mono hs2x)
   have hs3:=X3.out.size
   clear hX hS hM hDl hcall HP X1 X2 c0 c1
   go_upto_region 10 with (first
    | ((with_reducible refine storeGen_law rfl 27 (.tmp 11) (.tmp 36) rfl w3.heap.size rfl D rfl 27 (List.replicate 32 (.int .u8 0)) HI30.out HL30.out H130.out w3.heap.size w3 ?_ ?_ (Nat.le_refl _) ?_)
       ·exact Blk.at_new _ _ 27 _ _ (by rfl) rfl
       ·exact (Below.refl _ _).alloc (Nat.le_refl _) _
       intro w4 B4 X4))
   try simp only [Act.put]
   have hs4:=X4.out.size
   have X5:Hid (Below wr.heap.size wr w4.drew):=(X3.out.trans (X4.out.mono (show wr.heap.size<=w3.heap.size by omega))).drew
   replace B4:Hid (Blk w4.drew w3.heap.size 27 D):=B4.out.drew
   have hs5:w3.heap.size<=w4.drew.heap.size:=hs4
   clear X3 X4 hs4
   refine wp_region_any (by kernel_rfl) ?_
   change wpAny _ _ _ _ _ _ _ (World.drew _)
   generalize w4.drew=w5 at *
   have hs6:=B4.out.lt
   replace HH1:Hid (Holds w5 g1 (Sha.mask 0x36 (Sha.keyBlock key))):=HH1.out.keep (X5.out.block g1 (by omega))
   replace HH2:Hid (Holds w5 g2 (Sha.mask 0x5c (Sha.keyBlock key))):=HH2.out.keep (X5.out.block g2 (by omega))
   replace BK:=Lib.hid (BK.out.below X5.out (by omega))
   replace BO:=Lib.hid (BO.out.below X5.out (by omega))
   replace W:=Lib.hid (W.out.trans (X5.out.mono (by omega)))
   have HR5:Hid (Rd w5 (some ⟨w3.heap.size,0,none⟩) 32 32 (Sha.T key info (k + 1))) :=
    Rd.of_block B4.out (Sha.T_length' _ _ _) (Nat.le_refl _) (by unfold maxLen; omega) (fun j hj=>by
     have hj':j < (Sha.T key info (k + 1)).length:=by rw [Sha.T_length']; exact hj
     rw [HM.out]
     simp [List.getD_eq_getElem?_getD,List.getElem?_eq_getElem hj'])
   obtain ⟨j,hj⟩:∃ j,j=32 * k:=⟨_,rfl⟩
   have ej:IntKind.i64.wrap ((k:Int) * 32)=(j:Int):=by rw [IntKind.wrap_i64]; omega
   have hjn:j < n:=by omega
   have hsl:∀ W,(Instr.slice 41 (.slice (some ⟨w2.heap.size,0,none⟩) n n) (some (.int .i64 (j:Int))) none none).run Tryd.prog W = .ok (.slice (some ⟨w2.heap.size,j,none⟩) (n - j) (n - j)) W:=fun W=>by
    rw [slice_l (some ⟨w2.heap.size,0,none⟩) n n j (by omega) W]
    unfold cutA
    rw [if_neg (by omega)]
    simp only [Option.map_some,add_plain,Nat.zero_add]
   obtain ⟨w6,hcopy,hB6,hO6⟩:=copy_into (off:=j) (dLen:=n - j) (dCap:=n - j) BO.out HR5.out (by rw [outC_length]; omega)
   rw [out_step _ _ n j (by rw [Sha.pre_length,hj]) (Sha.T_length' _ _ _) hjn,<- Sha.pre_succ] at hB6
   have HB6:=Lib.hid hB6
   have HO6:=Lib.hid hO6
   have HJ:=Lib.hid hj
   clear hB6 hO6 hj
   refine wpAny_take (i:=0) (oi:=?oi1) (v:=.slice (some ⟨w2.heap.size,0,none⟩) n n) ?hi1 (by kernel_rfl) (by kernel_rfl) (by kernel_rfl) ?hQ1 ?hy1 ?rest1
   case hi1=>simp only [zge]; rfl
   case hQ1=>exact fun _ _ _ h=>h
   case hy1=>exact Or.inl ⟨by rfl,by intro w; go_simp⟩
   try simp only [zpt]
   refine wpAny_take (i:=1) (oi:=?oi2) (v:=.int .i64 (k:Int)) ?hi2 (by kernel_rfl) (by kernel_rfl) (by kernel_rfl) ?hQ2 ?hy2 ?rest2
   case hi2=>simp only [zge]; rfl
   case hQ2=>exact fun _ _ _ h=>h
   case hy2=>exact Or.inl ⟨by rfl,by intro w; go_simp⟩
   try simp only [zpt]
   refine wpAny_take (i:=2) (oi:=?oi3) (v:=.int .i64 (j:Int)) ?hi3 (by kernel_rfl) (by kernel_rfl) (by kernel_rfl) ?hQ3 ?hy3 ?rest3
   case hi3=>simp only [zge]; rfl
   case hQ3=>exact fun _ _ _ h=>h
   case hy3=>exact Or.inl ⟨by rfl,by intro w; go_simp⟩
   try simp only [zpt]
   refine wpAny_take (i:=3) (oi:=?oi4) (v:=.slice (some ⟨w2.heap.size,j,none⟩) (n - j) (n - j)) ?hi4 (by kernel_rfl) (by kernel_rfl) (by kernel_rfl) ?hQ4 ?hy4 ?rest4
   case hi4=>simp only [zge]; rfl
   case hQ4=>exact fun _ _ _ h=>h
   case hy4=>exact Or.inl ⟨by rfl,by intro w; go_simp⟩
   try simp only [zpt]
   refine wpAny_take (i:=4) (oi:=?oi5) (v:=.slice (some ⟨w3.heap.size,0,none⟩) 32 32) ?hi5 (by kernel_rfl) (by kernel_rfl) (by kernel_rfl) ?hQ5 ?hy5 ?rest5
   case hi5=>simp only [zge]; rfl
   case hQ5=>exact fun _ _ _ h=>h
   case hy5=>exact Or.inl ⟨by rfl,by intro w; go_simp⟩
   try simp only [zpt]
   refine wpAny_ready (rs:=[5]) (by kernel_rfl) (by simp) ?_
   refine AllReady.cons (o:=?o6) ?ho6 (fun K hK=>?_) AllReady.nil
   case ho6=>simp only [zge]; rfl
   go_simp
   refine hK _ _ ?_
   clear hK K hcopy hsl ej
   try simp only [Act.put]
   refine wpAny_done (by kernel_rfl) ?_ _
   replace HH1:Hid (Holds w6 g1 (Sha.mask 0x36 (Sha.keyBlock key))):=HH1.out.keep (HO6.out.block g1 (by omega) (by simp; omega))
   replace HH2:Hid (Holds w6 g2 (Sha.mask 0x5c (Sha.keyBlock key))):=HH2.out.keep (HO6.out.block g2 (by omega) (by simp; omega))
   replace BK:Hid (Blk w6 w1.heap.size 97 [.pointer (some ⟨g1,0,none⟩),.pointer (some ⟨g2,0,none⟩)]):=(HO6.out.block _ BK.out.lt (by simp; omega)).trans BK.out
   replace W:Hid (Below w.heap.size w w6):=below_of_only W.out HO6.out (by omega) (by omega)
   replace HR5:=Lib.hid (HR5.out.grown HO6.out (fun _ ad had=>by injection had with had; subst had; simp; omega))
   clear BO B4 X5 HO6
   go_wp2_with fail
   go_roundw
   case rel=>exact ⟨k + 1,_,_,_,by omega,by omega,by go_num,rfl,HR5,HH1,HH2,BK,HB6,W⟩
   case measure=>simp [intOf]; omega
  ·have hlb:((k:Int) * 32 < (n:Int))=False:=by simp; omega
   have HE:Hid (Rd wr (some ⟨w2.heap.size,0,none⟩) n n (Sha.expand key info n)):=by
    have e:=Sha.expand_pre key info n k (by omega) hk2
    have hB:=BO.out
    rw [out_end _ _ (by rw [Sha.pre_length]; omega),<- e] at hB
    exact Rd.of_block hB (Sha.expand_length _ _ _) (Nat.le_refl _) (by unfold maxLen; omega) (fun j hj=>by
     have hj':j < (Sha.expand key info n).length:=by rw [Sha.expand_length]; exact hj
     simp [List.getD_eq_getElem?_getD,List.getElem?_eq_getElem hj'])
   clear BO
   go_wp2_with fail
   go_ret
   exact ⟨_,rfl,HE.out,by omega,W.out⟩
end Go.Proofs.YtajgjeialbgijaaDoor
namespace Go.Proofs.YtajgjeialbgijaaDoor.Sha
set_option linter.unusedVariables false
set_option linter.unusedSimpArgs false
set_option maxRecDepth 100000
theorem sum_abc:((sum [97,98,99]).getD 0 0,(sum [97,98,99]).getD 1 0,(sum [97,98,99]).getD 31 0)=(0xba,0x78,0xad):=by kernel_rfl
def jefe:List UInt8:=[74,101,102,101]
def what:List UInt8:=[119,104,97,116,32,100,111,32,121,97,32,119,97,110,116,32]
def nothing:List UInt8:=[102,111,114,32,110,111,116,104,105,110,103,63]
theorem hmac_jefe:((hmac jefe (what ++ nothing)).getD 0 0,(hmac jefe (what ++ nothing)).getD 1 0,(hmac jefe (what ++ nothing)).getD 31 0)=(0x5b,0xdc,0x43):=by kernel_rfl
end Go.Proofs.YtajgjeialbgijaaDoor.Sha
namespace Go.Proofs.YtajgjeialbgijaaDoor
set_option linter.unusedVariables false
set_option linter.unusedSimpArgs false
set_option maxRecDepth 100000
open Go.RowKit
theorem lit_bytesF (w:World) (l:List UInt8) (a:Array Value) (n g:Nat) (fr:Nat × Nat) (ha:a=(l.map cellOf).toArray) (hn:l.length=n) (hm:n<=1000000) (hg:g=w.heap.size):Rd (w.alloc (.cells a 5 fr)) (some ⟨g,0,none⟩) n n l:=by
 subst hg
 refine ⟨hn,Nat.le_refl _,by unfold maxLen; omega,fun _=>⟨w.heap.size,0,rfl,by simp,fun j hj=>?_⟩⟩
 have hj':j < l.length:=by omega
 rw [Nat.zero_add,cell_of_row _ _ j a 5 fr (heap_alloc_new w _),ha]
 simp [List.getD_eq_getElem?_getD,List.getElem?_eq_getElem hj']
theorem lit_bytes (w:World) (l:List UInt8) (a:Array Value) (n g:Nat) (ha:a=(l.map cellOf).toArray) (hn:l.length=n) (hm:n<=1000000) (hg:g=w.heap.size):Rd (w.alloc (.cells a 5)) (some ⟨g,0,none⟩) n n l:=lit_bytesF w l a n g (0,0) ha hn hm hg
theorem conv23 (W:World) (C:Array Value) (n c:Nat):(convert 41 41 (.slice (some ⟨W.heap.size,0,none⟩) n c)).run Tryd.prog (W.alloc (.cells C 5)) = .ok (.slice (some ⟨W.heap.size,0,none⟩) n c) (W.alloc (.cells C 5 (C.size,C.size + 1))) :=
 Lib.run_convert_bytes_const W 41 5 C n c Tryd.underlying41 Tryd.underlying5
theorem conv23a (W:World) (A:Obj) (C:Array Value) (n c:Nat):(convert 41 41 (.slice (some ⟨W.heap.size + 1,0,none⟩) n c)).run Tryd.prog ((W.alloc A).alloc (.cells C 5)) = .ok (.slice (some ⟨W.heap.size + 1,0,none⟩) n c) ((W.alloc A).alloc (.cells C 5 (C.size,C.size + 1))):=by
 have h:=conv23 (W.alloc A) C n c
 rw [World.size_alloc] at h
 exact h
theorem conv23b (W:World) (A B:Obj) (C:Array Value) (n c:Nat):(convert 41 41 (.slice (some ⟨W.heap.size + 1 + 1,0,none⟩) n c)).run Tryd.prog (((W.alloc A).alloc B).alloc (.cells C 5)) = .ok (.slice (some ⟨W.heap.size + 1 + 1,0,none⟩) n c) (((W.alloc A).alloc B).alloc (.cells C 5 (C.size,C.size + 1))):=by
 have h:=conv23 ((W.alloc A).alloc B) C n c
 rw [World.size_alloc,World.size_alloc] at h
 exact h
theorem lit_parts1' (w:World) {A:Option Addr} {n c g:Nat} {l:List UInt8} (h:Rd w A n c l) (hg:g=w.heap.size):RdP (w.alloc (.cells #[.slice A n c] 41)) (some ⟨g,0,none⟩) 1 [l]:=by subst hg; exact lit_parts1 w h
theorem lit_parts2 (w:World) {A A':Option Addr} {n c n' c' g:Nat} {l l':List UInt8} (h:Rd w A n c l) (h':Rd w A' n' c' l') (hg:g=w.heap.size) :
  RdP (w.alloc (.cells #[.slice A n c,.slice A' n' c'] 41)) (some ⟨g,0,none⟩) 2 [l,l']:=by
 subst hg
 refine ⟨rfl,fun j hj=>?_⟩
 have hX:=(Below.refl w.heap.size w).alloc (Nat.le_refl _) (.cells #[.slice A n c,.slice A' n' c'] 41)
 have hB:=Blk.new w 41 [.slice A n c,.slice A' n' c']
 match j,hj with
 | 0,_=>exact ⟨w.heap.size,0,A,n,c,rfl,by simp,hB.cell 0,h.below hX⟩
 | 1,_=>exact ⟨w.heap.size,0,A',n',c',rfl,by simp,hB.cell 1,h'.below hX⟩
theorem alloc_below (w:World) (o:Obj):Below w.heap.size w (w.alloc o):=(Below.refl _ _).alloc (Nat.le_refl _) _
theorem Summed.at_ {m:List UInt8} {D:List Value} (h:Summed m D) (j:Nat) (hj:j < 32):D[j]?=some (.int .u8 (((Sha.sum m).getD j 0).toNat:Int)):=by
 rw [h]; exact bytes_at _ j (by rw [Sha.sum_length]; exact hj)
theorem Maced.at_ {k m:List UInt8} {D:List Value} (h:Maced k m D) (j:Nat) (hj:j < 32):D[j]?=some (.int .u8 (((Sha.hmac k m).getD j 0).toNat:Int)):=by
 rw [h]; exact bytes_at _ j (by rw [Sha.hmac_length]; exact hj)
theorem Maced.rd {w:World} {g:Nat} {t:TypeId} {k m:List UInt8} {D:List Value} (h:Maced k m D) (hb:Blk w g t D):Rd w (some ⟨g,0,none⟩) 32 32 (Sha.hmac k m) :=
 Rd.of_block hb (Sha.hmac_length _ _) (Nat.le_refl _) (by unfold maxLen; omega) (fun j hj=>by
  have hj':j < (Sha.hmac k m).length:=by rw [Sha.hmac_length]; exact hj
  rw [h]
  simp [List.getD_eq_getElem?_getD,List.getElem?_eq_getElem hj'])
theorem Summed.rd {w:World} {g:Nat} {t:TypeId} {m:List UInt8} {D:List Value} (h:Summed m D) (hb:Blk w g t D):Rd w (some ⟨g,0,none⟩) 32 32 (Sha.sum m) :=
 Rd.of_block hb (Sha.sum_length _) (Nat.le_refl _) (by unfold maxLen; omega) (fun j hj=>by
  have hj':j < (Sha.sum m).length:=by rw [Sha.sum_length]; exact hj
  rw [h]
  simp [List.getD_eq_getElem?_getD,List.getElem?_eq_getElem hj'])
theorem abc:(Sha.sum [97,98,99]).getD 0 0=0xba/\(Sha.sum [97,98,99]).getD 1 0=0x78/\(Sha.sum [97,98,99]).getD 31 0=0xad:=by
 have h:=Sha.sum_abc
 rw [Prod.mk.injEq,Prod.mk.injEq] at h
 exact h
theorem abc0:((Sha.sum [97,98,99]).getD 0 0).toNat=186:=by rw [abc.1]; rfl
theorem abc1:((Sha.sum [97,98,99]).getD 1 0).toNat=120:=by rw [abc.2.1]; rfl
theorem abc31:((Sha.sum [97,98,99]).getD 31 0).toNat=173:=by rw [abc.2.2]; rfl
theorem jef:(Sha.hmac Sha.jefe (Sha.what ++ Sha.nothing)).getD 0 0=0x5b/\(Sha.hmac Sha.jefe (Sha.what ++ Sha.nothing)).getD 1 0=0xdc/\(Sha.hmac Sha.jefe (Sha.what ++ Sha.nothing)).getD 31 0=0x43:=by
 have h:=Sha.hmac_jefe
 rw [Prod.mk.injEq,Prod.mk.injEq] at h
 exact h
theorem jef0:((Sha.hmac Sha.jefe (Sha.what ++ Sha.nothing)).getD 0 0).toNat=91:=by rw [jef.1]; rfl
theorem jef1:((Sha.hmac Sha.jefe (Sha.what ++ Sha.nothing)).getD 1 0).toNat=220:=by rw [jef.2.1]; rfl
theorem jef31:((Sha.hmac Sha.jefe (Sha.what ++ Sha.nothing)).getD 31 0).toNat=67:=by rw [jef.2.2]; rfl
theorem same_t:sameB [1] [1]=true:=by decide
theorem same_f:sameB [1] [2]=false:=by decide
set_option maxRecDepth 100000 in
set_option maxHeartbeats 2000000 in
theorem begun_any {w:World} (hg:Gl w):Calls Tryd.prog 99 #[] w fun e w'=>e = .returned (.bool true)/\Below w.heap.size w w':=by
 have HG:=Lib.hid hg
 have hsz:=hg.size
 clear hg
 have hcv:=conv23
 have hcva:=conv23a
 have hcvb:=conv23b
 go_enter Tryd.func99,Tryd.ntmps99
 go_wp2_with fail
 have X1:=Lib.hid (alloc_below w (.cells #[.int .u8 97,.int .u8 98,.int .u8 99] 5 (3,4)))
 have X2:=Lib.hid (X1.out.trans ((alloc_below (w.alloc (.cells #[.int .u8 97,.int .u8 98,.int .u8 99] 5 (3,4))) (.cells #[.slice (some ⟨w.heap.size,0,none⟩) 3 3] 41)).mono X1.out.size))
 have HG2:=Lib.hid (HG.out.below X2.out HG.out.size)
 refine (shaSum_any (c:=1) HG2.out (lit_parts1' (g:=w.heap.size + 1) _ (lit_bytesF w [97,98,99] _ 3 _ _ (by rfl) rfl (by omega) rfl) (by simp)) (by omega) (by simp)).mono ?_
 rintro e w3 ⟨D,rfl,hS,hX⟩
 simp only [List.flatten_cons,List.flatten_nil,List.append_nil] at hS
 have HS:=Lib.hid hS
 have HI:=Lib.hid hS.info
 have HL:Hid ((List.replicate 32 (Value.int .u8 0)).length=D.length):=by unfold Hid; rw [hS.len]; rfl
 have H1:=Lib.hid hS.one
 have W3:Hid (Below w.heap.size w w3):=X2.out.trans (hX.mono X2.out.size)
 clear hS hX HG2 X1 X2
 go_upto_region 2 with (first
  | ((with_reducible refine storeGen_law rfl 27 (.tmp 1) (.tmp 6) rfl w3.heap.size rfl D rfl 27 (List.replicate 32 (.int .u8 0)) HI.out HL.out H1.out w3.heap.size w3 ?_ ?_ (Nat.le_refl _) ?_)
     ·exact Blk.at_new _ _ 27 _ _ (by rfl) rfl
     ·exact (Below.refl _ _).alloc (Nat.le_refl _) _
     intro w4 B4 X4))
 have W4:Hid (Below w.heap.size w w4):=W3.out.trans (X4.out.mono W3.out.size)
 have hb4:=B4.out.lt
 obtain ⟨gh,hgh⟩:∃ gh,gh=w3.heap.size:=⟨_,rfl⟩
 rw [<- hgh] at B4 hb4
 rw [<- hgh]
 have hsw:=W3.out.size
 have hsgh:w.heap.size<=gh:=by omega
 clear HI HL H1 W3 X4 hgh hsw
 go_wp2_with fail
 have X5:=Lib.hid (alloc_below w4 (.cells #[.int .u8 74,.int .u8 101,.int .u8 102,.int .u8 101] 5 (4,5)))
 obtain ⟨w5,hw5⟩:∃ w5,w5=w4.alloc (.cells #[.int .u8 74,.int .u8 101,.int .u8 102,.int .u8 101] 5 (4,5)):=⟨_,rfl⟩
 have R5:Hid (Rd w5 (some ⟨w4.heap.size,0,none⟩) 4 4 Sha.jefe):=by unfold Hid; rw [hw5]; exact lit_bytesF w4 _ _ 4 _ _ (by rfl) rfl (by omega) rfl
 have s5:w5.heap.size=w4.heap.size + 1:=by rw [hw5]; simp
 rw [<- hw5] at X5
 obtain ⟨w6,hw6⟩:∃ w6,w6=w5.alloc (.cells (Sha.what.map cellOf).toArray 5 (16,17)):=⟨_,rfl⟩
 have X6:Hid (Below w5.heap.size w5 w6):=by unfold Hid; rw [hw6]; exact alloc_below _ _
 have R6:Hid (Rd w6 (some ⟨w4.heap.size + 1,0,none⟩) 16 16 Sha.what):=by unfold Hid; rw [hw6]; exact lit_bytesF w5 _ _ 16 _ _ (by rfl) rfl (by omega) (by omega)
 have s6:w6.heap.size=w4.heap.size + 2:=by rw [hw6]; simp; omega
 obtain ⟨w7,hw7⟩:∃ w7,w7=w6.alloc (.cells (Sha.nothing.map cellOf).toArray 5 (12,13)):=⟨_,rfl⟩
 have X7:Hid (Below w6.heap.size w6 w7):=by unfold Hid; rw [hw7]; exact alloc_below _ _
 have R7:Hid (Rd w7 (some ⟨w4.heap.size + 1 + 1,0,none⟩) 12 12 Sha.nothing):=by unfold Hid; rw [hw7]; exact lit_bytesF w6 _ _ 12 _ _ (by rfl) rfl (by omega) (by omega)
 have s7:w7.heap.size=w4.heap.size + 3:=by rw [hw7]; simp; omega
 have HP:=Lib.hid (lit_parts2 (g:=w4.heap.size + 1 + 1 + 1) w7 (R6.out.below X7.out) R7.out (by omega))
 have X8:=Lib.hid (alloc_below w7 (.cells #[.slice (some ⟨w4.heap.size + 1,0,none⟩) 16 16,.slice (some ⟨w4.heap.size + 1 + 1,0,none⟩) 12 12] 41))
 have X48:=Lib.hid ((X5.out.trans (X6.out.mono (by omega))).trans ((X7.out.mono (by omega)).trans (X8.out.mono (by omega))))
 have HR8:=Lib.hid (((R5.out.below X6.out).below X7.out).below X8.out)
 have W8:=Lib.hid (W4.out.trans (X48.out.mono W4.out.size))
 have HG8:=Lib.hid (HG.out.below W8.out HG.out.size)
 have hcall:=Lib.hid (hmac_any (c':=2) HG8.out HR8.out (by omega) HP.out (by omega) (by decide))
 rw [hw7,hw6,hw5] at hcall
 have hcall2:Hid (Calls Tryd.prog 35 #[.slice (some ⟨w4.heap.size,0,none⟩) 4 4,.slice (some ⟨w4.heap.size + 1 + 1 + 1,0,none⟩) 2 2] _ _):=hcall
 refine hcall2.out.mono ?_
 rintro e w9 ⟨D2,rfl,hM,hX⟩
 rw [<- hw5,<- hw6,<- hw7] at hX
 simp only [List.flatten_cons,List.flatten_nil,List.append_nil] at hM
 have HM:=Lib.hid hM
 have HI:=Lib.hid hM.info
 have HL:Hid ((List.replicate 32 (Value.int .u8 0)).length=D2.length):=by unfold Hid; rw [hM.len]; rfl
 have H1:=Lib.hid hM.one
 have W9:Hid (Below w.heap.size w w9):=W8.out.trans (hX.mono W8.out.size)
 have B9:Hid (Blk w9 gh 27 D):=(B4.out.below X48.out hb4).below hX (by have:=X48.out.size; omega)
 clear hM hX hcall hcall2 HR8 HG8 HP X8 X48 R5 R6 R7 X5 X6 X7 s5 s6 s7 hw5 hw6 hw7 W8 B4 W4 hb4
 go_upto_region 3 with (first
  | ((with_reducible refine storeGen_law rfl 27 (.tmp 2) (.tmp 14) rfl w9.heap.size rfl D2 rfl 27 (List.replicate 32 (.int .u8 0)) HI.out HL.out H1.out w9.heap.size w9 ?_ ?_ (Nat.le_refl _) ?_)
     ·exact Blk.at_new _ _ 27 _ _ (by rfl) rfl
     ·exact (Below.refl _ _).alloc (Nat.le_refl _) _
     intro w10 B10 X10))
 have W10:Hid (Below w.heap.size w w10):=W9.out.trans (X10.out.mono W9.out.size)
 have BD:Hid (Blk w10 gh 27 D):=B9.out.below X10.out B9.out.lt
 have hgk:=B10.out.lt
 obtain ⟨gk,hgke⟩:∃ gk,gk=w9.heap.size:=⟨_,rfl⟩
 rw [<- hgke] at B10 hgk
 rw [<- hgke]
 have c0:w10.cell? ⟨gh,0,none⟩=some (.int .u8 186):=by rw [BD.out.cell,HS.out.at_ 0 (by omega),abc0]; rfl
 have c1:w10.cell? ⟨gh,1,none⟩=some (.int .u8 120):=by rw [BD.out.cell,HS.out.at_ 1 (by omega),abc1]; rfl
 have c2:w10.cell? ⟨gh,31,none⟩=some (.int .u8 173):=by rw [BD.out.cell,HS.out.at_ 31 (by omega),abc31]; rfl
 have d0:w10.cell? ⟨gk,0,none⟩=some (.int .u8 91):=by rw [B10.out.cell,HM.out.at_ 0 (by omega),jef0]; rfl
 have d1:w10.cell? ⟨gk,1,none⟩=some (.int .u8 220):=by rw [B10.out.cell,HM.out.at_ 1 (by omega),jef1]; rfl
 have d2:w10.cell? ⟨gk,31,none⟩=some (.int .u8 67):=by rw [B10.out.cell,HM.out.at_ 31 (by omega),jef31]; rfl
 have HG10:=Lib.hid (HG.out.below W10.out HG.out.size)
 have HRk:=Lib.hid (HM.out.rd B10.out)
 clear HI HL H1 W9 X10 hgke B9 BD B10 HS HM
 go_wp2_with fail
 clear c0 c1 c2 d0 d1 d2
 refine (expand_any HG10.out HRk.out (by omega) (Rd.nil _ none 0 (by unfold maxLen; omega)) (by omega) 40 (by omega) (by omega)).mono ?_
 rintro e w11 ⟨g11,rfl,_,_,hX⟩
 have W11:Hid (Below w.heap.size w w11):=W10.out.trans (hX.mono W10.out.size)
 clear hX W10 HG10 HRk
 have Y1:=Lib.hid (alloc_below w11 (.cells #[.int .u8 1] 5))
 have Y2:=Lib.hid (Y1.out.trans ((alloc_below (w11.alloc (.cells #[.int .u8 1] 5)) (.cells #[.int .u8 1] 5)).mono Y1.out.size))
 go_wp2_with fail
 refine (same_any ((lit_bytes w11 [1] _ 1 _ (by rfl) rfl (by omega) rfl).below (alloc_below _ _)) (lit_bytes _ [1] _ 1 _ (by rfl) rfl (by omega) (by simp))).mono ?_
 rintro e w12 ⟨rfl,hX⟩
 rw [same_t]
 have W12:Hid (Below w.heap.size w w12):=(W11.out.trans (Y2.out.mono W11.out.size)).trans (hX.mono (Nat.le_trans W11.out.size Y2.out.size))
 clear hX Y1 Y2 W11
 have Y1:=Lib.hid (alloc_below w12 (.cells #[.int .u8 1] 5))
 have Y2:=Lib.hid (Y1.out.trans ((alloc_below (w12.alloc (.cells #[.int .u8 1] 5)) (.cells #[.int .u8 2] 5)).mono Y1.out.size))
 go_wp2_with fail
 refine (same_any ((lit_bytes w12 [1] _ 1 _ (by rfl) rfl (by omega) rfl).below (alloc_below _ _)) (lit_bytes _ [2] _ 1 _ (by rfl) rfl (by omega) (by simp))).mono ?_
 rintro e w13 ⟨rfl,hX⟩
 rw [same_f]
 have W13:Hid (Below w.heap.size w w13):=(W12.out.trans (Y2.out.mono W12.out.size)).trans (hX.mono (Nat.le_trans W12.out.size Y2.out.size))
 clear hX Y1 Y2 W12
 go_wp2_with fail
 go_ret
 exact ⟨rfl,W13.out⟩
set_option maxRecDepth 100000 in
theorem begun3_any {w:World} (hg:Gl w):Calls Tryd.prog 83 #[] w fun e w'=>e = .returned (.bool true)/\Below w.heap.size w w':=by
 have HG:=Lib.hid hg
 clear hg
 go_enter Tryd.func83,Tryd.ntmps83
 go_wp2_with (go_at_call 99; refine (begun_any HG.out).mono ?_; rintro e w1 ⟨rfl,HB⟩; have W1:=Lib.hid HB; clear HB)
 go_ret
 exact ⟨rfl,W1.out⟩
end Go.Proofs.YtajgjeialbgijaaDoor
