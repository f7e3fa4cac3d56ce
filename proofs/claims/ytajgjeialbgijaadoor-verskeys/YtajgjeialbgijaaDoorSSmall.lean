import Derived.Test.YtajgjeialbgijaaDoorSGrow
import Derived.Deep.RegionHeld
namespace Go.Proofs.YtajgjeialbgijaaDoor
set_option linter.unusedVariables false
set_option linter.unusedSimpArgs false
set_option maxRecDepth 100000
open Go.RowKit
theorem size_drop (T p:Nat) (h:p < 8):(Sha.size8 T).drop p=UInt8.ofNat (T / 2 ^ (8 * (7 - p))) :: (Sha.size8 T).drop (p + 1):=by
 rw [List.drop_eq_getElem_cons (by rw [Sha.size8_length]; exact h)]
 congr 1
 unfold Sha.size8
 simp
theorem size_put (T p:Nat) (h:p < 8):(List.replicate (p + 1) (Value.int .u8 0) ++ ((Sha.size8 T).drop (p + 1)).map cellOf).set p (.int .u8 (((T / 2 ^ (8 * (7 - p)):Nat):Int) % 256))=List.replicate p (.int .u8 0) ++ ((Sha.size8 T).drop p).map cellOf:=by
 rw [List.replicate_succ',List.append_assoc,List.set_append_right _ _ (by simp),size_drop T p h]
 simp [cellOf]
theorem size_zero (p:Nat) (T:Nat) (h:p < 8):(List.replicate (p + 1) (Value.int .u8 0) ++ ((Sha.size8 T).drop (p + 1)).map cellOf)[p]?=some (.int .u8 0):=by
 rw [List.getElem?_append_left (by simp)]
 exact List.getElem?_replicate_of_lt (by omega)
theorem tail_eq (b:List UInt8) (j n:Nat) (hn:b.length=n) (hj:j=63 - (n + 8) % 64):b ++ [128] ++ List.replicate j 0 ++ Sha.size8 (n * 8)=b ++ Sha.tail b.length:=by
 unfold Sha.tail
 rw [hn,hj]
 simp
set_option maxRecDepth 100000 in
set_option maxHeartbeats 1000000 in
theorem padded_any {w:World} {A:Option Addr} {n c:Nat} {b:List UInt8} (h:Rd w A n c b) (hn:n<=1000000000) :
  Calls Tryd.prog 72 #[.slice A n c,.int .i64 64,.int .i64 8] w fun e w'=>∃ v,e = .returned v/\Ow w' w.heap.size v (b ++ Sha.tail b.length)/\Below w.heap.size w w':=by
 have HR:=Lib.hid h
 have HL:=Lib.hid h.len
 have hcap:=h.cap
 have hmax:=h.max
 unfold maxLen at hmax
 clear h
 go_enter Tryd.func72,Tryd.ntmps72
 go_upto_region 2 with (first | (at_builtin; refine onto_law rfl _ _ rfl rfl rfl HR.out (Ow.empty _ w.heap.size) (by simp; omega) (Nat.le_refl _) (Below.refl _ _) ?_; intro v1 w1 HO1 HB1))
 have hs1:=HB1.out.size
 go_wp2_with (first | (at_builtin; refine push_law rfl _ _ rfl rfl rfl 128 HO1.out rfl (by rw [List.nil_append,HL.out]; omega) hs1 HB1.out ?_; intro v2 w2 HO2 HB2))
 rw [List.nil_append] at HO2
 obtain ⟨g2,c2,rfl,hg2,hlt2⟩:=HO2.out.form (by simp)
 have elen:(b ++ [128]).length=n + 1:=by simp [HL.out]
 rw [elen] at HO2
 rw [elen]
 clear HO1 HB1 elen
 go_loopw [7] (fun s wr=>∃ (j g c':Nat),j<=63 - (n + 8) % 64/\s = .slice (some ⟨g,0,none⟩) (n + 1 + j) c'/\Hid (Ow wr w.heap.size s (b ++ [128] ++ List.replicate j 0))/\Hid (Below w.heap.size w wr)) (fun s _=>n + 64 - slen s)
 case atStart=>exact ⟨0,g2,c2,by omega,rfl,by unfold Hid; rw [List.replicate_zero,List.append_nil]; exact HO2,HB2⟩
 case round =>
  clear HO2 HB2
  obtain ⟨j,g,c',hj,rfl,HO,HB⟩:=hrel
  have hsr:=HB.out.size
  have hlen:(b ++ [128] ++ List.replicate j 0).length=n + 1 + j:=by simp [HL.out]; omega
  have HLN:=Lib.hid hlen
  clear hlen
  by_cases hlt:j < 63 - (n + 8) % 64
  ·have hne:(((n:Int) + 1 + (j:Int)) % 64 != 56)=true:=by simp; omega
   have hne2:(((n + 1 + j:Nat):Int) % 64 != 56)=true:=by simp; omega
   go_wp2_with (first | (at_builtin; refine push_law rfl _ _ rfl rfl rfl 0 HO.out rfl (by rw [HLN.out]; omega) hsr HB.out ?_; intro v3 w3 HO3 HB3))
   obtain ⟨g3,c3,rfl,hg3,hlt3⟩:=HO3.out.form (by simp; omega)
   have elen:(b ++ [128] ++ List.replicate j 0 ++ [0]).length=n + 1 + (j + 1):=by simp [HL.out]; omega
   rw [elen] at HO3
   rw [elen]
   clear elen
   go_roundw
   case rel=>exact ⟨j + 1,g3,c3,by omega,rfl,by unfold Hid; rw [List.replicate_succ',<- List.append_assoc]; exact HO3,HB3⟩
   case measure=>simp [slen]; omega
  ·have hne:(((n:Int) + 1 + (j:Int)) % 64 != 56)=false:=by simp; omega
   have hne2:(((n + 1 + j:Nat):Int) % 64 != 56)=false:=by simp; omega
   have HJ:Hid (j=63 - (n + 8) % 64):=by unfold Hid; omega
   have hmk:∀ W,(Instr.makeSlice 41 (.int .i64 8) (.int .i64 8)).run Tryd.prog W = .ok (.slice (some ⟨W.heap.size,0,none⟩) 8 8) (W.alloc (.cells (outC [] 8).toArray 5)):=fun W=>make_bytes 8 (by omega) W
   go_wp2_with fail
   clear hmk hne hne2
   obtain ⟨T,hT⟩:∃ T:Nat,(T:Int)=(n:Int) * 8:=⟨n * 8,by simp⟩
   rw [<- hT]
   have HT:Hid (T=n * 8):=by unfold Hid; omega
   have hTb:T < 18446744073709551616:=by omega
   clear hT
   obtain ⟨wo,rfl⟩:∃ wo,wo=wr:=⟨_,rfl⟩
   go_loopw [8,10] (fun u i wr=>∃ r q:Nat,r<=8/\i = .int .i64 ((r:Int) - 1)/\u = .int .u64 (q:Int)/\q < 18446744073709551616/\Hid (q=T / 2 ^ (8 * (8 - r)))/\Hid (Blk wr wo.heap.size 5 (List.replicate r (.int .u8 0) ++ ((Sha.size8 T).drop r).map cellOf))/\Hid (Below wo.heap.size wo wr)) (fun _ i _=>(intOf i + 1).toNat)
   case atStart=>exact ⟨8,T,by omega,rfl,rfl,hTb,by unfold Hid; simp,Blk.at_new _ _ 5 _ _ (by rfl) rfl,(Below.refl _ _).alloc (Nat.le_refl _) _⟩
   case round =>
    obtain ⟨r,q,hr8,rfl,rfl,hq,HQ,BK,BW⟩:=hrel
    rcases Nat.eq_zero_or_pos r with h0 | h0
    ·subst h0
     have e0:((0:Nat):Int) - 1=-1:=rfl
     rw [e0]
     have HR8:Hid (Rd wr (some ⟨wo.heap.size,0,none⟩) 8 8 (Sha.size8 T)) :=
      Rd.of_block BK.out (Sha.size8_length T) (Nat.le_refl _) (by unfold maxLen; omega) (fun j hj=>by
       have hj':j < (Sha.size8 T).length:=by rw [Sha.size8_length]; exact hj
       simp [List.getD_eq_getElem?_getD,List.getElem?_eq_getElem hj'])
     have HO2:=Lib.hid (HO.out.keep BW.out)
     have HB2:=Lib.hid (HB.out.trans (BW.out.mono hsr))
     have hsr2:=HB2.out.size
     clear BK BW HO HB
     go_wp2_with (first | (at_builtin; refine onto_law rfl _ _ rfl rfl rfl HR8.out HO2.out (by rw [HLN.out]; omega) hsr2 HB2.out ?_; intro v3 w3 HO3 HB3))
     go_ret
     refine ⟨_,rfl,?_,HB3.out⟩
     rw [<- tail_eq b j n HL.out HJ.out,<- HT.out]
     exact HO3.out
    ·obtain ⟨p,rfl⟩:∃ p,r=p + 1:=⟨r - 1,by omega⟩
     have e0:((p + 1:Nat):Int) - 1=(p:Int):=by omega
     rw [e0]
     have c0:wr.cell? ⟨wo.heap.size,p,none⟩=some (.int .u8 0):=by rw [BK.out.cell]; exact size_zero p T (by omega)
     have f0:wr.frozen? ⟨wo.heap.size,p,none⟩=false:=BK.out.frozen p
     have hp:8 - (p + 1)=7 - p:=by omega
     have HN:Hid (Blk (wr.setCell ⟨wo.heap.size,p,none⟩ (.int .u8 ((q:Int) % 256))) wo.heap.size 5 (List.replicate p (.int .u8 0) ++ ((Sha.size8 T).drop p).map cellOf)):=by
      have:=BK.out.set_ p (.int .u8 (((T / 2 ^ (8 * (7 - p)):Nat):Int) % 256))
      rw [size_put T p (by omega)] at this
      unfold Hid
      rw [HQ.out,hp]
      exact this
     have HQ2:Hid (q / 256=T / 2 ^ (8 * (8 - p))):=by
      unfold Hid
      rw [HQ.out,Nat.div_div_eq_div_mul,hp,show 8 * (8 - p)=8 * (7 - p) + 8 by omega,Nat.pow_add]
     clear BK hp e0
     go_wp2_with fail
     go_roundw
     case rel=>exact ⟨p,q / 256,by omega,rfl,by go_num,by omega,HQ2,HN,BW.out.setCell (Nat.le_refl _) _⟩
     case measure=>simp [intOf]
end Go.Proofs.YtajgjeialbgijaaDoor
namespace Go.Proofs.YtajgjeialbgijaaDoor
set_option linter.unusedVariables false
set_option linter.unusedSimpArgs false
set_option maxRecDepth 100000
open Go.RowKit
theorem info49:(Tryd.prog.info? 102).map (fun i=>(i.zero,i.size,i.bytes))=some (some (.int .u32 0),1,4):=by kernel_rfl
set_option maxRecDepth 100000 in
set_option maxHeartbeats 1000000 in
theorem word_any {w:World} {b off n c:Nat} {l:List UInt8} (h:Rd w (some ⟨b,off,none⟩) n c l) (h4:4<=n) :
  Calls Tryd.prog 73 #[.slice (some ⟨b,off,none⟩) n c] w fun e w'=>e = .returned (.int .u32 (Sha.wordOf (l.getD 0 0) (l.getD 1 0) (l.getD 2 0) (l.getD 3 0)))/\Below w.heap.size w w'/\w'.heap=w.heap:=by
 have hcell:∀ j,j < n->w.drew.cell? ⟨b,off + j,none⟩=some (.int .u8 ((l.getD j 0).toNat:Int)):=fun j hj=>by
  obtain ⟨b',off',e,_,hc⟩:=h.at_ (by omega)
  simp only [Option.some.injEq,Addr.mk.injEq,and_true] at e
  obtain ⟨rfl,rfl⟩:=e
  exact hc j hj
 have c0:=hcell 0 (by omega)
 have c1:=hcell 1 (by omega)
 have c2:=hcell 2 (by omega)
 have c3:=hcell 3 (by omega)
 have hcap:=h.cap
 have hmax:=h.max
 unfold maxLen at hmax
 clear hcell h
 rw [Nat.add_zero] at c0
 generalize l.getD 0 0=x0 at *
 generalize l.getD 1 0=x1 at *
 generalize l.getD 2 0=x2 at *
 generalize l.getD 3 0=x3 at *
 have b0:(0:Int) < (n:Int):=by omega
 have b1:(1:Int) < (n:Int):=by omega
 have b2:(2:Int) < (n:Int):=by omega
 have b3:(3:Int) < (n:Int):=by omega
 have b0':0 < n:=by omega
 have b1':1 < n:=by omega
 have b2':2 < n:=by omega
 have b3':3 < n:=by omega
 have HB:=Lib.hid (Below.refl w.heap.size w).drew
 go_enter Tryd.func73,Tryd.ntmps73
 go_wp2_with fail
 refine wp_region_still_lit (by kernel_rfl) (by kernel_rfl) ?_
 have hD:({ w with drawn:=w.drawn + 1 }:World)=w.drew:=rfl
 rw [hD]
 clear hD
 have hH:w.drew.heap=w.heap:=rfl
 have HH:=Lib.hid hH
 clear hH
 generalize w.drew=w2 at *
 repeat still_step
 refine wpStill_nil ?_
 go_wp2_with fail
 go_ret
 refine ⟨ret_int ?_,HB.out,HH.out⟩
 exact word_form x0 x1 x2 x3
structure RdW (w:World) (g n:Nat) (l:List Int):Prop where
 len:l.length=n
 lt:g < w.heap.size
 at_:∀ j,j < n->w.cell? ⟨g,j,none⟩=some (.int .u32 (l.getD j 0))
theorem RdW.keep {w w':World} {g n:Nat} {l:List Int} (h:RdW w g n l) (hs:w.heap.size<=w'.heap.size) (hk:w'.heap[g]?=w.heap[g]?):RdW w' g n l :=
 ⟨h.len,Nat.lt_of_lt_of_le h.lt hs,fun j hj=>(World.cell?_of_block (a:=⟨g,j,none⟩) hk).trans (h.at_ j hj)⟩
theorem RdW.of_block {w:World} {g:Nat} {t:TypeId} {l:List Int} (h:Blk w g t (l.map wd)):RdW w g l.length l :=
 ⟨rfl,h.lt,fun j hj=>by rw [h.cell]; exact wd_at l j hj⟩
set_option maxRecDepth 100000 in
set_option maxHeartbeats 1000000 in
theorem k256_any (w:World):Calls Tryd.prog 71 #[] w fun e w'=>∃ g,e = .returned (.slice (some ⟨g,0,none⟩) 64 64)/\w.heap.size<=g/\RdW w' g 64 Sha.K/\Below w.heap.size w w':=by
 go_enter Tryd.func71,Tryd.ntmps71
 go_wp2
 go_ret
 exact ⟨_,rfl,Nat.le_refl _,RdW.of_block (l:=Sha.K) (Blk.at_new w _ 102 _ _ (by rfl) rfl),(Below.refl _ _).alloc (Nat.le_refl _) _⟩
theorem four_cells (w:World) (x:Int) (a b c d:Int) (ha:a=x / 16777216 % 256) (hb:b=x / 65536 % 256) (hc:c=x / 256 % 256) (hd:d=x % 256) :
  Rd (w.alloc (.cells #[.int .u8 a,.int .u8 b,.int .u8 c,.int .u8 d] 5)) (some ⟨w.heap.size,0,none⟩) 4 4 (Sha.bytesOf x):=by
 subst ha; subst hb; subst hc; subst hd
 have hB:=Blk.new w 5 [.int .u8 (x / 16777216 % 256),.int .u8 (x / 65536 % 256),.int .u8 (x / 256 % 256),.int .u8 (x % 256)]
 refine Rd.of_block hB rfl (Nat.le_refl _) (by unfold maxLen; omega) (fun j hj=>?_)
 match j,hj with
 | 0,_=>exact congrArg some (cell_by8 (x / 16777216)).symm
 | 1,_=>exact congrArg some (cell_by8 (x / 65536)).symm
 | 2,_=>exact congrArg some (cell_by8 (x / 256)).symm
 | 3,_=>exact congrArg some (cell_by8 x).symm
theorem step_onto {ops:Array Oper} {o:Oper} {a:Act} {K:Act->World->Prop} {Q:Exit->Act->World->Prop} {E:Prop} {wr w0:World} {B:Nat} {v:Value} {l:List UInt8} (hgd:o.guard=none) (s x:Operand)
  (ho:o.op = .call { callee:=.builtin .append,args:=#[s,x],argTypes:=#[41,41] }) (hs:a.eval s=v) {ad:Addr} {m c:Nat} {news:List UInt8} (hx:a.eval x = .slice (some ad) m c) (hr:Rd wr (some ad) m c news) (hown:Ow wr B v l)
  (hlen:l.length + m<=140737488355328) (hm:0 < m) (hB:B<=wr.heap.size) (hbel:Below B w0 wr)
  (h:∀ v' w',Hid (Ow w' B v' (l ++ news))->Hid (Below B w0 w')->K (a.put o.dst v') w'):if Region.wanted o (yielded ops a.tmps)=true then o.wp Tryd.prog a wr K Q else E:=by
 obtain ⟨i0,hi,hz0,hz1,hz2⟩:=info_parts info5
 rw [if_pos (by simp [Region.wanted,hgd])]
 refine wp_append_own _ s x 41 ho B 5 i0 (.int .u8 0) 1 1 Tryd.underlying41 hi hz0 hz1 hz2 rfl (by decide) v l.length (l.map cellOf) hs hown ad m c (news.map cellOf) hx (by simpa using hr.len)
  (fun j u hu=>?_) (cells_u8 news) (by unfold maxLen; omega) (by omega) hB ?_
 ·have hj:j < news.length:=by simpa using (List.getElem?_eq_some_iff.1 hu).1
  obtain ⟨b,off,e,_,hc⟩:=hr.at_ hm
  injection e with e
  subst e
  rw [add_plain,hc j (by have:=hr.len; omega),<- hu]
  simp [List.getD_eq_getElem?_getD,List.getElem?_eq_getElem hj]
 ·intro v' w' h2 h3 _
  have hn:=hr.len
  subst hn
  refine h v' w' (by unfold Hid Ow; simpa using h2) ?_
  exact hbel.grown h3 hB fun k hk=>(World.ownsRow.lt hown k hk).1
set_option maxRecDepth 100000 in
set_option maxHeartbeats 1000000 in
theorem rwords_any {w:World} {g c:Nat} {l:List Int} (h:RdW w g 8 l) :
  Calls Tryd.prog 75 #[.slice (some ⟨g,0,none⟩) 8 c] w fun e w'=>∃ v,e = .returned v/\Ow w' w.heap.size v (Sha.flat l)/\Below w.heap.size w w':=by
 have HR:=Lib.hid h
 have HL:=Lib.hid h.len
 clear h
 go_enter Tryd.func75,Tryd.ntmps75
 go_wp2_with fail
 go_loopw [3,4] (fun s i wr=>∃ k:Nat,k<=8/\i = .int .i64 k/\Hid (Ow wr w.heap.size s (Sha.flat (l.take k)))/\Hid (Below w.heap.size w wr)) (fun _ i _=>8 - (intOf i).toNat)
 case atStart=>exact ⟨0,by omega,rfl,Ow.empty _ _,Below.refl _ _⟩
 case round =>
  obtain ⟨k,hk,rfl,HO,HB⟩:=hrel
  have hsr:=HB.out.size
  by_cases hlt:k < 8
  ·obtain ⟨x,hx⟩:∃ x,x=l.getD k 0:=⟨_,rfl⟩
   have c0:wr.drew.cell? ⟨g,k,none⟩=some (.int .u32 x):=by
    rw [hx]; exact (HB.out.cell (p:=⟨g,k,none⟩) HR.out.lt).trans (HR.out.at_ k hlt)
   have HF:Hid (Sha.flat (l.take (k + 1))=Sha.flat (l.take k) ++ Sha.bytesOf x):=by
    unfold Hid
    rw [<- flat_append,hx,List.take_succ_eq_append_getElem (by rw [HL.out]; exact hlt)]
    simp [List.getD_eq_getElem?_getD,HL.out,hlt]
   have HLn:Hid ((Sha.flat (l.take k)).length<=32):=by unfold Hid; rw [Sha.flat_length,List.length_take,HL.out]; omega
   have bk:(k:Int) < 8:=by omega
   have bk':k < 8:=hlt
   have HO2:Hid (Ow wr.drew w.heap.size u3 (Sha.flat (l.take k))):=HO.out.keep ((Below.refl wr.heap.size wr).drew)
   have HXe:Hid (x=l.getD k 0):=hx
   have HB2:=Lib.hid HB.out.drew
   have hsr2:w.heap.size<=wr.drew.heap.size:=hsr
   clear hx HO HB hsr
   go_wp2_with fail
   refine wp_region_held_drew (S:=fun w':World=>w'.cell? ⟨g,k,none⟩=some (.int .u32 x)) (by kernel_rfl) c0 (fun hHeld=>?_)
   clear c0
   generalize wr.drew=w2 at *
   refine wpAnyH_take (i:=0) (oi:=?oi1) (v:=u3) ?hi1 (by kernel_rfl) (by kernel_rfl) (by kernel_rfl) ?hQ1 ?hy1 hHeld ?rest1
   case hi1=>simp only [zge]; rfl
   case hQ1=>exact fun _ _ _ h=>h
   case hy1=>exact Or.inl ⟨by rfl,by intro w hSw; (try dsimp only at hSw); go_simp⟩
   try simp only [zpt]
   refine wpAnyH_take (i:=1) (oi:=?oi2) (v:=.slice (some ⟨g,0,none⟩) 8 c) ?hi2 (by kernel_rfl) (by kernel_rfl) (by kernel_rfl) ?hQ2 ?hy2 hHeld ?rest2
   case hi2=>simp only [zge]; rfl
   case hQ2=>exact fun _ _ _ h=>h
   case hy2=>exact Or.inl ⟨by rfl,by intro w hSw; (try dsimp only at hSw); go_simp⟩
   try simp only [zpt]
   refine wpAnyH_take (i:=2) (oi:=?oi3) (v:=.int .i64 (k:Int)) ?hi3 (by kernel_rfl) (by kernel_rfl) (by kernel_rfl) ?hQ3 ?hy3 hHeld ?rest3
   case hi3=>simp only [zge]; rfl
   case hQ3=>exact fun _ _ _ h=>h
   case hy3=>exact Or.inl ⟨by rfl,by intro w hSw; (try dsimp only at hSw); go_simp⟩
   try simp only [zpt]
   refine wpAnyH_take (i:=3) (oi:=?oi4) (v:=.pointer (some ⟨g,k,none⟩)) ?hi4 (by kernel_rfl) (by kernel_rfl) (by kernel_rfl) ?hQ4 ?hy4 hHeld ?rest4
   case hi4=>simp only [zge]; rfl
   case hQ4=>exact fun _ _ _ h=>h
   case hy4=>exact Or.inl ⟨by rfl,by intro w hSw; (try dsimp only at hSw); go_simp⟩
   try simp only [zpt]
   refine wpAnyH_take (i:=4) (oi:=?oi5) (v:=.int .u32 x) ?hi5 (by kernel_rfl) (by kernel_rfl) (by kernel_rfl) ?hQ5 ?hy5 hHeld ?rest5
   case hi5=>simp only [zge]; rfl
   case hQ5=>exact fun _ _ _ h=>h
   case hy5=>exact Or.inl ⟨by rfl,by intro w hSw; (try dsimp only at hSw); go_simp⟩
   try simp only [zpt]
   refine wpAnyH_take (i:=5) (oi:=?oi6) (v:=.int .u32 (x / 16777216)) ?hi6 (by kernel_rfl) (by kernel_rfl) (by kernel_rfl) ?hQ6 ?hy6 hHeld ?rest6
   case hi6=>simp only [zge]; rfl
   case hQ6=>exact fun _ _ _ h=>h
   case hy6=>exact Or.inl ⟨by rfl,by intro w hSw; (try dsimp only at hSw); go_simp⟩
   try simp only [zpt]
   refine wpAnyH_take (i:=6) (oi:=?oi7) (v:=.int .u8 (x / 16777216 % 256)) ?hi7 (by kernel_rfl) (by kernel_rfl) (by kernel_rfl) ?hQ7 ?hy7 hHeld ?rest7
   case hi7=>simp only [zge]; rfl
   case hQ7=>exact fun _ _ _ h=>h
   case hy7=>exact Or.inl ⟨by rfl,by intro w hSw; (try dsimp only at hSw); go_simp; rw [IntKind.wrap_u8']⟩
   try simp only [zpt]
   refine wpAnyH_take (i:=7) (oi:=?oi8) (v:=.slice (some ⟨g,0,none⟩) 8 c) ?hi8 (by kernel_rfl) (by kernel_rfl) (by kernel_rfl) ?hQ8 ?hy8 hHeld ?rest8
   case hi8=>simp only [zge]; rfl
   case hQ8=>exact fun _ _ _ h=>h
   case hy8=>exact Or.inl ⟨by rfl,by intro w hSw; (try dsimp only at hSw); go_simp⟩
   try simp only [zpt]
   refine wpAnyH_take (i:=8) (oi:=?oi9) (v:=.int .i64 (k:Int)) ?hi9 (by kernel_rfl) (by kernel_rfl) (by kernel_rfl) ?hQ9 ?hy9 hHeld ?rest9
   case hi9=>simp only [zge]; rfl
   case hQ9=>exact fun _ _ _ h=>h
   case hy9=>exact Or.inl ⟨by rfl,by intro w hSw; (try dsimp only at hSw); go_simp⟩
   try simp only [zpt]
   refine wpAnyH_take (i:=9) (oi:=?oi10) (v:=.pointer (some ⟨g,k,none⟩)) ?hi10 (by kernel_rfl) (by kernel_rfl) (by kernel_rfl) ?hQ10 ?hy10 hHeld ?rest10
   case hi10=>simp only [zge]; rfl
   case hQ10=>exact fun _ _ _ h=>h
   case hy10=>exact Or.inl ⟨by rfl,by intro w hSw; (try dsimp only at hSw); go_simp⟩
   try simp only [zpt]
   refine wpAnyH_take (i:=10) (oi:=?oi11) (v:=.int .u32 x) ?hi11 (by kernel_rfl) (by kernel_rfl) (by kernel_rfl) ?hQ11 ?hy11 hHeld ?rest11
   case hi11=>simp only [zge]; rfl
   case hQ11=>exact fun _ _ _ h=>h
   case hy11=>exact Or.inl ⟨by rfl,by intro w hSw; (try dsimp only at hSw); go_simp⟩
   try simp only [zpt]
   refine wpAnyH_take (i:=11) (oi:=?oi12) (v:=.int .u32 (x / 65536)) ?hi12 (by kernel_rfl) (by kernel_rfl) (by kernel_rfl) ?hQ12 ?hy12 hHeld ?rest12
   case hi12=>simp only [zge]; rfl
   case hQ12=>exact fun _ _ _ h=>h
   case hy12=>exact Or.inl ⟨by rfl,by intro w hSw; (try dsimp only at hSw); go_simp⟩
   try simp only [zpt]
   refine wpAnyH_take (i:=12) (oi:=?oi13) (v:=.int .u8 (x / 65536 % 256)) ?hi13 (by kernel_rfl) (by kernel_rfl) (by kernel_rfl) ?hQ13 ?hy13 hHeld ?rest13
   case hi13=>simp only [zge]; rfl
   case hQ13=>exact fun _ _ _ h=>h
   case hy13=>exact Or.inl ⟨by rfl,by intro w hSw; (try dsimp only at hSw); go_simp; rw [IntKind.wrap_u8']⟩
   try simp only [zpt]
   refine wpAnyH_take (i:=13) (oi:=?oi14) (v:=.slice (some ⟨g,0,none⟩) 8 c) ?hi14 (by kernel_rfl) (by kernel_rfl) (by kernel_rfl) ?hQ14 ?hy14 hHeld ?rest14
   case hi14=>simp only [zge]; rfl
   case hQ14=>exact fun _ _ _ h=>h
   case hy14=>exact Or.inl ⟨by rfl,by intro w hSw; (try dsimp only at hSw); go_simp⟩
   try simp only [zpt]
   refine wpAnyH_take (i:=14) (oi:=?oi15) (v:=.int .i64 (k:Int)) ?hi15 (by kernel_rfl) (by kernel_rfl) (by kernel_rfl) ?hQ15 ?hy15 hHeld ?rest15
   case hi15=>simp only [zge]; rfl
   case hQ15=>exact fun _ _ _ h=>h
   case hy15=>exact Or.inl ⟨by rfl,by intro w hSw; (try dsimp only at hSw); go_simp⟩
   try simp only [zpt]
   refine wpAnyH_take (i:=15) (oi:=?oi16) (v:=.pointer (some ⟨g,k,none⟩)) ?hi16 (by kernel_rfl) (by kernel_rfl) (by kernel_rfl) ?hQ16 ?hy16 hHeld ?rest16
   case hi16=>simp only [zge]; rfl
   case hQ16=>exact fun _ _ _ h=>h
   case hy16=>exact Or.inl ⟨by rfl,by intro w hSw; (try dsimp only at hSw); go_simp⟩
   try simp only [zpt]
   refine wpAnyH_take (i:=16) (oi:=?oi17) (v:=.int .u32 x) ?hi17 (by kernel_rfl) (by kernel_rfl) (by kernel_rfl) ?hQ17 ?hy17 hHeld ?rest17
   case hi17=>simp only [zge]; rfl
   case hQ17=>exact fun _ _ _ h=>h
   case hy17=>exact Or.inl ⟨by rfl,by intro w hSw; (try dsimp only at hSw); go_simp⟩
   try simp only [zpt]
   refine wpAnyH_take (i:=17) (oi:=?oi18) (v:=.int .u32 (x / 256)) ?hi18 (by kernel_rfl) (by kernel_rfl) (by kernel_rfl) ?hQ18 ?hy18 hHeld ?rest18
   case hi18=>simp only [zge]; rfl
   case hQ18=>exact fun _ _ _ h=>h
   case hy18=>exact Or.inl ⟨by rfl,by intro w hSw; (try dsimp only at hSw); go_simp⟩
   try simp only [zpt]
   refine wpAnyH_take (i:=18) (oi:=?oi19) (v:=.int .u8 (x / 256 % 256)) ?hi19 (by kernel_rfl) (by kernel_rfl) (by kernel_rfl) ?hQ19 ?hy19 hHeld ?rest19
   case hi19=>simp only [zge]; rfl
   case hQ19=>exact fun _ _ _ h=>h
   case hy19=>exact Or.inl ⟨by rfl,by intro w hSw; (try dsimp only at hSw); go_simp; rw [IntKind.wrap_u8']⟩
   try simp only [zpt]
   refine wpAnyH_take (i:=19) (oi:=?oi20) (v:=.slice (some ⟨g,0,none⟩) 8 c) ?hi20 (by kernel_rfl) (by kernel_rfl) (by kernel_rfl) ?hQ20 ?hy20 hHeld ?rest20
   case hi20=>simp only [zge]; rfl
   case hQ20=>exact fun _ _ _ h=>h
   case hy20=>exact Or.inl ⟨by rfl,by intro w hSw; (try dsimp only at hSw); go_simp⟩
   try simp only [zpt]
   refine wpAnyH_take (i:=20) (oi:=?oi21) (v:=.int .i64 (k:Int)) ?hi21 (by kernel_rfl) (by kernel_rfl) (by kernel_rfl) ?hQ21 ?hy21 hHeld ?rest21
   case hi21=>simp only [zge]; rfl
   case hQ21=>exact fun _ _ _ h=>h
   case hy21=>exact Or.inl ⟨by rfl,by intro w hSw; (try dsimp only at hSw); go_simp⟩
   try simp only [zpt]
   refine wpAnyH_take (i:=21) (oi:=?oi22) (v:=.pointer (some ⟨g,k,none⟩)) ?hi22 (by kernel_rfl) (by kernel_rfl) (by kernel_rfl) ?hQ22 ?hy22 hHeld ?rest22
   case hi22=>simp only [zge]; rfl
   case hQ22=>exact fun _ _ _ h=>h
   case hy22=>exact Or.inl ⟨by rfl,by intro w hSw; (try dsimp only at hSw); go_simp⟩
   try simp only [zpt]
   refine wpAnyH_take (i:=22) (oi:=?oi23) (v:=.int .u32 x) ?hi23 (by kernel_rfl) (by kernel_rfl) (by kernel_rfl) ?hQ23 ?hy23 hHeld ?rest23
   case hi23=>simp only [zge]; rfl
   case hQ23=>exact fun _ _ _ h=>h
   case hy23=>exact Or.inl ⟨by rfl,by intro w hSw; (try dsimp only at hSw); go_simp⟩
   try simp only [zpt]
   refine wpAnyH_take (i:=23) (oi:=?oi24) (v:=.int .u8 (x % 256)) ?hi24 (by kernel_rfl) (by kernel_rfl) (by kernel_rfl) ?hQ24 ?hy24 hHeld ?rest24
   case hi24=>simp only [zge]; rfl
   case hQ24=>exact fun _ _ _ h=>h
   case hy24=>exact Or.inl ⟨by rfl,by intro w hSw; (try dsimp only at hSw); go_simp; rw [IntKind.wrap_u8']⟩
   try simp only [zpt]
   refine wpAnyH_ready (rs:=[24]) (by kernel_rfl) (by simp) ?_
   refine AllReadyH.cons (o:=?o25) ?ho25 (fun K hK=>?_) AllReadyH.nil
   case ho25=>simp only [zge]; rfl
   go_simp
   have HX:=Lib.hid (Below.alloc (Below.refl w2.heap.size w2) (Nat.le_refl _) (.cells #[.int .u8 (x / 16777216 % 256),.int .u8 (x / 65536 % 256),.int .u8 (x / 256 % 256),.int .u8 (x % 256)] 5))
   have hgl:g < w2.heap.size:=Nat.lt_of_lt_of_le HR.out.lt hsr2
   refine hK.out _ _ ((HX.out.cell (p:=⟨g,k,none⟩) hgl).trans hHeld) (fun hHeld=>?_)
   clear hK K
   try simp only [zpt]
   refine wpAnyH_ready (rs:=[25]) (by kernel_rfl) (by simp) ?_
   refine AllReadyH.cons (o:=?o26) ?ho26 (fun K hK=>?_) AllReadyH.nil
   case ho26=>simp only [zge]; rfl
   refine step_onto rfl (.tmp 11) (.tmp 35) rfl rfl rfl (four_cells w2 x _ _ _ _ rfl rfl rfl rfl) (HO2.out.keep HX.out) (by have:=HLn.out; omega) (by omega) (Nat.le_trans hsr2 HX.out.size) (HB2.out.trans (HX.out.mono hsr2)) ?_
   intro v3 w3 HO3 HB3
   refine hK.out _ _ ((HB3.out.cell (p:=⟨g,k,none⟩) HR.out.lt).trans (HR.out.at_ k hlt |>.trans (by rw [HXe.out]))) (fun hHeld=>?_)
   clear hK K
   try simp only [zpt]
   refine wpAnyH_take (i:=26) (oi:=?oi27) (v:=v3) ?hi27 (by kernel_rfl) (by kernel_rfl) (by kernel_rfl) ?hQ27 ?hy27 hHeld ?rest27
   case hi27=>simp only [zge]; rfl
   case hQ27=>exact fun _ _ _ h=>h
   case hy27=>exact Or.inl ⟨by rfl,by intro w hSw; (try dsimp only at hSw); go_simp⟩
   try simp only [zpt]
   refine wpAnyH_done (by kernel_rfl) ?_ _
   clear hHeld
   go_wp2_with fail
   go_roundw
   case rel=>exact ⟨k + 1,by omega,by go_num,by unfold Hid; rw [HF.out]; exact HO3,HB3⟩
   case measure=>simp [intOf]; omega
  ·have HO2:Hid (Ow wr w.heap.size u3 (Sha.flat l)):=by
    have:=HO.out
    rw [List.take_of_length_le (by rw [HL.out]; omega)] at this
    exact this
   clear HO
   go_wp2_with fail
   go_ret
   exact ⟨_,rfl,HO2.out,HB.out⟩
end Go.Proofs.YtajgjeialbgijaaDoor
namespace Go.Proofs.YtajgjeialbgijaaDoor
set_option linter.unusedVariables false
set_option linter.unusedSimpArgs false
set_option maxRecDepth 100000
open Go.RowKit
theorem make_words (W:World) :
  (Instr.makeSlice 103 (.int .i64 64) (.int .i64 64)).run Tryd.prog W = .ok (.slice (some ⟨W.heap.size,0,none⟩) 64 64) (W.alloc (.cells (fill []).toArray 102)):=by
 obtain ⟨i0,hi,hz0,hz1,hz2⟩:=info_parts info49
 have hr:=run_make (P:=Tryd.prog) W 103 102 i0 (.int .u32 0) Tryd.underlying103 hi hz0 .i64 .i64 64 64 (by omega) (by omega) (by rw [hz2]; omega) (by omega)
 rw [hz1] at hr
 exact hr.trans (by
  congr 3
  apply Array.ext'
  show (madeCells #[.int .u32 0] 64).toList=_
  rw [toList_madeCells_one]
  rfl)
theorem right_lit (x n:Int) (w:World) (h1:1<=n) (h2:n < 32) :
  Calls Tryd.prog 74 #[.int .u32 x,.int .u64 n] w fun e w'=>e = .returned (.int .u32 (Sha.rot x n.toNat))/\w'=w:=by
 obtain ⟨m,rfl⟩:=Int.eq_ofNat_of_zero_le (show 0<=n by omega)
 exact (right_any x m w (by omega) (by omega)).mono fun _ _ h=>⟨h.1,h.2.symm⟩
theorem next_form2 (a b x y:Int):(a + bits BinOp.xor IntKind.u32 (bits BinOp.xor IntKind.u32 (Sha.rot x 7) (Sha.rot x 18)) (x / 8) + b + bits BinOp.xor IntKind.u32 (bits BinOp.xor IntKind.u32 (Sha.rot y 17) (Sha.rot y 19)) (y / 1024)) % 4294967296=Sha.nextW a b (Sha.sm0 x) (Sha.sm1 y):=by
 show (a + Sha.sm0 x + b + Sha.sm1 y) % 4294967296=_
 unfold Sha.nextW Sha.add
 simp only [IntKind.wrap_u32']
 omega
theorem pad_mod (b:List UInt8):∃ Q,(b ++ Sha.tail b.length).length=64 * Q:=⟨(b ++ Sha.tail b.length).length / 64,by rw [List.length_append,Sha.tail_length]; omega⟩
theorem ontoW_law {ops:Array Oper} {rest:List Oper} {o:Oper} {a:Act} {Q:Exit->Act->World->Prop} {wr:World} (hgd:o.guard=none) (x:Operand)
  (ho:o.op = .call { callee:=.builtin .append,args:=#[.const (.slice none 0 0),x],argTypes:=#[103,103] }) {g c:Nat} {l:List Int} (hx:a.eval x = .slice (some ⟨g,0,none⟩) 8 c) (hr:RdW wr g 8 l)
  (h:∀ gv cv w',Hid (wr.heap.size<=gv)->Hid (RdW w' gv 8 l)->Hid (Below wr.heap.size wr w')->wpList Tryd.prog ops Q rest (a.put o.dst (.slice (some ⟨gv,0,none⟩) 8 cv)) w'):wpList Tryd.prog ops Q (o :: rest) a wr:=by
 obtain ⟨i0,hi,hz0,hz1,hz2⟩:=info_parts info49
 have hl:=hr.len
 refine wpList_append_own _ hgd _ x 103 ho wr.heap.size 102 i0 (.int .u32 0) 1 4 Tryd.underlying103 hi hz0 hz1 hz2 rfl (by decide) (.slice none 0 0) 0 [] rfl (World.ownsRow_nil wr _ 102 1) ⟨g,0,none⟩ 8 c (l.map wd) hx (by simpa using hl)
  (fun j u hu=>?_) (cells_wd l) (by unfold maxLen; omega) (by omega) (Nat.le_refl _) ?_
 ·have hj:j < l.length:=by simpa using (List.getElem?_eq_some_iff.1 hu).1
  rw [add_plain,Nat.zero_add,hr.at_ j (by omega),<- hu]
  exact (wd_at l j hj).symm
 ·intro v' w' h2 h3 _
  simp only [Nat.zero_add,List.nil_append] at h2
  obtain ⟨gv,cv,rfl,hge,hlt⟩:=World.ownsRow.form h2 (by omega)
  refine h gv cv w' hge ⟨hl,hlt,fun j hj=>?_⟩ ?_
  ·have:=World.ownsRow.cellAt h2 j (by omega)
   rw [this]
   exact wd_at l j (by omega)
  ·exact ⟨h3.os,h3.tape,h3.output,h3.size,fun i hi=>h3.block i hi (by simp [Value.ownBlock])⟩
theorem RdW.cell {w:World} {g n:Nat} {l:List Int} (h:RdW w g n l) (j:Nat) (hj:j < n):w.cell? ⟨g,j,none⟩=some (.int .u32 (l.getD j 0)):=h.at_ j hj
theorem new_a (a b c e f g h k x:Int) :
  (h + bits .xor .u32 (bits .xor .u32 (Sha.rot e 6) (Sha.rot e 11)) (Sha.rot e 25) + bits .xor .u32 (bits .and .u32 e f) (bits .and .u32 (bits .xor .u32 IntKind.u32.max e) g) + k + x + (bits .xor .u32 (bits .xor .u32 (Sha.rot a 2) (Sha.rot a 13)) (Sha.rot a 22) + bits .xor .u32 (bits .xor .u32 (bits .and .u32 a b) (bits .and .u32 a c)) (bits .and .u32 b c))) % 4294967296=Sha.add (Sha.one e f g h k x) (Sha.two a b c):=by
 show (h + Sha.big1 e + Sha.ch e f g + k + x + (Sha.big0 a + Sha.maj a b c)) % 4294967296=_
 unfold Sha.one Sha.two Sha.add
 simp only [IntKind.wrap_u32']
 omega
theorem new_e (d e f g h k x:Int) :
  (d + (h + bits .xor .u32 (bits .xor .u32 (Sha.rot e 6) (Sha.rot e 11)) (Sha.rot e 25) + bits .xor .u32 (bits .and .u32 e f) (bits .and .u32 (bits .xor .u32 IntKind.u32.max e) g) + k + x)) % 4294967296=Sha.add d (Sha.one e f g h k x):=by
 show (d + (h + Sha.big1 e + Sha.ch e f g + k + x)) % 4294967296=_
 unfold Sha.one Sha.add
 simp only [IntKind.wrap_u32']
 omega
set_option maxRecDepth 100000 in
set_option maxHeartbeats 8000000 in
theorem rsha_any {w:World} {A:Option Addr} {n c gh:Nat} {b:List UInt8} (h:Rd w A n c b) (hn:n<=1000000000) (hB:Blk w gh 102 (Sha.H0.map wd)) :
  Calls Tryd.prog 54 #[.slice A n c,.slice (some ⟨gh,0,none⟩) 8 8] w fun e w'=>∃ A' c',e = .returned (.slice A' 32 c')/\Rd w' A' 32 c' (Sha.sum b)/\w.grownBy w' (some gh):=by
 have hlth:=hB.lt
 obtain ⟨P,hP⟩:∃ P,P=b ++ Sha.tail b.length:=⟨_,rfl⟩
 obtain ⟨N,hN⟩:∃ N,P.length=64 * N:=by rw [hP]; exact pad_mod b
 have HS:Hid (Sha.sum b=Sha.flat (Sha.blocks N Sha.H0 P)):=by
  unfold Hid Sha.sum Sha.absorb
  rw [<- hP,hN,Nat.mul_div_cancel_left _ (by omega)]
 have HNN:Hid (P.length=64 * N):=hN
 have hPb:64 * N<=1000000100:=by
  have:=h.len
  rw [<- hN,hP,List.length_append,Sha.tail_length]; omega
 have HR:=Lib.hid h
 have HB:=Lib.hid hB
 have HP:=Lib.hid hP
 clear h hB hP hN
 go_enter Tryd.func54,Tryd.ntmps54
 go_wp2_with fail
 refine (k256_any _).mono ?_
 rintro e w1 ⟨gk,rfl,hgk,hK,hX⟩
 have HK1:=Lib.hid hK
 have hltk:=hK.lt
 have X1:=Lib.hid hX
 have HR1:=Lib.hid (HR.out.below hX)
 have HB1:=Lib.hid (HB.out.below hX HB.out.lt)
 have hs1:=hX.size
 clear hK hX HR HB
 go_wp2_with fail
 refine (padded_any HR1.out hn).mono ?_
 rintro e w2 ⟨v,rfl,hO,hX⟩
 rw [<- HP.out] at hO
 obtain ⟨A0,c0,rfl,hr0,hge0⟩:=hO.value
 have hs2:=hX.size
 have HR2:=Lib.hid hr0
 have HA2:Hid (0 < P.length->∀ ad,A0=some ad->ad.block ≠ gh):=fun h0 ad had=>by
  obtain ⟨g,e,hg⟩:=hge0 h0
  rw [had] at e
  injection e with e
  subst e
  show g ≠ gh
  omega
 have HK2:Hid (RdW w2 gk 64 Sha.K):=HK1.out.keep hX.size (hX.block gk hltk)
 have HB2:=Lib.hid (HB1.out.below hX HB1.out.lt)
 have O2:Hid (w.grownBy w2 (some gh)):=only_of_below (X1.out.trans (hX.mono hs1)) _
 have hgkh:gk ≠ gh:=by omega
 clear hO hX hr0 hge0 HK1 HB1 X1 HR1
 rw [HNN.out] at HR2 HA2
 rw [HNN.out]
 go_wp2_with fail
 go_loopw [6] (fun s wr=>∃ (q:Nat) (A:Option Addr) (n c:Nat),n + 64 * q=64 * N/\s = .slice A n c/\Hid (Rd wr A n c (P.drop (64 * q)))/\Hid (0 < n->∀ ad,A=some ad->ad.block ≠ gh)/\Hid (Blk wr gh 102 ((Sha.blocks q Sha.H0 P).map wd))/\Hid (RdW wr gk 64 Sha.K)/\Hid (w.grownBy wr (some gh))) (fun s _=>slen s)
 case atStart=>exact ⟨0,_,_,_,by omega,rfl,HR2,HA2,HB2,HK2,O2⟩
 case round =>
  clear HR2 HA2 HB2 HK2 O2
  obtain ⟨q,A,n,cm,hq,rfl,HR,HA,HB,HK,HO⟩:=hrel
  by_cases hn0:0 < n
  ·have hn64:64<=n:=by omega
   obtain ⟨bm,off,rfl,hbm,hcm⟩:=HR.out.at_ hn0
   have hbmh:bm ≠ gh:=HA.out hn0 _ rfl
   have hcap:=HR.out.cap
   have hmax:=HR.out.max
   unfold maxLen at hmax
   obtain ⟨wo,rfl⟩:∃ wo,wo=wr:=⟨_,rfl⟩
   obtain ⟨blk,hblk⟩:∃ blk,blk=(P.drop (64 * q)).take 64:=⟨_,rfl⟩
   have HLd:Hid ((P.drop (64 * q)).length=n):=HR.out.len
   have HBL:Hid (blk.length=64):=by unfold Hid; rw [hblk,List.length_take,HLd.out]; omega
   have HBK:=Lib.hid hblk
   have hmk:=make_words
   have hgh:=HB.out.lt
   have hgk:=HK.out.lt
   clear hblk hcm
   go_wp2_with fail
   clear hmk
   go_loopw [8] (fun i wr=>∃ (k:Nat) (l:List Int),k<=64/\i = .int .i64 k/\Hid (l.length=k)/\Hid (k<=16->l ++ Sha.firsts (blk.drop (4 * k))=Sha.firsts blk)/\Hid (16<=k->Sha.ext (64 - k) l=Sha.sched blk)/\Hid (Blk wr wo.heap.size 102 (fill l))/\Hid (Below wo.heap.size wo wr)) (fun i _=>64 - (intOf i).toNat)
   case atStart=>exact ⟨0,[],by omega,rfl,rfl,fun _=>rfl,fun h=>absurd h (by omega),Blk.at_new _ _ 102 _ _ rfl rfl,(Below.refl _ _).alloc (Nat.le_refl _) _⟩
   case round =>
    obtain ⟨k,l,hk,rfl,HKl,HE1,HE2,BK,BW⟩:=hrel
    have hsr:=BW.out.size
    have hgw:=BK.out.lt
    by_cases hlt:k < 64
    ·by_cases hlt16:k < 16
     ·have hsl:∀ W,(Instr.slice 41 (.slice (some ⟨bm,off,none⟩) n cm) (some (.int .i64 (4 * (k:Int)))) none none).run Tryd.prog W = .ok (.slice (some ⟨bm,off + 4 * k,none⟩) (n - 4 * k) (cm - 4 * k)) W:=fun W=>by
       have:=slice_l (some ⟨bm,off,none⟩) n cm (4 * k) (by omega) W
       rw [show ((4 * k:Nat):Int)=4 * (k:Int) by omega] at this
       rw [this]
       unfold cutA
       rw [if_neg (by omega)]
       simp only [Option.map_some,add_plain]
      have HRc:Hid (Rd wr (some ⟨bm,off + 4 * k,none⟩) (n - 4 * k) (cm - 4 * k) ((P.drop (64 * q)).drop (4 * k))):=by
       have h1:=(HR.out.below BW.out).cut (k:=4 * k) (e:=n) (by omega) (Nat.le_refl _)
       rw [List.take_of_length_le (by rw [List.length_drop,HLd.out]; omega)] at h1
       unfold cutA at h1
       rw [if_neg (by omega)] at h1
       simp only [Option.map_some,add_plain] at h1
       exact h1
      obtain ⟨x,hx⟩:∃ x,x=Sha.wordOf (((P.drop (64 * q)).drop (4 * k)).getD 0 0) (((P.drop (64 * q)).drop (4 * k)).getD 1 0) (((P.drop (64 * q)).drop (4 * k)).getD 2 0) (((P.drop (64 * q)).drop (4 * k)).getD 3 0):=⟨_,rfl⟩
      have HX1:Hid (l ++ [x] ++ Sha.firsts (blk.drop (4 * (k + 1)))=Sha.firsts blk):=by
       have h1:=firsts_drop blk k (by rw [HBL.out]; omega)
       have hget:∀ j,j < 4->blk.getD (4 * k + j) 0=((P.drop (64 * q)).drop (4 * k)).getD j 0:=fun j hj=>by
        rw [HBK.out]
        simp only [List.getD_eq_getElem?_getD,List.getElem?_take,List.getElem?_drop]
        rw [if_pos (by omega)]
       have e0:=hget 0 (by omega)
       rw [Nat.add_zero] at e0
       rw [e0,hget 1 (by omega),hget 2 (by omega),hget 3 (by omega),<- hx] at h1
       unfold Hid
       rw [<- HE1.out (by omega),h1]
       simp
      have HX2:Hid (16<=k + 1->Sha.ext (64 - (k + 1)) (l ++ [x])=Sha.sched blk):=fun h16=>by
       have hk15:k + 1=16:=by omega
       have h1:=HX1.out
       rw [hk15,List.drop_of_length_le (by rw [HBL.out]; omega)] at h1
       rw [hk15,Sha.sched,<- h1]
       simp [Sha.firsts]
      have hcall:=word_any HRc.out (by omega)
      rw [<- hx] at hcall
      have HC:=Lib.hid hcall
      clear hcall hx HE1 HE2
      go_wp2_with fail
      refine HC.out.mono ?_
      rintro e w3 ⟨rfl,hX,_⟩
      have BK3:=Lib.hid (BK.out.below hX hgw)
      have BW3:=Lib.hid (BW.out.trans (hX.mono hsr))
      have c4:w3.cell? ⟨wo.heap.size,k,none⟩=some (.int .u32 0):=by
       rw [BK3.out.cell,<- HKl.out]; exact fill_at l (by rw [HKl.out]; omega)
      have f4:w3.frozen? ⟨wo.heap.size,k,none⟩=false:=BK3.out.frozen k
      clear hX HC hsl HRc
      go_wp2_with fail
      go_roundw
      case rel=>exact ⟨k + 1,l ++ [x],by omega,by go_num,by unfold Hid; simp [HKl.out],fun _=>HX1,HX2,by
       have:=BK3.out.set_ k (wd x)
       rw [show k=l.length from HKl.out.symm,fill_set l _ (by rw [HKl.out]; omega)] at this
       rw [HKl.out] at this
       exact this,BW3.out.setCell (Nat.le_refl _) _⟩
      case measure=>simp [intOf]; omega
     ·have hk16:16<=k:=by omega
      have hcell:∀ j,j < k->wr.cell? ⟨wo.heap.size,j,none⟩=some (.int .u32 (l.getD j 0)):=fun j hj=>by
       rw [BK.out.cell]; exact fill_get l j (by rw [HKl.out]; exact hj)
      have c15:=hcell (k - 15) (by omega)
      have c2:=hcell (k - 2) (by omega)
      have c16:wr.drew.cell? ⟨wo.heap.size,k - 16,none⟩=some (.int .u32 (l.getD (k - 16) 0)):=hcell (k - 16) (by omega)
      have c7:wr.drew.cell? ⟨wo.heap.size,k - 7,none⟩=some (.int .u32 (l.getD (k - 7) 0)):=hcell (k - 7) (by omega)
      have f4:wr.drew.frozen? ⟨wo.heap.size,k,none⟩=false:=BK.out.frozen k
      have c4:wr.drew.cell? ⟨wo.heap.size,k,none⟩=some (.int .u32 0):=by
       rw [BK.out.drew.cell,<- HKl.out]; exact fill_at l (by rw [HKl.out]; omega)
      have HNx:Hid (Sha.nx l=Sha.nextW (l.getD (k - 16) 0) (l.getD (k - 7) 0) (Sha.sm0 (l.getD (k - 15) 0)) (Sha.sm1 (l.getD (k - 2) 0))):=by
       unfold Hid Sha.nx; rw [HKl.out]
      have HX:Hid (16<=k + 1->Sha.ext (64 - (k + 1)) (l ++ [Sha.nx l])=Sha.sched blk):=fun _=>by
       rw [<- HE2.out hk16,show 64 - k=(64 - (k + 1)) + 1 by omega,Sha.ext_succ]
      have HX0:Hid (k + 1<=16->l ++ [Sha.nx l] ++ Sha.firsts (blk.drop (4 * (k + 1)))=Sha.firsts blk):=fun h=>absurd h (by omega)
      clear hcell HE1 HE2
      generalize l.getD (k - 16) 0=y16 at c16 HNx
      generalize l.getD (k - 7) 0=y7 at c7 HNx
      generalize l.getD (k - 15) 0=y15 at c15 HNx
      generalize l.getD (k - 2) 0=y2 at c2 HNx
      have BK2:=Lib.hid BK.out.drew
      have BW2:=Lib.hid BW.out.drew
      obtain ⟨j16,hj16⟩:∃ j,j=k - 16:=⟨_,rfl⟩
      obtain ⟨j15,hj15⟩:∃ j,j=k - 15:=⟨_,rfl⟩
      obtain ⟨j7,hj7⟩:∃ j,j=k - 7:=⟨_,rfl⟩
      obtain ⟨j2,hj2⟩:∃ j,j=k - 2:=⟨_,rfl⟩
      rw [<- hj16] at c16
      rw [<- hj15] at c15
      rw [<- hj7] at c7
      rw [<- hj2] at c2
      have e16:IntKind.i64.wrap ((k:Int) - 16)=(j16:Int):=by rw [IntKind.wrap_i64]; omega
      have e15:(k:Int) - 15=(j15:Int):=by omega
      have e7:IntKind.i64.wrap ((k:Int) - 7)=(j7:Int):=by rw [IntKind.wrap_i64]; omega
      have e2:(k:Int) - 2=(j2:Int):=by omega
      have b16:(j16:Int) < 64:=by omega
      have b15:(j15:Int) < 64:=by omega
      have b7:(j7:Int) < 64:=by omega
      have b2:(j2:Int) < 64:=by omega
      have bk:(k:Int) < 64:=by omega
      have b15':j15 < 64:=by omega
      have b2':j2 < 64:=by omega
      clear hj16 hj15 hj7 hj2 BK BW
      go_wp2_with fail
      clear e15 e2 c15 c2
      refine wp_region_still_tail 32 (by kernel_rfl) (by kernel_rfl) ?_
      simp only [List.take_succ_cons,List.take_zero,List.drop_succ_cons,List.drop_zero]
      have hD:({ wr with drawn:=wr.drawn + 1 }:World)=wr.drew:=rfl
      rw [hD]
      clear hD
      generalize wr.drew=w3 at *
      repeat (first | still_step | still_call (right_lit _ _ _ (by omega) (by omega)))
      refine wpStill_nil ?_
      go_wp2_with fail
      go_roundw
      case rel=>exact ⟨k + 1,l ++ [Sha.nx l],by omega,by go_num,by unfold Hid; simp [HKl.out],HX0,HX,by
       rw [next_form2,<- HNx.out]
       have:=BK2.out.set_ k (wd (Sha.nx l))
       rw [show k=l.length from HKl.out.symm,fill_set l _ (by rw [HKl.out]; omega)] at this
       rw [HKl.out] at this
       exact this,BW2.out.setCell (Nat.le_refl _) _⟩
      case measure=>simp [intOf]; omega
    ·obtain rfl:k=64:=by omega
     have HSl:Hid (l=Sha.sched blk):=HE2.out (by omega)
     have HRS:Hid (RdW wr wo.heap.size 64 (Sha.sched blk)):=by
      have h1:=BK.out
      have h2:fill l=l.map wd:=by unfold fill; rw [HKl.out]; simp
      rw [h2,HSl.out] at h1
      have h3:=RdW.of_block h1
      rw [Sha.sched_length blk HBL.out] at h3
      exact h3
     have HKr:Hid (RdW wr gk 64 Sha.K):=HK.out.keep BW.out.size (BW.out.block gk hgk)
     have HBr:Hid (Blk wr gh 102 ((Sha.blocks q Sha.H0 P).map wd)):=HB.out.below BW.out hgh
     have HRh:Hid (RdW wr gh 8 (Sha.blocks q Sha.H0 P)):=by
      have:=RdW.of_block HBr.out
      rw [Sha.blocks_length _ _ _ rfl] at this
      exact this
     obtain ⟨w5,rfl⟩:∃ w5,w5=wr:=⟨_,rfl⟩
     have BW0:Hid (Below wo.heap.size wo w5):=BW
     clear HE1 HE2 BK HSl HKl
     go_wp2_with (first | (at_builtin; refine ontoW_law rfl _ rfl rfl HRh.out ?_; intro gv cv w6 HGV HRV X6))
     have hs6:=X6.out.size
     have hgv6:=HRV.out.lt
     have HKs:Hid (Sha.K.length=64):=rfl
     have HSs:Hid ((Sha.sched blk).length=64):=Sha.sched_length blk HBL.out
     obtain ⟨s,hs⟩:∃ s,s=Sha.blocks q Sha.H0 P:=⟨_,rfl⟩
     have HSq:=Lib.hid hs
     have HS8:Hid (s.length=8):=by unfold Hid; rw [hs]; exact Sha.blocks_length _ _ _ rfl
     obtain ⟨R,hR⟩:∃ R,R=Sha.run Sha.K (Sha.sched blk) (s.getD 0 0) (s.getD 1 0) (s.getD 2 0) (s.getD 3 0) (s.getD 4 0) (s.getD 5 0) (s.getD 6 0) (s.getD 7 0):=⟨_,rfl⟩
     have HRR:=Lib.hid hR
     rw [<- hs] at HRV HBr
     have HV8:Hid (RdW w6 gv 8 [s.getD 0 0,s.getD 1 0,s.getD 2 0,s.getD 3 0,s.getD 4 0,s.getD 5 0,s.getD 6 0,s.getD 7 0]):=by
      refine ⟨rfl,HRV.out.lt,fun j hj=>?_⟩
      rw [HRV.out.at_ j hj]
      match j,hj with
      | 0,_=>rfl
      | 1,_=>rfl
      | 2,_=>rfl
      | 3,_=>rfl
      | 4,_=>rfl
      | 5,_=>rfl
      | 6,_=>rfl
      | 7,_=>rfl
     clear hs hR HRV HRh
     go_loopw [11,12] (fun v i wr=>∃ (k gv cv:Nat) (a b c d e f g hh:Int),k<=64/\i = .int .i64 k/\v = .slice (some ⟨gv,0,none⟩) 8 cv/\Hid (RdW wr gv 8 [a,b,c,d,e,f,g,hh])/\w5.heap.size<=gv/\Hid (Sha.run (Sha.K.drop k) ((Sha.sched blk).drop k) a b c d e f g hh=R)/\Hid (Below w5.heap.size w5 wr)) (fun _ i _=>64 - (intOf i).toNat)
     case atStart=>exact ⟨0,gv,cv,_,_,_,_,_,_,_,_,by omega,rfl,rfl,HV8,HGV.out,HRR.out.symm,X6⟩
     case round =>
      clear HV8 X6
      obtain ⟨k,gv2,cv2,a,b,c,d,e,f,g,hh,hk,rfl,rfl,HV,hgv2,HE,BW⟩:=hrel
      have hsr:=BW.out.size
      by_cases hlt:k < 64
      ·obtain ⟨kk,hkk⟩:∃ x,x=Sha.K.getD k 0:=⟨_,rfl⟩
       obtain ⟨wk,hwk⟩:∃ x,x=(Sha.sched blk).getD k 0:=⟨_,rfl⟩
       have HE2:Hid (Sha.run (Sha.K.drop (k + 1)) ((Sha.sched blk).drop (k + 1)) (Sha.add (Sha.one e f g hh kk wk) (Sha.two a b c)) a b c (Sha.add d (Sha.one e f g hh kk wk)) e f g=R):=by
        unfold Hid
        rw [<- HE.out,drop_cons Sha.K k (by rw [Sha.K_length]; exact hlt),drop_cons (Sha.sched blk) k (by rw [HSs.out]; exact hlt),Sha.run_cons,<- hkk,<- hwk]
       have v0:wr.cell? ⟨gv2,0,none⟩=some (.int .u32 a):=HV.out.at_ 0 (by omega)
       have v4:wr.cell? ⟨gv2,4,none⟩=some (.int .u32 e):=HV.out.at_ 4 (by omega)
       have HV1:Hid (RdW wr.drew gv2 8 [a,b,c,d,e,f,g,hh]):=⟨HV.out.len,HV.out.lt,HV.out.at_⟩
       have BW1:=Lib.hid BW.out.drew
       have ck:wr.drew.cell? ⟨gk,k,none⟩=some (.int .u32 kk):=by
        rw [hkk]; exact (BW.out.cell (p:=⟨gk,k,none⟩) HKr.out.lt).trans (HKr.out.at_ k hlt)
       have cw:wr.drew.cell? ⟨wo.heap.size,k,none⟩=some (.int .u32 wk):=by
        rw [hwk]; exact (BW.out.cell (p:=⟨wo.heap.size,k,none⟩) HRS.out.lt).trans (HRS.out.at_ k hlt)
       have bk:(k:Int) < 64:=by omega
       clear hkk hwk HE HV BW
       go_wp2_with fail
       clear v0 v4
       have v5:wr.drew.cell? ⟨gv2,5,none⟩=some (.int .u32 f):=HV1.out.at_ 5 (by omega)
       have v6:wr.drew.cell? ⟨gv2,6,none⟩=some (.int .u32 g):=HV1.out.at_ 6 (by omega)
       have v7:wr.drew.cell? ⟨gv2,7,none⟩=some (.int .u32 hh):=HV1.out.at_ 7 (by omega)
       refine wp_region_still_lit (by kernel_rfl) (by kernel_rfl) ?_
       have hD:({ wr with drawn:=wr.drawn + 1 }:World)=wr.drew:=rfl
       rw [hD]
       clear hD
       have hsr1:wr.heap.size<=wr.drew.heap.size:=Nat.le_refl _
       generalize wr.drew=w7 at *
       repeat (first | still_step | still_call (right_lit _ _ _ (by omega) (by omega)))
       refine wpStill_nil ?_
       clear v5 v6 v7 ck cw
       have HV2:Hid (RdW w7.drew gv2 8 [a,b,c,d,e,f,g,hh]):=⟨HV1.out.len,HV1.out.lt,HV1.out.at_⟩
       have BW2:=Lib.hid BW1.out.drew
       have v1:w7.drew.cell? ⟨gv2,1,none⟩=some (.int .u32 b):=HV1.out.at_ 1 (by omega)
       have v2:w7.drew.cell? ⟨gv2,2,none⟩=some (.int .u32 c):=HV1.out.at_ 2 (by omega)
       clear HV1 BW1
       go_wp2_with fail
       refine wp_region_still_lit (by kernel_rfl) (by kernel_rfl) ?_
       have hD:({ w7 with drawn:=w7.drawn + 1 }:World)=w7.drew:=rfl
       rw [hD]
       clear hD
       have hsr2:w7.heap.size<=w7.drew.heap.size:=Nat.le_refl _
       generalize w7.drew=w8 at *
       repeat (first | still_step | still_call (right_lit _ _ _ (by omega) (by omega)))
       refine wpStill_nil ?_
       clear v1 v2
       have BW3:=Lib.hid BW2.out.drew
       have v0:w8.drew.cell? ⟨gv2,0,none⟩=some (.int .u32 a):=HV2.out.at_ 0 (by omega)
       have v1:w8.drew.cell? ⟨gv2,1,none⟩=some (.int .u32 b):=HV2.out.at_ 1 (by omega)
       have v2:w8.drew.cell? ⟨gv2,2,none⟩=some (.int .u32 c):=HV2.out.at_ 2 (by omega)
       have v3:w8.drew.cell? ⟨gv2,3,none⟩=some (.int .u32 d):=HV2.out.at_ 3 (by omega)
       have v4:w8.drew.cell? ⟨gv2,4,none⟩=some (.int .u32 e):=HV2.out.at_ 4 (by omega)
       have v5:w8.drew.cell? ⟨gv2,5,none⟩=some (.int .u32 f):=HV2.out.at_ 5 (by omega)
       have v6:w8.drew.cell? ⟨gv2,6,none⟩=some (.int .u32 g):=HV2.out.at_ 6 (by omega)
       clear HV2 BW2
       go_wp2_with fail
       refine wp_region_still_tail 26 (by kernel_rfl) (by kernel_rfl) ?_
       simp only [List.take_succ_cons,List.take_zero,List.drop_succ_cons,List.drop_zero]
       have hD:({ w8 with drawn:=w8.drawn + 1 }:World)=w8.drew:=rfl
       rw [hD]
       clear hD
       have hsr3:w8.heap.size<=w8.drew.heap.size:=Nat.le_refl _
       generalize w8.drew=w9 at *
       repeat still_step
       refine wpStill_nil ?_
       clear v0 v1 v2 v3 v4 v5 v6
       go_wp2_with fail
       go_roundw
       case rel=>exact ⟨k + 1,w9.heap.size,8,Sha.add (Sha.one e f g hh kk wk) (Sha.two a b c),a,b,c,Sha.add d (Sha.one e f g hh kk wk),e,f,g,by omega,by go_num,rfl,by
        rw [new_a,new_e]
        exact RdW.of_block (l:=[Sha.add (Sha.one e f g hh kk wk) (Sha.two a b c),a,b,c,Sha.add d (Sha.one e f g hh kk wk),e,f,g]) (Blk.at_new _ _ 102 _ _ (by rfl) rfl),by omega,HE2,BW3.out.alloc (by omega) _⟩
       case measure=>simp [intOf]; omega
      ·obtain rfl:k=64:=by omega
       have HZ:Hid ([a,b,c,d,e,f,g,hh]=R):=by
        unfold Hid
        rw [<- HE.out,List.drop_of_length_le (by rw [Sha.K_length]; omega),Sha.run_nil]
       have HVR:Hid (RdW wr gv2 8 R):=by unfold Hid; rw [<- HZ.out]; exact HV.out
       have HR8:Hid (R.length=8):=by unfold Hid; rw [<- HZ.out]; rfl
       clear HE HV HZ
       have e64:((64:Nat):Int)=64:=rfl
       have HBk:Hid (Blk wr gh 102 (s.map wd)):=HBr.out.below BW.out HBr.out.lt
       have hghl:=HBk.out.lt
       have hghw:gh < w5.heap.size:=HBr.out.lt
       obtain ⟨T,hT⟩:∃ T,T=Sha.adds s R:=⟨_,rfl⟩
       have HT:=Lib.hid hT
       obtain ⟨w10,rfl⟩:∃ w10,w10=wr:=⟨_,rfl⟩
       clear hT
       go_wp2_with fail
       try rw [e64]
       clear e64
       go_loopw [17] (fun i wr=>∃ (k:Nat) (l:List Int),k<=8/\i = .int .i64 k/\Hid (l.length=k)/\Hid (l ++ Sha.adds (s.drop k) (R.drop k)=T)/\Hid (Blk wr gh 102 (l.map wd ++ (s.drop k).map wd))/\Hid (w10.grownBy wr (some gh))) (fun i _=>8 - (intOf i).toNat)
       case atStart=>exact ⟨0,[],by omega,rfl,rfl,HT.out.symm,HBk,only_refl _ _⟩
       case round =>
        clear HBk
        obtain ⟨k,l,hk,rfl,HKl,HE,BK,O⟩:=hrel
        have hsr3:=O.out.size
        by_cases hlt:k < 8
        ·obtain ⟨sk,hsk⟩:∃ x,x=s.getD k 0:=⟨_,rfl⟩
         obtain ⟨rk,hrk⟩:∃ x,x=R.getD k 0:=⟨_,rfl⟩
         have c0:wr.drew.cell? ⟨gh,k,none⟩=some (.int .u32 sk):=by rw [BK.out.drew.cell,hsk]; exact half_at l s k HKl.out (by rw [HS8.out]; exact hlt)
         have f0:wr.drew.frozen? ⟨gh,k,none⟩=false:=BK.out.frozen k
         have HV3:Hid (RdW wr gv2 8 R):=HVR.out.keep O.out.size (O.out.block gv2 HVR.out.lt (by simp; omega))
         have c1:wr.drew.cell? ⟨gv2,k,none⟩=some (.int .u32 rk):=by rw [hrk]; exact HV3.out.at_ k hlt
         have HE2:Hid (l ++ [Sha.add sk rk] ++ Sha.adds (s.drop (k + 1)) (R.drop (k + 1))=T):=by
          unfold Hid
          rw [<- HE.out,drop_cons s k (by rw [HS8.out]; exact hlt),drop_cons R k (by rw [HR8.out]; exact hlt),Sha.adds_cons,<- hsk,<- hrk]
          simp
         have HBn:Hid (Blk (wr.drew.setCell ⟨gh,k,none⟩ (wd (Sha.add sk rk))) gh 102 ((l ++ [Sha.add sk rk]).map wd ++ (s.drop (k + 1)).map wd)):=by
          have:=BK.out.drew.set_ k (wd (Sha.add sk rk))
          rw [half_set l s k _ HKl.out (by rw [HS8.out]; exact hlt)] at this
          exact this
         have O2:=Lib.hid (only_drew O.out)
         have bk:(k:Int) < 8:=by omega
         have bk':k < 8:=hlt
         clear hsk hrk HE BK O HV3
         go_wp2_with fail
         refine wp_region_still_tail 10 (by kernel_rfl) (by kernel_rfl) ?_
         simp only [List.take_succ_cons,List.take_zero,List.drop_succ_cons,List.drop_zero]
         have hD:({ wr with drawn:=wr.drawn + 1 }:World)=wr.drew:=rfl
         rw [hD]
         clear hD
         generalize wr.drew=w11 at *
         repeat still_step
         refine wpStill_nil ?_
         go_wp2_with fail
         go_roundw
         case rel=>exact ⟨k + 1,l ++ [Sha.add sk rk],by omega,by go_num,by unfold Hid; simp [HKl.out],HE2,HBn,only_setCell O2.out (.inl rfl) _⟩
         case measure=>simp [intOf]; omega
        ·obtain rfl:k=8:=by omega
         have hl:l=T:=by
          have:=HE.out
          rw [List.drop_of_length_le (show s.length<=8 by rw [HS8.out]; omega)] at this
          simpa [Sha.adds] using this
         have HBN:Hid (Blk wr gh 102 ((Sha.blocks (q + 1) Sha.H0 P).map wd)):=by
          have h1:=BK.out
          rw [List.drop_of_length_le (show s.length<=8 by rw [HS8.out]; omega),List.map_nil,List.append_nil,hl,HT.out,HRR.out,HSq.out,HBK.out] at h1
          unfold Hid
          rw [Sha.blocks_add]
          exact h1
         have hwo1:wo.heap.size<=w10.heap.size:=by omega
         have X10:Hid (Below wo.heap.size wo w10):=BW0.out.trans (BW.out.mono BW0.out.size)
         have OO:Hid (wo.grownBy wr (some gh)):=only_trans (only_of_below X10.out _) O.out
         have HRn:Hid (Rd wr (some ⟨bm,off,none⟩) n cm (P.drop (64 * q))):=HR.out.grown OO.out HA.out
         have HRc:Hid (Rd wr (cutA (some ⟨bm,off,none⟩) cm 64) (n - 64) (cm - 64) (P.drop (64 * (q + 1)))):=by
          have h1:=HRn.out.cut (k:=64) (e:=n) hn64 (Nat.le_refl _)
          rw [List.take_of_length_le (by rw [List.length_drop,HLd.out]; omega),List.drop_drop] at h1
          exact h1
         have HAc:Hid (0 < n - 64->∀ ad,cutA (some ⟨bm,off,none⟩) cm 64=some ad->ad.block ≠ gh):=fun _ ad had=>by
          obtain ⟨a0,e0,e1⟩:=cut_block had
          rw [<- e1]
          exact HA.out hn0 a0 e0
         have HKn:Hid (RdW wr gk 64 Sha.K):=HK.out.keep OO.out.size (OO.out.block gk hgk (by simp; omega))
         have HON:Hid (w.grownBy wr (some gh)):=only_trans HO.out OO.out
         have hsl:=slice_l (some ⟨bm,off,none⟩) n cm 64 hn64 wr
         have hsl2:(Instr.slice 41 (.slice (some ⟨bm,off,none⟩) n cm) (some (.int .i64 64)) none none).run Tryd.prog wr = .ok (.slice (cutA (some ⟨bm,off,none⟩) cm 64) (n - 64) (cm - 64)) wr:=hsl
         clear hl HE BK O HKl hsl
         go_wp2_with fail
         clear hsl2
         go_roundw
         case rel=>exact ⟨q + 1,_,_,_,by omega,rfl,HRc,HAc,HBN,HKn,HON⟩
         case measure=>simp [slen]; omega
  ·have hqN:q=N:=by omega
   have HB2:Hid (RdW wr gh 8 (Sha.blocks N Sha.H0 P)):=by
    have:=RdW.of_block HB.out
    rw [Sha.blocks_length _ _ _ rfl,hqN] at this
    exact this
   have HLh:Hid ((Sha.flat (Sha.blocks N Sha.H0 P)).length=32):=by unfold Hid; rw [Sha.flat_length,Sha.blocks_length _ _ _ rfl]
   clear HB hqN
   go_wp2_with fail
   refine (rwords_any HB2.out).mono ?_
   rintro e w3 ⟨v,rfl,hO,hX⟩
   rw [<- HS.out] at hO HLh
   obtain ⟨A3,c3,rfl,hr3,_⟩:=hO.value
   rw [HLh.out] at hr3
   rw [HLh.out]
   have HR3:=Lib.hid hr3
   have O3:=Lib.hid (only_trans HO.out (only_of_below hX (some gh)))
   clear hO hX hr3 HB2
   go_wp2_with fail
   go_ret
   exact ⟨_,_,rfl,HR3.out,O3.out⟩
end Go.Proofs.YtajgjeialbgijaaDoor
namespace Go.Proofs.YtajgjeialbgijaaDoor
set_option linter.unusedVariables false
set_option linter.unusedSimpArgs false
set_option maxRecDepth 100000
open Go.RowKit
set_option maxRecDepth 100000 in
set_option maxHeartbeats 2000000 in
theorem rsum_any {w:World} {A:Option Addr} {n c:Nat} {b:List UInt8} (hr:Rd w A n c b) (hn:n<=1000000000) :
  Calls Tryd.prog 38 #[.slice A n c] w fun e w'=>∃ D,e = .returned (.agg D.toArray)/\Summed b D/\Below w.heap.size w w':=by
 have HR:=Lib.hid hr
 clear hr
 go_enter Tryd.func38,Tryd.ntmps38
 go_upto_region 2 with (fail)
 obtain ⟨w2,hw2⟩:∃ w2,w2=((w.alloc (.cells (List.replicate 32 (.int .u8 0)).toArray 27)).alloc (.cells (List.replicate 32 (.int .u8 0)).toArray 27)).drew:=⟨_,rfl⟩
 have hs:w.heap.size + 2<=w2.heap.size:=by rw [hw2]; show _<=(World.alloc _ _).heap.size; simp
 have HW:Hid (Below w.heap.size w w2):=by unfold Hid; rw [hw2]; exact (((Below.refl _ _).alloc (Nat.le_refl _) _).alloc (by simp) _).drew
 have HZ0:Hid (Blk w2 w.heap.size 27 (List.replicate 32 (.int .u8 0))):=by unfold Hid; rw [hw2]; exact ((Blk.new w 27 _).alloc _).drew
 have HZ1:Hid (Blk w2 (w.heap.size + 1) 27 (List.replicate 32 (.int .u8 0))):=by unfold Hid; rw [hw2]; exact (Blk.at_new _ _ 27 _ _ rfl (by simp)).drew
 refine wp_region_any (by kernel_rfl) ?_
 change wpAny _ _ _ _ _ _ _ (((w.alloc (.cells (List.replicate 32 (.int .u8 0)).toArray 27)).alloc (.cells (List.replicate 32 (.int .u8 0)).toArray 27)).drew)
 rw [<- hw2]
 clear hw2
 refine wpAny_take (i:=0) (oi:=?oi1) (v:=.slice (some ⟨w.heap.size + 1,0,none⟩) 32 32) ?hi1 (by kernel_rfl) (by kernel_rfl) (by kernel_rfl) ?hQ1 ?hy1 ?rest1
 case hi1=>simp only [zge]; rfl
 case hQ1=>exact fun _ _ _ h=>h
 case hy1=>exact Or.inl ⟨by rfl,by intro w; go_simp⟩
 try simp only [zpt]
 refine wpAny_take (i:=1) (oi:=?oi2) (v:=.slice A n c) ?hi2 (by kernel_rfl) (by kernel_rfl) (by kernel_rfl) ?hQ2 ?hy2 ?rest2
 case hi2=>simp only [zge]; rfl
 case hQ2=>exact fun _ _ _ h=>h
 case hy2=>exact Or.inl ⟨by rfl,by intro w; go_simp⟩
 try simp only [zpt]
 refine wpAny_ready (rs:=[2]) (by kernel_rfl) (by simp) ?_
 refine AllReady.cons (o:=?o3) ?ho3 (fun K hK=>?_) AllReady.nil
 case ho3=>simp only [zge]; rfl
 go_simp
 have X2:=Lib.hid ((Below.refl w2.heap.size w2).alloc (Nat.le_refl _) (.cells (Sha.H0.map wd).toArray 102))
 have HH:=Lib.hid (Blk.new w2 102 (Sha.H0.map wd))
 have hs3:w2.heap.size + 1<=(w2.alloc (.cells (Sha.H0.map wd).toArray 102)).heap.size:=by simp
 refine hK _ _ ?_
 clear hK K
 change wpAny _ _ _ _ _ _ _ (w2.alloc (.cells (Sha.H0.map wd).toArray 102))
 generalize w2.alloc (.cells (Sha.H0.map wd).toArray 102)=w3 at *
 try simp only [zpt]
 have HR3:Hid (Rd w3 A n c b):=(HR.out.below HW.out).below X2.out
 refine wpAny_ready (rs:=[3]) (by kernel_rfl) (by simp) ?_
 refine AllReady.cons (o:=?o4) ?ho4 (fun K hK=>?_) AllReady.nil
 case ho4=>simp only [zge]; rfl
 go_simp
 refine (rsha_any HR3.out hn HH.out).mono ?_
 rintro e w4 ⟨A',c',rfl,hr4,hO4⟩
 have HR4:=Lib.hid hr4
 have hs4:=hO4.size
 have HZ04:Hid (Blk w4 w.heap.size 27 (List.replicate 32 (.int .u8 0))):=(hO4.block _ (by omega) (by simp; omega)).trans (HZ0.out.below X2.out (by omega))
 have HZ14:Hid (Blk w4 (w.heap.size + 1) 27 (List.replicate 32 (.int .u8 0))):=(hO4.block _ (by omega) (by simp; omega)).trans (HZ1.out.below X2.out (by omega))
 have W4:Hid (Below w.heap.size w w4):=below_of_only (HW.out.trans (X2.out.mono (by omega))) hO4 (by omega) (by omega)
 refine hK _ _ ?_
 clear hK K hr4 hO4 HZ0 HZ1 HW HH X2 HR3
 try simp only [zpt]
 obtain ⟨w5,hcopy,hB5,hO5⟩:=copy_into (off:=0) (dLen:=32) (dCap:=32) HZ14.out HR4.out (by simp)
 have hD:(List.replicate 32 (Value.int .u8 0)).take 0 ++ ((Sha.sum b).take (min 32 32)).map cellOf ++ (List.replicate 32 (Value.int .u8 0)).drop (0 + min 32 32)=(Sha.sum b).map cellOf:=by
  rw [Nat.min_self,show (Sha.sum b).take 32=Sha.sum b from List.take_of_length_le (by rw [Sha.sum_length]; omega)]
  simp
 rw [hD] at hB5
 obtain ⟨D,hDD⟩:∃ D,D=(Sha.sum b).map cellOf:=⟨_,rfl⟩
 rw [<- hDD] at hB5
 have hM:Summed b D:=hDD
 have HM:=Lib.hid hM
 have HI:=Lib.hid hM.info
 have HL:Hid ((List.replicate 32 (Value.int .u8 0)).length=D.length):=by unfold Hid; rw [hM.len]; rfl
 have H1:=Lib.hid hM.one
 have HB5:=Lib.hid hB5
 have HZ5:Hid (Blk w5 w.heap.size 27 (List.replicate 32 (.int .u8 0))):=(hO5.block _ HZ04.out.lt (by simp)).trans HZ04.out
 have W5:Hid (Below w.heap.size w w5):=below_of_only W4.out hO5 (by omega) (by omega)
 clear hD hB5 hDD hM hO5 W4 HZ04 HZ14 HR4
 refine wpAny_ready (rs:=[4]) (by kernel_rfl) (by simp) ?_
 refine AllReady.cons (o:=?o5) ?ho5 (fun K hK=>?_) AllReady.nil
 case ho5=>simp only [zge]; rfl
 go_simp
 refine hK _ _ ?_
 clear hK K hcopy
 try simp only [Act.put]
 refine wpAny_done (by kernel_rfl) ?_ _
 go_wp2_with (first
  | ((with_reducible refine load_law rfl 27 (.tmp 3) rfl (w.heap.size + 1) 0 rfl D _ Tryd.underlying27 rfl HI.out HB5.out.cells ?_))
  | ((with_reducible refine storeGen_law rfl 27 (.tmp 2) (.tmp 9) rfl w.heap.size rfl D rfl 27 (List.replicate 32 (.int .u8 0)) HI.out HL.out H1.out w.heap.size w HZ5.out W5.out (Nat.le_refl _) ?_); intro w6 B6 W6))
 exact bodyPost_ret (results_cell_row rfl _ _ w.heap.size 27 D.toArray (0,0) _ rfl B6.out Tryd.underlying27 rfl (by rw [HI.out]; simp)) rfl ⟨D,rfl,HM.out,W6.out⟩
end Go.Proofs.YtajgjeialbgijaaDoor
