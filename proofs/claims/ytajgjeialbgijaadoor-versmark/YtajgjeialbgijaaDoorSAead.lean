import Derived.Test.YtajgjeialbgijaaDoorSGcha
import Derived.Test.YtajgjeialbgijaaDoorSGpol
import Derived.Test.YtajgjeialbgijaaDoorSGchr
import Derived.Test.YtajgjeialbgijaaDoorSPhase
import Derived.Test.YtajgjeialbgijaaDoorSGref2
import Derived.Test.YtajgjeialbgijaaDoorSGrow
import Derived.Test.YtajgjeialbgijaaDoorSGtag
namespace Go.Proofs.YtajgjeialbgijaaDoor.Ae
set_option linter.unusedVariables false
set_option linter.unusedSimpArgs false
set_option maxRecDepth 100000
def gap (n:Nat):Nat:=(16 - n % 16) % 16
def up (m:List UInt8):List UInt8:=m ++ List.replicate (gap m.length) 0
def text (ad c:List UInt8):List UInt8:=up (up ad ++ c) ++ Pol.bytesN 8 (ad.length:Int) ++ Pol.bytesN 8 (c.length:Int)
def mark (key nonce ad c:List UInt8):List UInt8:=Pol.tag ((Cha.block key 0 nonce).take 32) (text ad c)
def sealed (key nonce ad b:List UInt8):List UInt8:=Cha.xor key 1 nonce b ++ mark key nonce ad (Cha.xor key 1 nonce b)
def opens (key nonce ad c:List UInt8):Bool:=decide (16<=c.length) && decide (mark key nonce ad (c.take (c.length - 16))=c.drop (c.length - 16))
def opened (key nonce ad c:List UInt8):List UInt8:=if opens key nonce ad c then Cha.xor key 1 nonce (c.take (c.length - 16)) else []
theorem up_length (m:List UInt8):(up m).length % 16=0/\m.length<=(up m).length/\(up m).length<=m.length + 15:=by
 simp only [up,List.length_append,List.length_replicate,gap]
 omega
theorem up_front (x c:List UInt8) (h:x.length % 16=0):up (x ++ c)=x ++ up c:=by
 have hg:gap (x ++ c).length=gap c.length:=by simp only [gap,List.length_append]; omega
 rw [up,up,hg,List.append_assoc]
theorem mark_length (key nonce ad c:List UInt8):(mark key nonce ad c).length=16:=by rw [mark,Pol.tag,Pol.bytesN_length]
theorem text_length (ad c:List UInt8):(text ad c).length<=ad.length + c.length + 46:=by
 have h1:=up_length ad
 have h2:=up_length (up ad ++ c)
 rw [List.length_append] at h2
 simp only [text,List.length_append,Pol.bytesN_length]
 omega
theorem xor_len (key nonce b:List UInt8) (ctr:Int):(Cha.xor key ctr nonce b).length=b.length:=by simp [Cha.xor,Cha.xorTo]
theorem sealed_length (key nonce ad b:List UInt8):(sealed key nonce ad b).length=b.length + 16:=by rw [sealed,List.length_append,xor_len,mark_length]
theorem opens_sealed (key nonce ad b:List UInt8):opens key nonce ad (sealed key nonce ad b)=true:=by
 have h1:=sealed_length key nonce ad b
 have h2:=xor_len key nonce b 1
 have e1:(sealed key nonce ad b).take (b.length + 16 - 16)=Cha.xor key 1 nonce b:=by rw [sealed,Nat.add_sub_cancel,<- h2]; exact List.take_left' rfl
 have e2:(sealed key nonce ad b).drop (b.length + 16 - 16)=mark key nonce ad (Cha.xor key 1 nonce b):=by rw [sealed,Nat.add_sub_cancel,<- h2]; exact List.drop_left' rfl
 rw [opens,h1,e1,e2]
 simp
end Go.Proofs.YtajgjeialbgijaaDoor.Ae
namespace Go.Proofs.YtajgjeialbgijaaDoor
set_option linter.unusedVariables false
set_option linter.unusedSimpArgs false
set_option maxRecDepth 100000
open Go.RowKit
def RetO (w:World) (l:List UInt8) (ok:Bool) (e:Ending) (w':World):Prop:=∃ A n c,e = .returned (.tuple #[.slice A n c,.bool ok])/\Rd w' A n c l/\Below w.heap.size w w'
end Go.Proofs.YtajgjeialbgijaaDoor
namespace Go.Proofs.YtajgjeialbgijaaDoor
set_option linter.unusedVariables false
set_option linter.unusedSimpArgs false
set_option maxRecDepth 100000
open Go.RowKit
def RetR (w:World) (l:List UInt8) (e:Ending) (w':World):Prop:=∃ A n c,e = .returned (.slice A n c)/\Rd w' A n c l/\Below w.heap.size w w'
structure AeOk:Prop where
 s:∀ (key nonce:List UInt8) {w:World} {A A':Option Addr} {n c n' c':Nat} {ad b:List UInt8},key.length=32->nonce.length=12->Rd w A n c ad->Rd w A' n' c' b->n<=10000->n'<=10000 ->
  Calls Tryd.prog 57 #[.agg (key.map cellOf).toArray,.agg (nonce.map cellOf).toArray,.slice A n c,.slice A' n' c'] w (RetR w (Ae.sealed key nonce ad b))
 o:∀ (key nonce:List UInt8) {w:World} {A A':Option Addr} {n c n' c':Nat} {ad cc:List UInt8},key.length=32->nonce.length=12->Rd w A n c ad->Rd w A' n' c' cc->n<=10000->n'<=10000 ->
  Calls Tryd.prog 60 #[.agg (key.map cellOf).toArray,.agg (nonce.map cellOf).toArray,.slice A n c,.slice A' n' c'] w (RetO w (Ae.opened key nonce ad cc) (Ae.opens key nonce ad cc))
theorem opened_sealed (key nonce ad b:List UInt8):Ae.opened key nonce ad (Ae.sealed key nonce ad b)=b:=by
 have h1:=Ae.sealed_length key nonce ad b
 have h2:=Ae.xor_len key nonce b 1
 have e1:(Ae.sealed key nonce ad b).take (b.length + 16 - 16)=Cha.xor key 1 nonce b:=by rw [Ae.sealed,Nat.add_sub_cancel,<- h2]; exact List.take_left' rfl
 rw [Ae.opened,Ae.opens_sealed,h1,e1,if_pos rfl,Cha.xor_xor]
end Go.Proofs.YtajgjeialbgijaaDoor
namespace Go.Proofs.YtajgjeialbgijaaDoor
set_option linter.unusedVariables false
set_option linter.unusedSimpArgs false
set_option maxRecDepth 100000
open Go.RowKit
theorem outC_own {w:World} {g n B:Nat} {l:List UInt8} (hb:Blk w g 5 (outC l n)) (hl:l.length=n) (hm:n<=1000000) (hB:B<=g):Ow w B (.slice (some ⟨g,0,none⟩) n n) l:=by
 subst hl
 refine ⟨by simp,.inr ⟨g,l.length,(outC l l.length).toArray,rfl,hB,hb,Nat.le_refl _,by unfold maxLen; omega,by simp [outC_length],?_⟩⟩
 rw [out_end l l.length (Nat.le_refl _)]
 simp [List.take_of_length_le]
theorem Ow.front {w:World} {B g n c:Nat} {l:List UInt8} (h:Ow w B (.slice (some ⟨g,0,none⟩) n c) l):Ow w B (.slice (some ⟨g,0,none⟩) 0 c) []:=by
 rcases h.2 with ⟨h',_⟩ | ⟨g',cap',cur,h',hb,hg,hnc,hcm,hcs,htake⟩
 ·simp at h'
 ·simp only [Value.slice.injEq,Option.some.injEq,Addr.mk.injEq,and_true,true_and] at h'
  obtain ⟨rfl,_,rfl⟩:=h'
  exact ⟨by simp,.inr ⟨g,c,cur,rfl,hb,hg,Nat.zero_le _,hcm,hcs,by simp⟩⟩
theorem cut_none (W:World):(Instr.slice 41 (.slice none 0 0) none (some (.int .i64 0)) none).run Tryd.prog W = .ok (.slice none 0 0) W:=by
 have:=slice_h none 0 0 0 (Nat.le_refl _) W
 simpa [cutA] using this
theorem cut_front (g n c:Nat) (W:World):(Instr.slice 41 (.slice (some ⟨g,0,none⟩) n c) none (some (.int .i64 0)) none).run Tryd.prog W = .ok (.slice (some ⟨g,0,none⟩) 0 c) W:=by
 have:=slice_h (some ⟨g,0,none⟩) n c 0 (Nat.zero_le _) W
 have e:cutA (some ⟨g,0,none⟩) c 0=some ⟨g,0,none⟩:=by
  unfold cutA
  split
  ·rfl
  ·simp [add_plain]
 rw [e] at this
 exact this
set_option maxRecDepth 100000 in
set_option maxHeartbeats 2000000 in
theorem eight_any (n:Nat) (w:World) (hn:n<=1000000000):Calls Tryd.prog 90 #[.int .i64 (n:Int)] w fun e w'=>∃ g,e = .returned (.slice (some ⟨g,0,none⟩) 8 8)/\Rd w' (some ⟨g,0,none⟩) 8 8 (Pol.bytesN 8 (n:Int))/\Below w.heap.size w w':=by
 have hmk:∀ W:World,(Instr.makeSlice 41 (.int .i64 8) (.int .i64 8)).run Tryd.prog W = .ok (.slice (some ⟨W.heap.size,0,none⟩) 8 8) (W.alloc (.cells (outC [] 8).toArray 5)):=fun W=>make_bytes 8 (by omega) W
 go_enter Tryd.func90,Tryd.ntmps90
 go_wp2_with fail
 clear hmk
 go_loopw [8] (fun i wr=>∃ k:Nat,k<=8/\i = .int .i64 k/\Hid (Blk wr w.heap.size 5 (outC (Pol.bytesN k (n:Int)) 8))/\Hid (Below w.heap.size w wr)) (fun i _=>8 - (intOf i).toNat)
 case atStart=>exact ⟨0,by omega,rfl,Blk.at_new _ _ 5 _ _ rfl rfl,(Below.refl _ _).alloc (Nat.le_refl _) _⟩
 case round =>
  obtain ⟨k,hk,rfl,B2,BW⟩:=hrel
  by_cases hlt:k < 8
  ·have hlb:decide ((k:Int) < 8)=true:=by simp; omega
   obtain ⟨y,hy⟩:∃ y:UInt8,y=Sha.by8 ((n:Int) / 256 ^ k):=⟨_,rfl⟩
   have HN:Hid (Pol.bytesN (k + 1) (n:Int)=Pol.bytesN k (n:Int) ++ [y]):=by unfold Hid; rw [Pol.bytesN_succ,hy]
   have hL:(Pol.bytesN k (n:Int)).length=k:=Pol.bytesN_length _ _
   have c0:wr.cell? ⟨w.heap.size,k,none⟩=some (.int .u8 0):=by rw [B2.out.cell]; exact outC_at _ 8 k hL hlt
   have f0:wr.frozen? ⟨w.heap.size,k,none⟩=false:=B2.out.frozen _
   have B4:Hid (Blk (wr.setCell ⟨w.heap.size,k,none⟩ (.int .u8 (y.toNat:Int))) w.heap.size 5 (outC (Pol.bytesN (k + 1) (n:Int)) 8)):=by
    have:=B2.out.set_ k (cellOf y)
    rw [outC_set _ 8 k _ hL hlt,<- HN.out] at this
    exact this
   have hsh:(n:Int) / 2 ^ (8 * k) % 256=(y.toNat:Int):=by rw [hy,Pol.by8_toNat,Int.pow_mul]; rfl
   have hm8:((8 * (k:Int)).toNat)=8 * k:=by omega
   clear hy hL
   go_wp2_with fail
   clear c0 f0 hsh
   go_roundw
   case rel=>exact ⟨k + 1,by omega,by go_num,B4,BW.out.setCell (by simp) _⟩
   case measure=>simp [intOf]; omega
  ·obtain rfl:k=8:=by omega
   rw [show ((8:Nat):Int)=8 from rfl]
   have HRR:=Lib.hid (outC_rd B2.out (Pol.bytesN_length 8 (n:Int)) (by omega))
   clear B2
   go_wp2_with fail
   go_ret
   exact ⟨_,rfl,HRR.out,BW.out⟩
set_option maxRecDepth 100000 in
set_option maxHeartbeats 2000000 in
theorem noughts_any (n:Nat) (w:World) (hn:n<=1000000000):Calls Tryd.prog 89 #[.int .i64 (n:Int)] w fun e w'=>∃ g,e = .returned (.slice (some ⟨g,0,none⟩) (Ae.gap n) (Ae.gap n))/\Rd w' (some ⟨g,0,none⟩) (Ae.gap n) (Ae.gap n) (List.replicate (Ae.gap n) 0)/\Below w.heap.size w w':=by
 obtain ⟨z,hz⟩:∃ z,z=Ae.gap n:=⟨_,rfl⟩
 rw [<- hz]
 obtain ⟨r,hr⟩:∃ r,r=n % 16:=⟨_,rfl⟩
 have hr16:r < 16:=by omega
 have e1:(n:Int) % 16=(r:Int):=by omega
 have e2:(16 - (r:Int)) % 16=(z:Int):=by rw [hz]; unfold Ae.gap; omega
 have e3:(16 - (r:Int)).tmod 16=(z:Int):=by rw [Int.tmod_eq_emod_of_nonneg (by omega)]; exact e2
 have hz16:z < 16:=by omega
 have hmk:=fun W=>make_bytes z (by omega) W
 clear hz hr
 go_enter Tryd.func89,Tryd.ntmps89
 go_wp2_with fail
 go_ret
 refine ⟨_,rfl,Rd.of_block (Blk.new w 5 (outC [] z)) (by simp) (Nat.le_refl _) (by unfold maxLen; omega) (fun j hj=>?_),(Below.refl _ _).alloc (Nat.le_refl _) _⟩
 simp [outC,hj,cellOf]
set_option maxRecDepth 100000 in
set_option maxHeartbeats 2000000 in
theorem grow_any (n:Nat) (w:World) (h0:0 < n) (hn:n<=900000):Calls Tryd.prog 52 #[.slice none 0 0,.int .i64 (n:Int)] w fun e w'=>∃ v,e = .returned v/\Ow w' w.heap.size v []/\Below w.heap.size w w':=by
 have b1:decide ((n:Int) < 0)=false:=by simp
 have b2:decide ((0:Int) < (n:Int))=true:=by simp; omega
 have hc1:=fun W=>cut_none W
 have hc2:=fun g c W=>cut_front g n c W
 have E0:=Lib.hid (Ow.empty w w.heap.size)
 have LN0:Hid (([]:List UInt8).length + n<=1000000):=by unfold Hid; simp; omega
 go_enter Tryd.func52,Tryd.ntmps52
 go_wp2_with (first
  | (at_builtin; refine zeros_law rfl (.tmp 20) (.tmp 21) rfl rfl rfl E0.out LN0.out (Nat.le_refl _) (Below.refl _ _) ?_; intro v3 w3 O3 X3; obtain ⟨g,c,rfl,hgb,hgl⟩:=O3.out.form (by simp; omega); simp only [List.nil_append,List.length_replicate] at *))
 go_ret
 exact ⟨_,rfl,O3.out.front,X3.out⟩
set_option maxRecDepth 100000 in
set_option maxHeartbeats 2000000 in
theorem concat_any {w:World} {A:Option Addr} {n c:Nat} {ps:List (List UInt8)} (hr:RdP w A n ps) (hn:n<=1000000) (h0:0 < ps.flatten.length) (hb:ps.flatten.length<=900000) :
  Calls Tryd.prog 36 #[.slice A n c] w fun e w'=>∃ v,e = .returned v/\Ow w' w.heap.size v ps.flatten/\Below w.heap.size w w':=by
 have HR:=Lib.hid hr
 clear hr
 go_enter Tryd.func36,Tryd.ntmps36
 go_wp2_with fail
 go_loopw [3,11] (fun s i wr=>∃ (k z:Nat),k<=n/\i = .int .i64 k/\s = .int .i64 z/\z<=900000/\Hid (z=(ps.take k).flatten.length)/\Hid (w=wr)) (fun _ i _=>n - (intOf i).toNat)
 case atStart=>exact ⟨0,0,by omega,rfl,rfl,by omega,by unfold Hid; simp,rfl⟩
 case round =>
  obtain ⟨k,z,hk,rfl,rfl,hz,HZ,HW⟩:=hrel
  have hw:=HW.out
  subst hw
  clear HW
  by_cases hlt:k < n
  ·have hlb:decide ((k:Int) < (n:Int))=true:=by simp; omega
   obtain ⟨b,off,A',n',c',rfl,hblt,hcell,hrd⟩:=HR.out.at_ k hlt
   have hlen:=hrd.len
   have hfl:=flat_len_take ps (k + 1)
   rw [flat_take ps k (by rw [HR.out.len]; exact hlt),List.length_append,<- HZ.out,hlen] at hfl
   have HZ2:Hid (z + n'=(ps.take (k + 1)).flatten.length):=by unfold Hid; rw [flat_take ps k (by rw [HR.out.len]; exact hlt),List.length_append,<- HZ.out,hlen]
   have hneg:decide ((z:Int) + (n':Int) < 0)=false:=by simp; omega
   clear hrd hlen
   go_wp2_with fail
   go_roundw
   case rel=>exact ⟨k + 1,z + n',by omega,by go_num,by go_num,by omega,HZ2,(show Hid True from trivial)⟩
   case measure=>simp [intOf]; omega
  ·obtain rfl:k=n:=by omega
   have hze:z=ps.flatten.length:=by rw [HZ.out,List.take_of_length_le (by rw [HR.out.len]; omega)]
   have CG:=Lib.hid (grow_any z w (by omega) (by omega))
   clear HZ hze
   go_wp2_with fail
   refine CG.out.mono ?_
   rintro e w1 ⟨v1,rfl,hO1,hX1⟩
   have O1:=Lib.hid hO1
   have X1:=Lib.hid hX1
   clear hO1 hX1 CG
   go_wp2_with fail
   go_loopw [6,27] (fun v i wq=>∃ (j:Nat),j<=k/\i = .int .i64 j/\Hid (Ow wq w.heap.size v (ps.take j).flatten)/\Hid (Below w.heap.size w wq)) (fun _ i _=>k - (intOf i).toNat)
   case atStart=>exact ⟨0,by omega,rfl,O1,X1⟩
   case round =>
    clear O1 X1
    obtain ⟨j,hj,rfl,O1,X1⟩:=hrel
    by_cases hjt:j < k
    ·have hlb2:decide ((j:Int) < (k:Int))=true:=by simp; omega
     obtain ⟨b,off,A',n',c',rfl,hblt,hcell,hrd⟩:=HR.out.at_ j hjt
     have c0:wr.cell? ⟨b,off + j,none⟩=some (.slice A' n' c'):=(X1.out.cell (p:=⟨b,off + j,none⟩) hblt).trans hcell
     have RD:=Lib.hid (hrd.below X1.out)
     have HF:=Lib.hid (flat_take ps j (by rw [HR.out.len]; exact hjt))
     have LN:Hid ((ps.take j).flatten.length + n'<=140737488355328):=by
      unfold Hid
      have h1:=flat_len_take ps (j + 1)
      rw [HF.out,List.length_append,hrd.len] at h1
      omega
     clear hcell hrd
     go_wp2_with (first
      | (at_builtin; refine onto_law rfl (.tmp 31) (.tmp 32) rfl rfl rfl RD.out O1.out LN.out X1.out.size X1.out ?_; intro v2 w2 O2 X2))
     rw [<- HF.out] at O2
     clear c0
     go_roundw
     case rel=>exact ⟨j + 1,by omega,by go_num,O2,X2⟩
     case measure=>simp [intOf]; omega
    ·obtain rfl:j=k:=by omega
     rw [List.take_of_length_le (by rw [HR.out.len]; omega)] at O1
     go_wp2_with fail
     go_ret
     exact ⟨_,rfl,O1.out,X1.out⟩
set_option maxRecDepth 100000 in
set_option maxHeartbeats 2000000 in
theorem cxor_own (key nonce:List UInt8) (ctr:Int) {w:World} {A:Option Addr} {n c:Nat} {b:List UInt8} (hr:Rd w A n c b) (hn:n<=100000) (hk:key.length=32) (hnn:nonce.length=12) (h0:0<=ctr) (h1:ctr < 4294967296) :
  Calls Tryd.prog 77 #[.agg (key.map cellOf).toArray,.int .u32 ctr,.agg (nonce.map cellOf).toArray,.slice A n c] w fun e w'=>∃ g,e = .returned (.slice (some ⟨g,0,none⟩) n n)/\Ow w' w.heap.size (.slice (some ⟨g,0,none⟩) n n) (Cha.xor key ctr nonce b)/\w.heap.size<=g/\Below w.heap.size w w':=by
 have HBL:=Lib.hid (fun W x=>cblock_any key nonce x W hk hnn)
 have HR:=Lib.hid hr
 have HL:=Lib.hid hr.len
 have HC0:=Lib.hid (ctr_zero ctr h0 h1)
 obtain ⟨kc,hkc⟩:∃ c,c=key.map cellOf:=⟨_,rfl⟩
 obtain ⟨nc,hnc⟩:∃ c,c=nonce.map cellOf:=⟨_,rfl⟩
 rw [<- hkc,<- hnc] at HBL
 rw [<- hkc,<- hnc]
 have hkl:kc.length=32:=by rw [hkc,List.length_map,hk]
 have hnl:nc.length=12:=by rw [hnc,List.length_map,hnn]
 have IK:Hid ((Tryd.prog.info? 26).map (·.size)=some kc.length):=by unfold Hid; rw [hkl]; kernel_rfl
 have IN:Hid ((Tryd.prog.info? 106).map (·.size)=some nc.length):=by unfold Hid; rw [hnl]; kernel_rfl
 have hmk:=fun W=>make_bytes n (by omega) W
 clear hkc hnc hk hnn hkl hnl hr h0 h1
 go_enter Tryd.func77,Tryd.ntmps77
 go_upto_region 3 with (fail)
 clear hmk
 obtain ⟨w0,hw0⟩:∃ w0,w0=(((w.alloc (Obj.cells kc.toArray 26)).alloc (Obj.cells nc.toArray 106)).alloc (Obj.cells (outC [] n).toArray 5)).alloc (Obj.cells (List.replicate 64 (.int .u8 0)).toArray 111):=⟨_,rfl⟩
 have B0:Hid (Blk w0 w.heap.size 26 kc):=by unfold Hid; rw [hw0]; exact (((Blk.new w 26 kc).alloc _).alloc _).alloc _
 have B1:Hid (Blk w0 (w.heap.size + 1) 106 nc):=by unfold Hid; rw [hw0]; exact ((Blk.at_new _ _ 106 _ _ rfl (by simp)).alloc _).alloc _
 have B2:Hid (Blk w0 (w.heap.size + 1 + 1) 5 (outC (Cha.xorTo key ctr nonce b 0) n)):=by unfold Hid; rw [hw0]; exact (Blk.at_new _ _ 5 _ _ rfl (by simp)).alloc _
 have B3:Hid (Blk w0 (w.heap.size + 1 + 1 + 1) 111 (List.replicate 64 (.int .u8 0))):=by unfold Hid; rw [hw0]; exact Blk.at_new _ _ 111 _ _ rfl (by simp)
 have W0:Hid (Below w.heap.size w w0):=by unfold Hid; rw [hw0]; exact ((((Below.refl _ _).alloc (Nat.le_refl _) _).alloc (by simp) _).alloc (by simp <;> omega) _).alloc (by simp <;> omega) _
 change Code.wp _ _ _ _ ((((w.alloc (Obj.cells kc.toArray 26)).alloc (Obj.cells nc.toArray 106)).alloc (Obj.cells (outC [] n).toArray 5)).alloc (Obj.cells (List.replicate 64 (.int .u8 0)).toArray 111))
 rw [<- hw0]
 clear hw0
 go_wp2_with fail
 go_loopw [1,18] (fun cv i wr=>∃ (k:Nat) (D:List Value),k<=n/\i = .int .i64 k/\cv = .int .u32 (Cha.ctrAt ctr ((k + 63) / 64))/\Hid (D.length=64)/\Hid (k % 64 ≠ 0->D=(Cha.block key (Cha.ctrAt ctr (k / 64)) nonce).map cellOf)/\Hid (Blk wr w.heap.size 26 kc)/\Hid (Blk wr (w.heap.size + 1) 106 nc)/\Hid (Blk wr (w.heap.size + 1 + 1) 5 (outC (Cha.xorTo key ctr nonce b k) n))/\Hid (Blk wr (w.heap.size + 1 + 1 + 1) 111 D)/\Hid (Below w.heap.size w wr)) (fun _ i _=>n - (intOf i).toNat)
 case atStart=>exact ⟨0,List.replicate 64 (.int .u8 0),by omega,rfl,by rw [show (0 + 63) / 64=0 from rfl,HC0.out],by unfold Hid; simp,fun h=>absurd rfl h,B0,B1,B2,B3,W0⟩
 case round =>
  clear B0 B1 B2 B3 W0
  obtain ⟨k,D,hk,rfl,rfl,LD,HD,B0,B1,B2,B3,BW⟩:=hrel
  obtain ⟨wi,rfl⟩:∃ wi,wi=wr:=⟨_,rfl⟩
  by_cases hlt:k < n
  ·have hlb:decide ((k:Int) < (n:Int))=true:=by simp; omega
   have hlb':decide (k < n)=true:=by simp; omega
   obtain ⟨bb,off,hA,hbl,hcell⟩:=HR.out.at_ (by omega)
   subst hA
   obtain ⟨x,hx⟩:∃ x,x=b.getD k 0:=⟨_,rfl⟩
   have e0:wi.cell? ⟨bb,off + k,none⟩=some (.int .u8 (x.toNat:Int)):=by rw [hx]; exact (BW.out.cell (p:=⟨bb,off + k,none⟩) hbl).trans (hcell k hlt)
   have HX:=Lib.hid hx
   obtain ⟨q,hq⟩:∃ q,q=k % 64:=⟨_,rfl⟩
   have hqe:(k:Int) % 64=(q:Int):=by omega
   have hq64:q < 64:=by omega
   have HQ:=Lib.hid hq
   clear hx hcell hq
   go_upto_if 25 with (fail)
   clear e0
   go_cut [1,18] from 18 to 41 (fun cv i wx=>Hid (i = .int .i64 (k:Int))/\Hid (cv = .int .u32 (Cha.ctrAt ctr (k / 64 + 1)))/\Hid (Blk wx w.heap.size 26 kc)/\Hid (Blk wx (w.heap.size + 1) 106 nc)/\Hid (Blk wx (w.heap.size + 1 + 1) 5 (outC (Cha.xorTo key ctr nonce b k) n))/\Hid (Blk wx (w.heap.size + 1 + 1 + 1) 111 ((Cha.block key (Cha.ctrAt ctr (k / 64)) nonce).map cellOf))/\Hid (Below w.heap.size w wx))
   case first =>
    by_cases hz:q=0
    ·have hqz:((q:Int) == 0)=true:=by simp; omega
     have ek:(k + 63) / 64=k / 64:=by have:=HQ.out; omega
     rw [ek]
     have hcall:=Lib.hid (HBL.out wi (Cha.ctrAt ctr (k / 64)))
     go_wp2_with (first
      | ((with_reducible refine load_law rfl 26 (.tmp 4) rfl w.heap.size 0 rfl kc _ Tryd.underlying26 rfl IK.out B0.out.cells ?_))
      | ((with_reducible refine load_law rfl 106 (.tmp 6) rfl (w.heap.size + 1) 0 rfl nc _ Tryd.underlying106 rfl IN.out B1.out.cells ?_)))
     refine hcall.out.mono ?_
     rintro e w2 ⟨rfl,hX⟩
     obtain ⟨E,hE⟩:∃ E,E=(Cha.block key (Cha.ctrAt ctr (k / 64)) nonce).map cellOf:=⟨_,rfl⟩
     rw [<- hE]
     have hEl:E.length=64:=by rw [hE,List.length_map,Cha.block_length]
     have IE:Hid ((Tryd.prog.info? 111).map (·.size)=some E.length):=by unfold Hid; rw [hEl]; kernel_rfl
     have LE:Hid (D.length=E.length):=by unfold Hid; rw [hEl,LD.out]
     have OE:Hid (∀ v ∈ E,v.oneCell'=true):=by unfold Hid; rw [hE]; exact cells_u8 _
     have HE:=Lib.hid hE
     have C0:=Lib.hid (B0.out.below hX B0.out.lt)
     have C1:=Lib.hid (B1.out.below hX B1.out.lt)
     have C2:=Lib.hid (B2.out.below hX B2.out.lt)
     have C3:=Lib.hid (B3.out.below hX B3.out.lt)
     have CW:=Lib.hid (BW.out.trans (hX.mono BW.out.size))
     clear hX hE hEl hcall B0 B1 B2 B3 BW
     go_wp2_with (first
      | ((with_reducible refine storeGen_law rfl 111 (.tmp 10) (.tmp 29) rfl (w.heap.size + 1 + 1 + 1) rfl E rfl 111 D IE.out LE.out OE.out (w.heap.size + 1 + 1 + 1) w2 C3.out (Below.refl _ _) (Nat.le_refl _) ?_); intro w3 E3 X3))
     go_meet
     case rel =>
      refine ⟨rfl,by unfold Hid; rw [ctr_succ],C0.out.below X3.out (by omega),C1.out.below X3.out (by omega),C2.out.below X3.out (by omega),?_,CW.out.trans (X3.out.mono (by omega))⟩
      rw [<- HE.out]
      exact E3
    ·have hqz:((q:Int) == 0)=false:=by simp; omega
     have ek:(k + 63) / 64=k / 64 + 1:=by have:=HQ.out; omega
     rw [ek]
     have hD:=HD.out (by rw [<- HQ.out]; exact hz)
     rw [hD] at B3
     clear hD
     go_wp2_with fail
     go_meet
     case rel=>exact ⟨rfl,rfl,B0,B1,B2,B3,BW⟩
   case rest =>
    clear B0 B1 B2 B3 BW LD HD
    obtain ⟨h1,h2,B0,B1,B2,B3,BW⟩:=hcut
    have h1':=h1.out
    have h2':=h2.out
    subst h1'
    subst h2'
    clear h1 h2
    obtain ⟨wi,rfl⟩:∃ wi,wi=wc:=⟨_,rfl⟩
    obtain ⟨z,hz⟩:∃ z,z=(Cha.block key (Cha.ctrAt ctr (k / 64)) nonce).getD q 0:=⟨_,rfl⟩
    have cz:wi.cell? ⟨w.heap.size + 1 + 1 + 1,q,none⟩=some (.int .u8 (z.toNat:Int)):=by rw [B3.out.cell,hz]; exact block_at key nonce _ q hq64
    have HZ:Hid (Cha.xorTo key ctr nonce b (k + 1)=Cha.xorTo key ctr nonce b k ++ [x ^^^ z]):=by unfold Hid; rw [Cha.xorTo_succ,hz,HX.out,HQ.out]; rfl
    have hxz:=xor_cell x z
    have c0:wi.cell? ⟨w.heap.size + 1 + 1,k,none⟩=some (.int .u8 0):=by rw [B2.out.cell]; exact outC_at _ n k (Cha.xorTo_length _ _ _ _ _) hlt
    have f0:wi.frozen? ⟨w.heap.size + 1 + 1,k,none⟩=false:=B2.out.frozen _
    have bq:(q:Int) < 64:=by omega
    have B4:Hid (Blk (wi.setCell ⟨w.heap.size + 1 + 1,k,none⟩ (.int .u8 ((x ^^^ z).toNat:Int))) (w.heap.size + 1 + 1) 5 (outC (Cha.xorTo key ctr nonce b (k + 1)) n)):=by
     have:=B2.out.set_ k (cellOf (x ^^^ z))
     rw [outC_set _ n k _ (Cha.xorTo_length _ _ _ _ _) hlt,<- HZ.out] at this
     exact this
    have ek:(k + 1 + 63) / 64=k / 64 + 1:=by omega
    have HEK:=Lib.hid ek
    clear hz ek
    go_wp2_with fail
    clear hxz c0 f0 cz
    go_roundw
    case rel =>
     refine ⟨k + 1,(Cha.block key (Cha.ctrAt ctr (k / 64)) nonce).map cellOf,by omega,by go_num,by rw [HEK.out],by unfold Hid; rw [List.length_map,Cha.block_length],fun hne=>?_,B0.out.far (by simp <;> omega) _,B1.out.far (by simp) _,B4,B3.out.far (by simp) _,BW.out.setCell (by simp <;> omega) _⟩
     have e:(k + 1) / 64=k / 64:=by omega
     rw [e]
    case measure=>simp [intOf]; omega
  ·obtain rfl:k=n:=by omega
   have hlb:decide ((k:Int) < (k:Int))=false:=by simp
   have HRR:=Lib.hid (outC_own (B:=w.heap.size) B2.out (Cha.xorTo_length key ctr nonce b k) (by omega) (by omega))
   have HXE:Hid (Cha.xorTo key ctr nonce b k=Cha.xor key ctr nonce b):=by unfold Hid Cha.xor; rw [HL.out]
   rw [HXE.out] at HRR
   clear B0 B1 B2 B3
   go_wp2_with fail
   go_ret
   exact ⟨_,rfl,HRR.out,by omega,BW.out⟩
end Go.Proofs.YtajgjeialbgijaaDoor
namespace Go.Proofs.YtajgjeialbgijaaDoor
set_option linter.unusedVariables false
set_option linter.unusedSimpArgs false
set_option maxRecDepth 100000
open Go.RowKit
def Got (w:World) (x:Value) (l:List UInt8):Prop:=∃ A n c,x = .slice A n c/\Rd w A n c l
theorem Got.below {w w':World} {x:Value} {l:List UInt8} (h:Got w x l) (hb:Below w.heap.size w w'):Got w' x l:=by
 obtain ⟨A,n,c,e,hr⟩:=h
 exact ⟨A,n,c,e,hr.below hb⟩
theorem lit_parts6 (w:World) {a0 a1 a2 a3 a4 a5:Option Addr} {n0 n1 n2 n3 n4 n5 c0 c1 c2 c3 c4 c5:Nat} {l0 l1 l2 l3 l4 l5:List UInt8} (h0:Rd w a0 n0 c0 l0) (h1:Rd w a1 n1 c1 l1) (h2:Rd w a2 n2 c2 l2) (h3:Rd w a3 n3 c3 l3) (h4:Rd w a4 n4 c4 l4) (h5:Rd w a5 n5 c5 l5) :
  RdP (w.alloc (.cells #[.slice a0 n0 c0,.slice a1 n1 c1,.slice a2 n2 c2,.slice a3 n3 c3,.slice a4 n4 c4,.slice a5 n5 c5] 41)) (some ⟨w.heap.size,0,none⟩) 6 [l0,l1,l2,l3,l4,l5] :=
 ⟨rfl,fun j hj=>by
  have hX:=(Below.refl w.heap.size w).alloc (Nat.le_refl _) (.cells #[.slice a0 n0 c0,.slice a1 n1 c1,.slice a2 n2 c2,.slice a3 n3 c3,.slice a4 n4 c4,.slice a5 n5 c5] 41)
  have hB:=Blk.new w 41 [.slice a0 n0 c0,.slice a1 n1 c1,.slice a2 n2 c2,.slice a3 n3 c3,.slice a4 n4 c4,.slice a5 n5 c5]
  match j,hj with
  | 0,_=>exact ⟨w.heap.size,0,a0,n0,c0,rfl,by simp,hB.cell 0,h0.below hX⟩
  | 1,_=>exact ⟨w.heap.size,0,a1,n1,c1,rfl,by simp,hB.cell 1,h1.below hX⟩
  | 2,_=>exact ⟨w.heap.size,0,a2,n2,c2,rfl,by simp,hB.cell 2,h2.below hX⟩
  | 3,_=>exact ⟨w.heap.size,0,a3,n3,c3,rfl,by simp,hB.cell 3,h3.below hX⟩
  | 4,_=>exact ⟨w.heap.size,0,a4,n4,c4,rfl,by simp,hB.cell 4,h4.below hX⟩
  | 5,_=>exact ⟨w.heap.size,0,a5,n5,c5,rfl,by simp,hB.cell 5,h5.below hX⟩⟩
theorem text_parts (ad cc:List UInt8):[ad,List.replicate (Ae.gap ad.length) 0,cc,List.replicate (Ae.gap cc.length) 0,Pol.bytesN 8 (ad.length:Int),Pol.bytesN 8 (cc.length:Int)].flatten=Ae.text ad cc:=by
 rw [Ae.text,Ae.up_front _ _ (Ae.up_length ad).1]
 simp [Ae.up]
structure TagI (w5:World) (kk mk:List Value) (ad r1 cc r2 e1 e2 tx:List UInt8) (d:Nat->Bool) (w':World) (x17 x21 x25 x28 x31 x32 x33 x34:Value):Prop where
 bel:Below w5.heap.size w5 w'
 i0:d 0=true->x17 = .agg kk.toArray
 i4:d 4=true->Got w' x21 r1
 i8:d 8=true->Got w' x25 r2
 i11:d 11=true->Got w' x28 e1
 i14:d 14=true->Got w' x31 e2
 i15:d 15=true->∃ g,x32 = .slice (some ⟨g,0,none⟩) 6 6/\RdP w' (some ⟨g,0,none⟩) 6 [ad,r1,cc,r2,e1,e2]
 i16:d 16=true->Got w' x33 tx
 i17:d 17=true->x34 = .agg mk.toArray
theorem TagI.below {w5:World} {kk mk:List Value} {ad r1 cc r2 e1 e2 tx:List UInt8} {d:Nat->Bool} {w' w'':World} {x17 x21 x25 x28 x31 x32 x33 x34:Value} (h:TagI w5 kk mk ad r1 cc r2 e1 e2 tx d w' x17 x21 x25 x28 x31 x32 x33 x34) (hb:Below w'.heap.size w' w''):TagI w5 kk mk ad r1 cc r2 e1 e2 tx d w'' x17 x21 x25 x28 x31 x32 x33 x34 :=
 ⟨h.bel.trans (hb.mono h.bel.size),h.i0,fun a=>(h.i4 a).below hb,fun a=>(h.i8 a).below hb,fun a=>(h.i11 a).below hb,fun a=>(h.i14 a).below hb,fun a=>by obtain ⟨g,e,hr⟩:=h.i15 a; exact ⟨g,e,hr.below hb⟩,fun a=>(h.i16 a).below hb,h.i17⟩
set_option maxRecDepth 100000 in
set_option maxHeartbeats 8000000 in
theorem tag_any (key nonce:List UInt8) {w:World} {A A':Option Addr} {n c n' c':Nat} {ad cc:List UInt8} (hk:key.length=32) (hn:nonce.length=12) (hra:Rd w A n c ad) (hrc:Rd w A' n' c' cc) (hn1:n<=100000) (hn2:n'<=100000) :
  Calls Tryd.prog 78 #[.agg (key.map cellOf).toArray,.agg (nonce.map cellOf).toArray,.slice A n c,.slice A' n' c'] w fun e w'=>e = .returned (.agg ((Ae.mark key nonce ad cc).map cellOf).toArray)/\Below w.heap.size w w':=by
 obtain ⟨kc,hkc⟩:∃ c,c=key.map cellOf:=⟨_,rfl⟩
 obtain ⟨nc,hnc⟩:∃ c,c=nonce.map cellOf:=⟨_,rfl⟩
 have CB:=Lib.hid (fun W=>cblock_any key nonce 0 W hk hn)
 rw [<- hkc,<- hnc] at CB
 rw [<- hkc,<- hnc]
 obtain ⟨bk,hbk⟩:∃ l,l=Cha.block key 0 nonce:=⟨_,rfl⟩
 rw [<- hbk] at CB
 have LBK:Hid (bk.length=64):=by unfold Hid; rw [hbk]; exact Cha.block_length key 0 nonce
 obtain ⟨bc,hbc⟩:∃ c,c=bk.map cellOf:=⟨_,rfl⟩
 rw [<- hbc] at CB
 obtain ⟨k1,hk1⟩:∃ l,l=bk.take 32:=⟨_,rfl⟩
 have LK1:Hid (k1.length=32):=by unfold Hid; rw [hk1,List.length_take,LBK.out]; rfl
 obtain ⟨kk,hkk⟩:∃ c,c=k1.map cellOf:=⟨_,rfl⟩
 obtain ⟨tx,htx⟩:∃ l,l=Ae.text ad cc:=⟨_,rfl⟩
 obtain ⟨T,hT⟩:∃ T,T=(Ae.mark key nonce ad cc).map cellOf:=⟨_,rfl⟩
 have hTL:T.length=16:=by rw [hT,List.length_map,Ae.mark_length]
 have IT:Hid ((Tryd.prog.info? 128).map (·.size)=some T.length):=by unfold Hid; rw [hTL]; kernel_rfl
 have LT:Hid ((List.replicate 16 (Value.int .u8 0)).length=T.length):=by unfold Hid; rw [hTL]; rfl
 have OT:Hid (∀ v ∈ T,v.oneCell'=true):=by unfold Hid; rw [hT]; exact cells_u8 _
 have CT:=Lib.hid (fun (W:World) (AX:Option Addr) (nx cx:Nat) (h:Rd W AX nx cx tx)=>ptag_any k1 LK1.out h)
 have hMT:(Pol.tag k1 tx).map cellOf=T:=by rw [hT,Ae.mark,<- hbk,<- hk1,<- htx]
 rw [hMT,<- hkk] at CT
 rw [<- hT]
 have IK:Hid ((Tryd.prog.info? 26).map (·.size)=some kc.length):=by unfold Hid; rw [hkc,List.length_map,hk]; kernel_rfl
 have IN:Hid ((Tryd.prog.info? 106).map (·.size)=some nc.length):=by unfold Hid; rw [hnc,List.length_map,hn]; kernel_rfl
 have IB:Hid ((Tryd.prog.info? 111).map (·.size)=some bc.length):=by unfold Hid; rw [hbc,List.length_map,LBK.out]; kernel_rfl
 have LBC:Hid ((List.replicate 64 (Value.int .u8 0)).length=bc.length):=by unfold Hid; rw [hbc,List.length_map,LBK.out]; rfl
 have OBC:Hid (∀ v ∈ bc,v.oneCell'=true):=by unfold Hid; rw [hbc]; exact cells_u8 _
 have I1:Hid ((Tryd.prog.info? 26).map (·.size)=some kk.length):=by unfold Hid; rw [hkk,List.length_map,LK1.out]; kernel_rfl
 have L1:Hid ((List.replicate 32 (Value.int .u8 0)).length=kk.length):=by unfold Hid; rw [hkk,List.length_map,LK1.out]; rfl
 have O1:Hid (∀ v ∈ kk,v.oneCell'=true):=by unfold Hid; rw [hkk]; exact cells_u8 _
 have KB:Hid (∀ (j:Nat) v,kk[j]?=some v->bc[j]?=some v):=by
  unfold Hid
  intro j v hv
  rw [hkk,hk1,List.map_take,List.getElem?_take] at hv
  rw [hbc]
  split at hv
  ·exact hv
  ·cases hv
 have CN1:=Lib.hid (fun W=>noughts_any n W (by omega))
 have CN2:=Lib.hid (fun W=>noughts_any n' W (by omega))
 have CE1:=Lib.hid (fun W=>eight_any n W (by omega))
 have CE2:=Lib.hid (fun W=>eight_any n' W (by omega))
 obtain ⟨r1,hr1⟩:∃ l,l=List.replicate (Ae.gap n) (0:UInt8):=⟨_,rfl⟩
 obtain ⟨r2,hr2⟩:∃ l,l=List.replicate (Ae.gap n') (0:UInt8):=⟨_,rfl⟩
 obtain ⟨e1,he1⟩:∃ l,l=Pol.bytesN 8 (n:Int):=⟨_,rfl⟩
 obtain ⟨e2,he2⟩:∃ l,l=Pol.bytesN 8 (n':Int):=⟨_,rfl⟩
 have HTX:Hid ([ad,r1,cc,r2,e1,e2].flatten=tx):=by unfold Hid; rw [hr1,hr2,he1,he2,htx,<- text_parts,hra.len,hrc.len]
 have htl:tx.length<=900000:=by rw [htx]; have:=Ae.text_length ad cc; rw [hra.len,hrc.len] at this; omega
 have htp:0 < tx.length:=by rw [<- HTX.out,he2]; simp only [List.flatten_cons,List.length_append,Pol.bytesN_length,List.flatten_nil]; omega
 have CC:=Lib.hid (fun (W:World) (AX:Option Addr) (cx:Nat) (h:RdP W AX 6 [ad,r1,cc,r2,e1,e2])=>concat_any (c:=cx) h (by omega) (by rw [HTX.out]; exact htp) (by rw [HTX.out]; exact htl))
 rw [HTX.out] at CC
 rw [<- hr1] at CN1
 rw [<- hr2] at CN2
 rw [<- he1] at CE1
 rw [<- he2] at CE2
 have HRA:=Lib.hid hra
 have HRC:=Lib.hid hrc
 clear hkc hnc hbk hbc hra hrc hk hn hT hTL hMT hkk hk1 htx htl htp hr1 hr2 he1 he2 HTX
 go_enter Tryd.func78,Tryd.ntmps78
 go_upto_region 1 with (fail)
 obtain ⟨w0,hw0⟩:∃ w0,w0=((w.alloc (Obj.cells kc.toArray 26)).alloc (Obj.cells nc.toArray 106)).alloc (Obj.cells (List.replicate 16 (.int .u8 0)).toArray 128):=⟨_,rfl⟩
 have B0:Hid (Blk w0 w.heap.size 26 kc):=by unfold Hid; rw [hw0]; exact ((Blk.new w _ _).alloc _).alloc _
 have B1:Hid (Blk w0 (w.heap.size + 1) 106 nc):=by unfold Hid; rw [hw0]; exact (Blk.at_new _ _ _ _ _ rfl (by simp)).alloc _
 obtain ⟨gz,hgz⟩:∃ g,g=w.heap.size + 1 + 1:=⟨_,rfl⟩
 have BZ:Hid (Blk w0 gz 128 (List.replicate 16 (.int .u8 0))):=by unfold Hid; rw [hw0,hgz]; exact Blk.at_new _ _ _ _ _ rfl (by simp)
 have W0:Hid (Below w.heap.size w w0):=by unfold Hid; rw [hw0]; exact (((Below.refl _ _).alloc (Nat.le_refl _) _).alloc (by simp) _).alloc (by simp <;> omega) _
 have hgw:w.heap.size<=gz:=by omega
 change Code.wp _ _ _ _ (((w.alloc (Obj.cells kc.toArray 26)).alloc (Obj.cells nc.toArray 106)).alloc (Obj.cells (List.replicate 16 (.int .u8 0)).toArray 128))
 rw [<- hw0,<- hgz]
 clear hw0 hgz
 go_wp2_with (first
  | ((with_reducible refine load_law rfl 26 (.tmp 4) rfl w.heap.size 0 rfl kc _ Tryd.underlying26 rfl IK.out B0.out.cells ?_))
  | ((with_reducible refine load_law rfl 106 (.tmp 5) rfl (w.heap.size + 1) 0 rfl nc _ Tryd.underlying106 rfl IN.out B1.out.cells ?_)))
 refine (CB.out w0).mono ?_
 rintro e w1 ⟨rfl,hX⟩
 have W1:=Lib.hid (W0.out.trans (hX.mono W0.out.size))
 have BZ1:=Lib.hid (BZ.out.below hX BZ.out.lt)
 clear hX B0 B1 W0 CB IK IN BZ
 go_upto_region 2 with (first
  | ((with_reducible refine storeGen_law rfl 111 (.tmp 9) (.tmp 13) rfl w1.heap.size rfl bc rfl 111 (List.replicate 64 (.int .u8 0)) IB.out LBC.out OBC.out w1.heap.size w1 ?_ ?_ (Nat.le_refl _) ?_)
     ·exact Blk.at_new _ _ 111 _ _ (by rfl) rfl
     ·exact (Below.refl _ _).alloc (Nat.le_refl _) _
     intro w2 B2 X2))
 have W2:=Lib.hid (W1.out.trans (X2.out.mono W1.out.size))
 have BZ2:=Lib.hid (BZ1.out.below X2.out BZ1.out.lt)
 obtain ⟨gb,hgb⟩:∃ g,g=w1.heap.size:=⟨_,rfl⟩
 rw [<- hgb] at B2
 rw [<- hgb]
 clear X2 hgb W1 BZ1
 have hsl:=fun W=>sliceAt_all 111 64 Tryd.underlying111 gb 0 W
 have hCK:Hid (∀ (j:Nat) v,kk[j]?=some v->w2.cell? ⟨gb,0 + j,none⟩=some v):=fun j v hv=>B2.out.cells j v (KB.out j v hv)
 have hap:∀ W,(Instr.arrayAt 26 (.slice (some ⟨gb,0,none⟩) 64 64)).run Tryd.prog W = .ok (.pointer (some ⟨gb,0,none⟩)) W:=fun W=>by simp [Instr.arrayAt,run_underlying Tryd.underlying26]
 go_upto_region 3 with (first
  | ((with_reducible refine load_law rfl 26 (.tmp 15) rfl gb 0 rfl kk _ Tryd.underlying26 rfl I1.out hCK.out ?_))
  | ((with_reducible refine storeGen_law rfl 26 (.tmp 10) (.tmp 16) rfl w2.heap.size rfl kk rfl 26 (List.replicate 32 (.int .u8 0)) I1.out L1.out O1.out w2.heap.size w2 ?_ ?_ (Nat.le_refl _) ?_)
     ·exact Blk.at_new _ _ 26 _ _ (by rfl) rfl
     ·exact (Below.refl _ _).alloc (Nat.le_refl _) _
     intro w3 B3 X3))
 have W3:=Lib.hid (W2.out.trans (X3.out.mono W2.out.size))
 have BZ3:=Lib.hid (BZ2.out.below X3.out BZ2.out.lt)
 obtain ⟨g1,hg1⟩:∃ g,g=w2.heap.size:=⟨_,rfl⟩
 rw [<- hg1] at B3
 rw [<- hg1]
 clear X3 hg1 W2 BZ2 B2 hCK hap hsl
 refine wp_region_any (by kernel_rfl) ?_
 change wpAny _ _ _ _ _ _ _ (World.drew _)
 have D3:Hid (Blk w3.drew g1 26 kk):=B3.out.drew
 have DZ:Hid (Blk w3.drew gz 128 (List.replicate 16 (.int .u8 0))):=BZ3.out.drew
 have DW:Hid (Below w.heap.size w w3.drew):=W3.out.drew
 clear B3 BZ3 W3
 generalize w3.drew=w5 at *
 refine wpAny_take (i:=1) (oi:=?oit0) (v:=.slice A n c) ?hit0 (by kernel_rfl) (by kernel_rfl) (by kernel_rfl) ?hQt0 ?hyt0 ?restt0
 case hit0=>simp only [zge]; rfl
 case hQt0=>exact fun _ _ _ h=>h
 case hyt0=>exact Or.inl ⟨by rfl,by intro w; go_simp⟩
 try simp only [zpt]
 refine wpAny_take (i:=2) (oi:=?oit1) (v:=.slice A n c) ?hit1 (by kernel_rfl) (by kernel_rfl) (by kernel_rfl) ?hQt1 ?hyt1 ?restt1
 case hit1=>simp only [zge]; rfl
 case hQt1=>exact fun _ _ _ h=>h
 case hyt1=>exact Or.inl ⟨by rfl,by intro w; go_simp⟩
 try simp only [zpt]
 refine wpAny_take (i:=3) (oi:=?oit2) (v:=.int .i64 (n:Int)) ?hit2 (by kernel_rfl) (by kernel_rfl) (by kernel_rfl) ?hQt2 ?hyt2 ?restt2
 case hit2=>simp only [zge]; rfl
 case hQt2=>exact fun _ _ _ h=>h
 case hyt2=>exact Or.inl ⟨by rfl,by intro w; go_simp⟩
 try simp only [zpt]
 refine wpAny_take (i:=5) (oi:=?oit3) (v:=.slice A' n' c') ?hit3 (by kernel_rfl) (by kernel_rfl) (by kernel_rfl) ?hQt3 ?hyt3 ?restt3
 case hit3=>simp only [zge]; rfl
 case hQt3=>exact fun _ _ _ h=>h
 case hyt3=>exact Or.inl ⟨by rfl,by intro w; go_simp⟩
 try simp only [zpt]
 refine wpAny_take (i:=6) (oi:=?oit4) (v:=.slice A' n' c') ?hit4 (by kernel_rfl) (by kernel_rfl) (by kernel_rfl) ?hQt4 ?hyt4 ?restt4
 case hit4=>simp only [zge]; rfl
 case hQt4=>exact fun _ _ _ h=>h
 case hyt4=>exact Or.inl ⟨by rfl,by intro w; go_simp⟩
 try simp only [zpt]
 refine wpAny_take (i:=7) (oi:=?oit5) (v:=.int .i64 (n':Int)) ?hit5 (by kernel_rfl) (by kernel_rfl) (by kernel_rfl) ?hQt5 ?hyt5 ?restt5
 case hit5=>simp only [zge]; rfl
 case hQt5=>exact fun _ _ _ h=>h
 case hyt5=>exact Or.inl ⟨by rfl,by intro w; go_simp⟩
 try simp only [zpt]
 refine wpAny_take (i:=9) (oi:=?oit6) (v:=.slice A n c) ?hit6 (by kernel_rfl) (by kernel_rfl) (by kernel_rfl) ?hQt6 ?hyt6 ?restt6
 case hit6=>simp only [zge]; rfl
 case hQt6=>exact fun _ _ _ h=>h
 case hyt6=>exact Or.inl ⟨by rfl,by intro w; go_simp⟩
 try simp only [zpt]
 refine wpAny_take (i:=10) (oi:=?oit7) (v:=.int .i64 (n:Int)) ?hit7 (by kernel_rfl) (by kernel_rfl) (by kernel_rfl) ?hQt7 ?hyt7 ?restt7
 case hit7=>simp only [zge]; rfl
 case hQt7=>exact fun _ _ _ h=>h
 case hyt7=>exact Or.inl ⟨by rfl,by intro w; go_simp⟩
 try simp only [zpt]
 refine wpAny_take (i:=12) (oi:=?oit8) (v:=.slice A' n' c') ?hit8 (by kernel_rfl) (by kernel_rfl) (by kernel_rfl) ?hQt8 ?hyt8 ?restt8
 case hit8=>simp only [zge]; rfl
 case hQt8=>exact fun _ _ _ h=>h
 case hyt8=>exact Or.inl ⟨by rfl,by intro w; go_simp⟩
 try simp only [zpt]
 refine wpAny_take (i:=13) (oi:=?oit9) (v:=.int .i64 (n':Int)) ?hit9 (by kernel_rfl) (by kernel_rfl) (by kernel_rfl) ?hQt9 ?hyt9 ?restt9
 case hit9=>simp only [zge]; rfl
 case hQt9=>exact fun _ _ _ h=>h
 case hyt9=>exact Or.inl ⟨by rfl,by intro w; go_simp⟩
 try simp only [zpt]
 refine phase (fun i=>if i=8 then [4] else if i=11 then [8] else if i=14 then [11] else if i=15 then [4,8,11,14] else if i=16 then [15] else if i=17 then [0,16] else []) (fun d a w'=>∃ x17 x21 x25 x28 x31 x32 x33 x34:Value,a={ tmps:=#[.agg kc.toArray,.agg nc.toArray,.slice A n c,.slice A' n' c',.pointer (some ⟨w.heap.size,0,none⟩),.pointer (some ⟨w.heap.size + 1,0,none⟩),undef,undef,.pointer (some ⟨gz,0,none⟩),.pointer (some ⟨gb,0,none⟩),.pointer (some ⟨g1,0,none⟩),.agg kc.toArray,.agg nc.toArray,.agg bc.toArray,.slice (some ⟨gb,0,none⟩) 64 64,.pointer (some ⟨gb,0,none⟩),.agg kk.toArray,x17,.slice A n c,.slice A n c,.int .i64 (n:Int),x21,.slice A' n' c',.slice A' n' c',.int .i64 (n':Int),x25,.slice A n c,.int .i64 (n:Int),x28,.slice A' n' c',.int .i64 (n':Int),x31,x32,x33,x34],defers:=[] }/\Hid (TagI w5 kk T ad r1 cc r2 e1 e2 tx d w' x17 x21 x25 x28 x31 x32 x33 x34)) [0,4,8,11,14,15,16,17] ?step 1 8 [0,4,8,11,14,15,16,17] _ _ _ rfl (by decide) (fun _ h=>h) (by kernel_rfl) ?init ?fin
 case init =>
  refine ⟨_,_,_,_,_,_,_,_,rfl,Below.refl _ _,?_,?_,?_,?_,?_,?_,?_,?_⟩ <;> (intro h; exact absurd h (by decide))
 case step =>
  intro i hi d a w6 hI hdi hdeps
  obtain ⟨x17,x21,x25,x28,x31,x32,x33,x34,rfl,HI⟩:=hI
  simp only [List.mem_cons,List.not_mem_nil,or_false] at hi
  rcases hi with rfl | rfl | rfl | rfl | rfl | rfl | rfl | rfl
  ·refine wpOp_step (o:=?osa0) ?hosa0 (fun K hK=>?_)
   case hosa0=>simp only [zge]; rfl
   refine step_loadL rfl 26 (.tmp 10) rfl g1 0 rfl kk _ Tryd.underlying26 rfl I1.out (D3.out.below HI.out.bel D3.out.lt).cells (hK _ _ ?_)
   clear hK K
   try simp only [zpt]
   have hJ:=HI.out
   exact ⟨_,_,_,_,_,_,_,_,rfl,hJ.bel,fun _=>rfl,fun a=>hJ.i4 (by simpa using a),fun a=>hJ.i8 (by simpa using a),fun a=>hJ.i11 (by simpa using a),fun a=>hJ.i14 (by simpa using a),fun a=>hJ.i15 (by simpa using a),fun a=>hJ.i16 (by simpa using a),fun a=>hJ.i17 (by simpa using a)⟩
  ·refine wpOp_step (o:=?osa4) ?hosa4 (fun K hK=>?_)
   case hosa4=>simp only [zge]; rfl
   go_simp
   refine (CN1.out w6).mono ?_
   rintro e w7 ⟨g,rfl,hR,hX⟩
   have hJ:=HI.out.below hX
   refine hK _ _ ?_
   clear hK K
   try simp only [zpt]
   exact ⟨_,_,_,_,_,_,_,_,rfl,hJ.bel,fun a=>hJ.i0 (by simpa using a),fun _=>⟨_,_,_,rfl,hR⟩,fun a=>hJ.i8 (by simpa using a),fun a=>hJ.i11 (by simpa using a),fun a=>hJ.i14 (by simpa using a),fun a=>hJ.i15 (by simpa using a),fun a=>hJ.i16 (by simpa using a),fun a=>hJ.i17 (by simpa using a)⟩
  ·refine wpOp_step (o:=?osa8) ?hosa8 (fun K hK=>?_)
   case hosa8=>simp only [zge]; rfl
   go_simp
   refine (CN2.out w6).mono ?_
   rintro e w7 ⟨g,rfl,hR,hX⟩
   have hJ:=HI.out.below hX
   refine hK _ _ ?_
   clear hK K
   try simp only [zpt]
   exact ⟨_,_,_,_,_,_,_,_,rfl,hJ.bel,fun a=>hJ.i0 (by simpa using a),fun a=>hJ.i4 (by simpa using a),fun _=>⟨_,_,_,rfl,hR⟩,fun a=>hJ.i11 (by simpa using a),fun a=>hJ.i14 (by simpa using a),fun a=>hJ.i15 (by simpa using a),fun a=>hJ.i16 (by simpa using a),fun a=>hJ.i17 (by simpa using a)⟩
  ·refine wpOp_step (o:=?osa11) ?hosa11 (fun K hK=>?_)
   case hosa11=>simp only [zge]; rfl
   go_simp
   refine (CE1.out w6).mono ?_
   rintro e w7 ⟨g,rfl,hR,hX⟩
   have hJ:=HI.out.below hX
   refine hK _ _ ?_
   clear hK K
   try simp only [zpt]
   exact ⟨_,_,_,_,_,_,_,_,rfl,hJ.bel,fun a=>hJ.i0 (by simpa using a),fun a=>hJ.i4 (by simpa using a),fun a=>hJ.i8 (by simpa using a),fun _=>⟨_,_,_,rfl,hR⟩,fun a=>hJ.i14 (by simpa using a),fun a=>hJ.i15 (by simpa using a),fun a=>hJ.i16 (by simpa using a),fun a=>hJ.i17 (by simpa using a)⟩
  ·refine wpOp_step (o:=?osa14) ?hosa14 (fun K hK=>?_)
   case hosa14=>simp only [zge]; rfl
   go_simp
   refine (CE2.out w6).mono ?_
   rintro e w7 ⟨g,rfl,hR,hX⟩
   have hJ:=HI.out.below hX
   refine hK _ _ ?_
   clear hK K
   try simp only [zpt]
   exact ⟨_,_,_,_,_,_,_,_,rfl,hJ.bel,fun a=>hJ.i0 (by simpa using a),fun a=>hJ.i4 (by simpa using a),fun a=>hJ.i8 (by simpa using a),fun a=>hJ.i11 (by simpa using a),fun _=>⟨_,_,_,rfl,hR⟩,fun a=>hJ.i15 (by simpa using a),fun a=>hJ.i16 (by simpa using a),fun a=>hJ.i17 (by simpa using a)⟩
  ·obtain ⟨q1,m1,d1,rfl,hR1⟩:=HI.out.i4 (hdeps 4 (by simp))
   obtain ⟨q2,m2,d2,rfl,hR2⟩:=HI.out.i8 (hdeps 8 (by simp))
   obtain ⟨q3,m3,d3,rfl,hR3⟩:=HI.out.i11 (hdeps 11 (by simp))
   obtain ⟨q4,m4,d4,rfl,hR4⟩:=HI.out.i14 (hdeps 14 (by simp))
   have RA6:=(HRA.out.below DW.out).below HI.out.bel
   have RC6:=(HRC.out.below DW.out).below HI.out.bel
   have HP:=Lib.hid (lit_parts6 w6 RA6 hR1 RC6 hR2 hR3 hR4)
   have hX:=(Below.refl w6.heap.size w6).alloc (Nat.le_refl _) (.cells #[.slice A n c,.slice q1 m1 d1,.slice A' n' c',.slice q2 m2 d2,.slice q3 m3 d3,.slice q4 m4 d4] 41)
   have HJ:=Lib.hid (HI.out.below hX)
   clear hR1 hR2 hR3 hR4 RA6 RC6 hX
   refine wpOp_step (o:=?osa15) ?hosa15 (fun K hK=>?_)
   case hosa15=>simp only [zge]; rfl
   go_simp
   have hJ:=HJ.out
   refine hK _ _ ?_
   clear hK K
   try simp only [zpt]
   exact ⟨_,_,_,_,_,_,_,_,rfl,hJ.bel,fun a=>hJ.i0 (by simpa using a),fun a=>hJ.i4 (by simpa using a),fun a=>hJ.i8 (by simpa using a),fun a=>hJ.i11 (by simpa using a),fun a=>hJ.i14 (by simpa using a),fun _=>⟨_,rfl,HP.out⟩,fun a=>hJ.i16 (by simpa using a),fun a=>hJ.i17 (by simpa using a)⟩
  ·obtain ⟨g,rfl,hR⟩:=HI.out.i15 (hdeps 15 (by simp))
   have HP:=Lib.hid hR
   clear hR
   refine wpOp_step (o:=?osa16) ?hosa16 (fun K hK=>?_)
   case hosa16=>simp only [zge]; rfl
   go_simp
   refine (CC.out w6 _ _ HP.out).mono ?_
   rintro e w7 ⟨v,rfl,hO,hX⟩
   obtain ⟨A3,c3,rfl,hR3,_⟩:=hO.value
   have hJ:=HI.out.below hX
   refine hK _ _ ?_
   clear hK K
   try simp only [zpt]
   exact ⟨_,_,_,_,_,_,_,_,rfl,hJ.bel,fun a=>hJ.i0 (by simpa using a),fun a=>hJ.i4 (by simpa using a),fun a=>hJ.i8 (by simpa using a),fun a=>hJ.i11 (by simpa using a),fun a=>hJ.i14 (by simpa using a),fun a=>hJ.i15 (by simpa using a),fun _=>⟨_,_,_,rfl,hR3⟩,fun a=>hJ.i17 (by simpa using a)⟩
  ·obtain rfl:=HI.out.i0 (hdeps 0 (by simp))
   obtain ⟨q1,m1,d1,rfl,hR1⟩:=HI.out.i16 (hdeps 16 (by simp))
   have HR1:=Lib.hid hR1
   clear hR1
   refine wpOp_step (o:=?osa17) ?hosa17 (fun K hK=>?_)
   case hosa17=>simp only [zge]; rfl
   go_simp
   refine (CT.out w6 _ _ _ HR1.out).mono ?_
   rintro e w7 ⟨rfl,hX⟩
   have hJ:=HI.out.below hX
   refine hK _ _ ?_
   clear hK K
   try simp only [zpt]
   exact ⟨_,_,_,_,_,_,_,_,rfl,hJ.bel,fun a=>hJ.i0 (by simpa using a),fun a=>hJ.i4 (by simpa using a),fun a=>hJ.i8 (by simpa using a),fun a=>hJ.i11 (by simpa using a),fun a=>hJ.i14 (by simpa using a),fun a=>hJ.i15 (by simpa using a),fun a=>hJ.i16 (by simpa using a),fun _=>rfl⟩
 case fin =>
  intro a w6 hI
  obtain ⟨x17,x21,x25,x28,x31,x32,x33,x34,rfl,HI⟩:=hI
  obtain rfl:=HI.out.i17 (by decide)
  have FZ:=DZ.out.below HI.out.bel DZ.out.lt
  have FW:=DW.out.trans (HI.out.bel.mono DW.out.size)
  clear HI
  dsimp only
  refine wpAny_ready (rs:=[18]) (by kernel_rfl) (by simp) ?_
  refine AllReady.cons (o:=?pz) ?qz (fun K hK=>?_) AllReady.nil
  case qz=>simp only [zge]; rfl
  refine step_storeAll rfl 128 (.tmp 8) (.tmp 34) rfl gz rfl T rfl 128 (List.replicate 16 (Value.int .u8 0)) FZ IT.out LT.out OT.out (hK _ _ ?_)
  clear hK K
  try simp only [zpt]
  refine wpAny_done (by kernel_rfl) ?_ _
  have GZ:Hid (Blk (w6.setRow gz T.toArray) gz 128 T):=Blk.row FZ
  have GW:=Lib.hid (below_setRow FW (g:=gz) hgw T.toArray)
  clear FZ FW
  generalize w6.setRow gz T.toArray=w7 at *
  go_wp2_with fail
  exact bodyPost_ret (results_cell_row rfl _ _ gz 128 T.toArray (0,0) _ rfl GZ.out Tryd.underlying128 rfl (by rw [IT.out]; simp)) rfl ⟨rfl,GW.out⟩
end Go.Proofs.YtajgjeialbgijaaDoor
namespace Go.Proofs.YtajgjeialbgijaaDoor
set_option linter.unusedVariables false
set_option linter.unusedSimpArgs false
set_option maxRecDepth 100000
open Go.RowKit
theorem mark_rd {w:World} {g:Nat} {t:TypeId} {T:List Value} {m:List UInt8} (hb:Blk w g t T) (hT:T=m.map cellOf) (hl:m.length=16):Rd w (some ⟨g,0,none⟩) 16 16 m:=by
 subst hT
 exact Rd.of_block hb hl (Nat.le_refl _) (by unfold maxLen; omega) (fun j hj=>by
  rw [Nat.zero_add]
  simp [cellOf,List.getD_eq_getElem?_getD,List.getElem?_eq_getElem (show j < m.length by omega)])
set_option maxRecDepth 100000 in
set_option maxHeartbeats 4000000 in
theorem seal_new (key nonce:List UInt8) {w:World} {A A':Option Addr} {n c n' c':Nat} {ad b:List UInt8} (hk:key.length=32) (hn:nonce.length=12) (hra:Rd w A n c ad) (hrb:Rd w A' n' c' b) (hn1:n<=10000) (hn2:n'<=10000) :
  Calls Tryd.prog 57 #[.agg (key.map cellOf).toArray,.agg (nonce.map cellOf).toArray,.slice A n c,.slice A' n' c'] w (fun e w'=>∃ A n c,e = .returned (.slice A n c)/\Rd w' A n c (Ae.sealed key nonce ad b)/\Below w.heap.size w w'/\∀ x,A=some x->0 < n->w.heap.size<=x.block):=by
 have CX:=Lib.hid (fun W (h:Rd W A' n' c' b)=>cxor_own key nonce 1 h (by omega) hk hn (by omega) (by omega))
 have CM:=Lib.hid (fun (W:World) (AX:Option Addr) (cx:Nat) (h1:Rd W A n c ad) (h2:Rd W AX n' cx (Cha.xor key 1 nonce b))=>tag_any key nonce hk hn h1 h2 (by omega) (by omega))
 obtain ⟨kc,hkc⟩:∃ c,c=key.map cellOf:=⟨_,rfl⟩
 obtain ⟨nc,hnc⟩:∃ c,c=nonce.map cellOf:=⟨_,rfl⟩
 rw [<- hkc,<- hnc] at CX CM
 rw [<- hkc,<- hnc]
 have IK:Hid ((Tryd.prog.info? 26).map (·.size)=some kc.length):=by unfold Hid; rw [hkc,List.length_map,hk]; kernel_rfl
 have IN:Hid ((Tryd.prog.info? 106).map (·.size)=some nc.length):=by unfold Hid; rw [hnc,List.length_map,hn]; kernel_rfl
 have HRA:=Lib.hid hra
 have HRB:=Lib.hid hrb
 obtain ⟨x,hx⟩:∃ x,x=Cha.xor key 1 nonce b:=⟨_,rfl⟩
 rw [<- hx] at CX CM
 have LX:Hid (x.length=n'):=by unfold Hid; rw [hx,Ae.xor_len,hrb.len]
 obtain ⟨mk,hmk⟩:∃ l,l=Ae.mark key nonce ad x:=⟨_,rfl⟩
 rw [<- hmk] at CM
 have LMK:Hid (mk.length=16):=by unfold Hid; rw [hmk,Ae.mark_length]
 obtain ⟨T,hT⟩:∃ T,T=mk.map cellOf:=⟨_,rfl⟩
 rw [<- hT] at CM
 have IT:Hid ((Tryd.prog.info? 128).map (·.size)=some T.length):=by unfold Hid; rw [hT,List.length_map,LMK.out]; kernel_rfl
 have LT:Hid ((List.replicate 16 (Value.int .u8 0)).length=T.length):=by unfold Hid; rw [hT,List.length_map,LMK.out]; rfl
 have OT:Hid (∀ v ∈ T,v.oneCell'=true):=by unfold Hid; rw [hT]; exact cells_u8 _
 have HTT:=Lib.hid hT
 have HS:Hid (Ae.sealed key nonce ad b=x ++ mk):=by unfold Hid Ae.sealed; rw [<- hx,<- hmk]
 clear hkc hnc hk hn hra hrb hx hmk hT
 go_enter Tryd.func57,Tryd.ntmps57
 go_upto_region 1 with (fail)
 obtain ⟨w0,hw0⟩:∃ w0,w0=(w.alloc (Obj.cells kc.toArray 26)).alloc (Obj.cells nc.toArray 106):=⟨_,rfl⟩
 have B0:Hid (Blk w0 w.heap.size 26 kc):=by unfold Hid; rw [hw0]; exact (Blk.new w _ _).alloc _
 have B1:Hid (Blk w0 (w.heap.size + 1) 106 nc):=by unfold Hid; rw [hw0]; exact Blk.at_new _ _ _ _ _ rfl (by simp)
 have W0:Hid (Below w.heap.size w w0):=by unfold Hid; rw [hw0]; exact ((Below.refl _ _).alloc (Nat.le_refl _) _).alloc (by simp) _
 change Code.wp _ _ _ _ ((w.alloc (Obj.cells kc.toArray 26)).alloc (Obj.cells nc.toArray 106))
 rw [<- hw0]
 clear hw0
 go_wp2_with (first
  | ((with_reducible refine load_law rfl 26 (.tmp 4) rfl w.heap.size 0 rfl kc _ Tryd.underlying26 rfl IK.out B0.out.cells ?_))
  | ((with_reducible refine load_law rfl 106 (.tmp 5) rfl (w.heap.size + 1) 0 rfl nc _ Tryd.underlying106 rfl IN.out B1.out.cells ?_)))
 refine (CX.out w0 (HRB.out.below W0.out)).mono ?_
 rintro e w1 ⟨gx,rfl,hOX,hgx,hX⟩
 have C0:=Lib.hid (B0.out.below hX B0.out.lt)
 have C1:=Lib.hid (B1.out.below hX B1.out.lt)
 have W1:=Lib.hid (W0.out.trans (hX.mono W0.out.size))
 have OX:=Lib.hid hOX
 have RX:=Lib.hid (hOX.rdv LX.out)
 have hs1:=hX.size
 have X1:=Lib.hid hX
 clear hX hOX B0 B1 CX
 go_wp2_with (first
  | ((with_reducible refine load_law rfl 26 (.tmp 4) rfl w.heap.size 0 rfl kc _ Tryd.underlying26 rfl IK.out C0.out.cells ?_))
  | ((with_reducible refine load_law rfl 106 (.tmp 5) rfl (w.heap.size + 1) 0 rfl nc _ Tryd.underlying106 rfl IN.out C1.out.cells ?_)))
 refine (CM.out w1 _ _ (HRA.out.below W1.out) RX.out).mono ?_
 rintro e w2 ⟨rfl,hX⟩
 have O2:=Lib.hid (OX.out.keep hX)
 have X2:=Lib.hid (X1.out.trans (hX.mono hs1))
 have hs2:=X2.out.size
 clear hX OX RX C0 C1 CM X1 W1
 go_upto_region 3 with (first
  | ((with_reducible refine storeGen_law rfl 128 (.tmp 10) (.tmp 19) rfl w2.heap.size rfl T rfl 128 (List.replicate 16 (.int .u8 0)) IT.out LT.out OT.out w2.heap.size w2 ?_ ?_ (Nat.le_refl _) ?_)
     ·exact Blk.at_new _ _ 128 _ _ (by rfl) rfl
     ·exact (Below.refl _ _).alloc (Nat.le_refl _) _
     intro w3 B3 X3))
 have O3:=Lib.hid (O2.out.keep X3.out)
 have W3:=Lib.hid (X2.out.trans (X3.out.mono hs2))
 have RM:=Lib.hid (mark_rd B3.out HTT.out LMK.out)
 have LN:Hid (x.length + 16<=140737488355328):=by unfold Hid; rw [LX.out]; omega
 have hsl:=fun W=>sliceAt_all 128 16 Tryd.underlying128 w2.heap.size 0 W
 clear B3 O2 X2 X3
 go_wp2_with (first
  | (at_builtin; refine onto_law rfl (.tmp 20) (.tmp 21) rfl rfl rfl RM.out O3.out LN.out W3.out.size W3.out ?_; intro v4 w4 O4 X4))
 go_ret
 obtain ⟨A4,c4,rfl,hR4,hF4⟩:=O4.out.value
 refine ⟨_,_,_,rfl,by rw [HS.out]; exact hR4,W0.out.trans (X4.out.mono W0.out.size),fun x hx h0=>?_⟩
 obtain ⟨g4,e4,h4⟩:=hF4 h0
 rw [e4] at hx
 injection hx with hx
 subst hx
 exact Nat.le_trans W0.out.size h4
theorem seal_any (key nonce:List UInt8) {w:World} {A A':Option Addr} {n c n' c':Nat} {ad b:List UInt8} (hk:key.length=32) (hn:nonce.length=12) (hra:Rd w A n c ad) (hrb:Rd w A' n' c' b) (hn1:n<=10000) (hn2:n'<=10000) :
  Calls Tryd.prog 57 #[.agg (key.map cellOf).toArray,.agg (nonce.map cellOf).toArray,.slice A n c,.slice A' n' c'] w (RetR w (Ae.sealed key nonce ad b)) :=
 (seal_new key nonce hk hn hra hrb hn1 hn2).mono fun _ _ ⟨A,n,c,h1,h2,h3,_⟩=>⟨A,n,c,h1,h2,h3⟩
set_option maxRecDepth 100000 in
set_option maxHeartbeats 8000000 in
theorem open_new (key nonce:List UInt8) {w:World} {A A':Option Addr} {n c n' c':Nat} {ad cc:List UInt8} (hk:key.length=32) (hn:nonce.length=12) (hra:Rd w A n c ad) (hrc:Rd w A' n' c' cc) (hn1:n<=10000) (hn2:n'<=10000) :
  Calls Tryd.prog 60 #[.agg (key.map cellOf).toArray,.agg (nonce.map cellOf).toArray,.slice A n c,.slice A' n' c'] w (fun e w'=>∃ A n c,e = .returned (.tuple #[.slice A n c,.bool (Ae.opens key nonce ad cc)])/\Rd w' A n c (Ae.opened key nonce ad cc)/\Below w.heap.size w w'/\∀ x,A=some x->0 < n->w.heap.size<=x.block):=by
 have CX:=Lib.hid (fun (W:World) (AX:Option Addr) (nx cx:Nat) (l:List UInt8) (h:Rd W AX nx cx l) (hx:nx<=10000)=>cxor_any key nonce 1 h (by omega) hk hn (by omega) (by omega))
 have CM:=Lib.hid (fun (W:World) (AX:Option Addr) (nx cx:Nat) (l:List UInt8) (h1:Rd W A n c ad) (h2:Rd W AX nx cx l) (hx:nx<=10000)=>tag_any key nonce hk hn h1 h2 (by omega) (by omega))
 obtain ⟨kc,hkc⟩:∃ c,c=key.map cellOf:=⟨_,rfl⟩
 obtain ⟨nc,hnc⟩:∃ c,c=nonce.map cellOf:=⟨_,rfl⟩
 rw [<- hkc,<- hnc] at CX CM
 rw [<- hkc,<- hnc]
 have IK:Hid ((Tryd.prog.info? 26).map (·.size)=some kc.length):=by unfold Hid; rw [hkc,List.length_map,hk]; kernel_rfl
 have IN:Hid ((Tryd.prog.info? 106).map (·.size)=some nc.length):=by unfold Hid; rw [hnc,List.length_map,hn]; kernel_rfl
 have HRA:=Lib.hid hra
 have HRC:=Lib.hid hrc
 have HLC:=Lib.hid hrc.len
 have hcap:=hrc.cap
 clear hkc hnc hk hn hra hrc
 by_cases h16:n' < 16
 ·have d1:decide ((n':Int) < 16)=true:=by simp; omega
  have HOF:Hid (Ae.opens key nonce ad cc=false):=by unfold Hid Ae.opens; rw [HLC.out]; simp; omega
  have HOP:Hid (Ae.opened key nonce ad cc=[]):=by unfold Hid Ae.opened; rw [HOF.out]; rfl
  go_enter Tryd.func60,Tryd.ntmps60
  go_wp2_with fail
  go_ret2
  exact ⟨none,0,0,by rw [HOF.out]; rfl,by rw [HOP.out]; exact Rd.nil _ _ _ (by unfold maxLen; omega),((Below.refl _ _).alloc (Nat.le_refl _) _).alloc (by simp) _,fun x hx=>by cases hx⟩
 ·obtain ⟨N,hN⟩:∃ N:Nat,N=n' - 16:=⟨_,rfl⟩
  have e16:(n':Int) - 16=(N:Int):=by omega
  have hNn:N<=n':=by omega
  have hN16:n' - N=16:=by omega
  have d1:decide ((n':Int) < 16)=false:=decide_eq_false (by omega)
  obtain ⟨fr,hfr⟩:∃ l,l=cc.take N:=⟨_,rfl⟩
  obtain ⟨tl,htl⟩:∃ l,l=cc.drop N:=⟨_,rfl⟩
  obtain ⟨mk,hmk⟩:∃ l,l=Ae.mark key nonce ad fr:=⟨_,rfl⟩
  have HOE:Hid (Ae.opens key nonce ad cc=decide (mk=tl)):=by
   unfold Hid Ae.opens
   rw [HLC.out,<- hN,<- hfr,<- htl,<- hmk,decide_eq_true (show 16<=n' by omega),Bool.true_and]
  have HOX:Hid (Ae.opened key nonce ad cc=if decide (mk=tl)=true then Cha.xor key 1 nonce fr else []):=by
   unfold Hid Ae.opened
   rw [HOE.out,HLC.out,<- hN,<- hfr]
  have RF:Hid (∀ W,Rd W A' n' c' cc->Rd W (cutA A' c' 0) N c' fr):=fun W h=>by
   have:=h.cut (k:=0) (e:=N) (by omega) hNn
   rw [List.drop_zero,Nat.sub_zero,Nat.sub_zero,<- hfr] at this
   exact this
  have RT:Hid (∀ W,Rd W A' n' c' cc->Rd W (cutA A' c' N) 16 (c' - N) tl):=fun W h=>by
   have:=h.cut (k:=N) (e:=n') hNn (Nat.le_refl _)
   rw [hN16,List.take_of_length_le (by rw [List.length_drop,HLC.out]; omega),<- htl] at this
   exact this
  have LMK:Hid (mk.length=16):=by unfold Hid; rw [hmk,Ae.mark_length]
  obtain ⟨T,hT⟩:∃ T,T=mk.map cellOf:=⟨_,rfl⟩
  have IT:Hid ((Tryd.prog.info? 128).map (·.size)=some T.length):=by unfold Hid; rw [hT,List.length_map,LMK.out]; kernel_rfl
  have LT:Hid ((List.replicate 16 (Value.int .u8 0)).length=T.length):=by unfold Hid; rw [hT,List.length_map,LMK.out]; rfl
  have OT:Hid (∀ v ∈ T,v.oneCell'=true):=by unfold Hid; rw [hT]; exact cells_u8 _
  have HTT:=Lib.hid hT
  have CM2:Hid (∀ W,Rd W A n c ad->Rd W (cutA A' c' 0) N c' fr->Calls Tryd.prog 78 #[.agg kc.toArray,.agg nc.toArray,.slice A n c,.slice (cutA A' c' 0) N c'] W fun e w'=>e = .returned (.agg T.toArray)/\Below W.heap.size W w'):=fun W h1 h2=>by rw [hT,hmk]; exact CM.out W _ _ _ _ h1 h2 (by omega)
  have hcut1:=fun W=>slice_h A' n' c' N (by omega) W
  have hcut2:=fun W=>slice_l A' n' c' N hNn W
  rw [hN16] at hcut2
  clear hN hfr htl hmk h16 CM hT
  go_enter Tryd.func60,Tryd.ntmps60
  go_upto_region 4 with (fail)
  obtain ⟨w0,hw0⟩:∃ w0,w0=(w.alloc (Obj.cells kc.toArray 26)).alloc (Obj.cells nc.toArray 106):=⟨_,rfl⟩
  have B0:Hid (Blk w0.drew w.heap.size 26 kc):=by unfold Hid; rw [hw0]; exact (Blk.new w _ _).alloc _
  have B1:Hid (Blk w0.drew (w.heap.size + 1) 106 nc):=by unfold Hid; rw [hw0]; exact Blk.at_new _ _ _ _ _ rfl (by simp)
  have W0:Hid (Below w.heap.size w w0.drew):=by unfold Hid; rw [hw0]; exact (((Below.refl _ _).alloc (Nat.le_refl _) _).alloc (by simp) _).drew
  change Code.wp _ _ _ _ ((w.alloc (Obj.cells kc.toArray 26)).alloc (Obj.cells nc.toArray 106))
  rw [<- hw0]
  clear hw0 e16 d1
  refine wp_region_any (by kernel_rfl) ?_
  change wpAny _ _ _ _ _ _ _ (World.drew _)
  generalize w0.drew=w5 at *
  have RA5:=Lib.hid (HRA.out.below W0.out)
  have RC5:=Lib.hid (HRC.out.below W0.out)
  refine wpAny_take (i:=2) (oi:=?oiu0) (v:=.slice A n c) ?hiu0 (by kernel_rfl) (by kernel_rfl) (by kernel_rfl) ?hQu0 ?hyu0 ?restu0
  case hiu0=>simp only [zge]; rfl
  case hQu0=>exact fun _ _ _ h=>h
  case hyu0=>exact Or.inl ⟨by rfl,by intro w; go_simp⟩
  try simp only [zpt]
  refine wpAny_take (i:=3) (oi:=?oiu1) (v:=.slice A' n' c') ?hiu1 (by kernel_rfl) (by kernel_rfl) (by kernel_rfl) ?hQu1 ?hyu1 ?restu1
  case hiu1=>simp only [zge]; rfl
  case hQu1=>exact fun _ _ _ h=>h
  case hyu1=>exact Or.inl ⟨by rfl,by intro w; go_simp⟩
  try simp only [zpt]
  refine wpAny_take (i:=4) (oi:=?oiu2) (v:=.int .i64 (N:Int)) ?hiu2 (by kernel_rfl) (by kernel_rfl) (by kernel_rfl) ?hQu2 ?hyu2 ?restu2
  case hiu2=>simp only [zge]; rfl
  case hQu2=>exact fun _ _ _ h=>h
  case hyu2=>exact Or.inl ⟨by rfl,by intro w; go_simp⟩
  try simp only [zpt]
  refine wpAny_take (i:=5) (oi:=?oiu3) (v:=.slice (cutA A' c' 0) N c') ?hiu3 (by kernel_rfl) (by kernel_rfl) (by kernel_rfl) ?hQu3 ?hyu3 ?restu3
  case hiu3=>simp only [zge]; rfl
  case hQu3=>exact fun _ _ _ h=>h
  case hyu3=>exact Or.inl ⟨by rfl,by intro w; go_simp⟩
  try simp only [zpt]
  refine phase (fun i=>if i=6 then [0,1] else []) (fun d a w'=>∃ x11 x18 x19 x24:Value,a={ tmps:=#[.agg kc.toArray,.agg nc.toArray,.slice A n c,.slice A' n' c',.pointer (some ⟨w.heap.size,0,none⟩),.pointer (some ⟨w.heap.size + 1,0,none⟩),undef,undef,.slice none 0 0,.bool false,.int .i64 (N:Int),x11,.slice A' n' c',.int .i64 (n':Int),.bool false,.slice A' n' c',.int .i64 (n':Int),.int .i64 (N:Int),x18,x19,.slice A n c,.slice A' n' c',.int .i64 (N:Int),.slice (cutA A' c' 0) N c',x24,undef,undef,undef,undef,undef,undef,undef,undef,undef,undef,undef,undef],defers:=[] }/\Hid (Below w5.heap.size w5 w')
   /\ (d 0=true->x18 = .agg kc.toArray)/\(d 1=true->x19 = .agg nc.toArray)/\(d 6=true->x24 = .agg T.toArray)/\(d 7=true->Hid (∃ g,x11 = .pointer (some ⟨g,0,none⟩)/\w5.heap.size<=g/\Blk w' g 128 (List.replicate 16 (.int .u8 0))))) [0,1,6,7] ?step 1 4 [0,1,6,7] _ _ _ rfl (by decide) (fun _ h=>h) (by kernel_rfl) ?init ?fin
  case init =>
   refine ⟨_,_,_,_,rfl,Below.refl _ _,?_,?_,?_,?_⟩ <;> (intro h; exact absurd h (by decide))
  case step =>
   intro i hi d a w6 hI hdi hdeps
   obtain ⟨x11,x18,x19,x24,rfl,BW6,h0,h1,h6,h7⟩:=hI
   have hs6:=BW6.out.size
   have H7':Hid (∀ w7,Below w6.heap.size w6 w7->(d 7=true->Hid (∃ g,x11 = .pointer (some ⟨g,0,none⟩)/\w5.heap.size<=g/\Blk w7 g 128 (List.replicate 16 (.int .u8 0))))):=fun w7 hX a=>by obtain ⟨g,e,hg,hB⟩:=(h7 a).out; exact ⟨g,e,hg,hB.below hX hB.lt⟩
   clear h7
   simp only [List.mem_cons,List.not_mem_nil,or_false] at hi
   rcases hi with rfl | rfl | rfl | rfl
   ·refine wpOp_step (o:=?osb0) ?hosb0 (fun K hK=>?_)
    case hosb0=>simp only [zge]; rfl
    refine step_loadL rfl 26 (.tmp 4) rfl w.heap.size 0 rfl kc _ Tryd.underlying26 rfl IK.out (B0.out.below BW6.out B0.out.lt).cells (hK _ _ ?_)
    clear hK K
    try simp only [zpt]
    exact ⟨_,_,_,_,rfl,BW6,fun _=>rfl,fun a=>h1 (by simpa using a),fun a=>h6 (by simpa using a),fun a=>H7'.out _ (Below.refl _ _) (by simpa using a)⟩
   ·refine wpOp_step (o:=?osb1) ?hosb1 (fun K hK=>?_)
    case hosb1=>simp only [zge]; rfl
    refine step_loadL rfl 106 (.tmp 5) rfl (w.heap.size + 1) 0 rfl nc _ Tryd.underlying106 rfl IN.out (B1.out.below BW6.out B1.out.lt).cells (hK _ _ ?_)
    clear hK K
    try simp only [zpt]
    exact ⟨_,_,_,_,rfl,BW6,fun a=>h0 (by simpa using a),fun _=>rfl,fun a=>h6 (by simpa using a),fun a=>H7'.out _ (Below.refl _ _) (by simpa using a)⟩
   ·obtain rfl:=h0 (hdeps 0 (by simp))
    obtain rfl:=h1 (hdeps 1 (by simp))
    refine wpOp_step (o:=?osb6) ?hosb6 (fun K hK=>?_)
    case hosb6=>simp only [zge]; rfl
    go_simp
    refine (CM2.out w6 (RA5.out.below BW6.out) (RF.out w6 (RC5.out.below BW6.out))).mono ?_
    rintro e w7 ⟨rfl,hX⟩
    refine hK _ _ ?_
    clear hK K
    try simp only [zpt]
    exact ⟨_,_,_,_,rfl,BW6.out.trans (hX.mono hs6),fun _=>rfl,fun _=>rfl,fun _=>rfl,fun a=>H7'.out _ hX (by simpa using a)⟩
   ·refine wpOp_step (o:=?osb7) ?hosb7 (fun K hK=>?_)
    case hosb7=>simp only [zge]; rfl
    go_simp
    refine hK _ _ ?_
    clear hK K
    try simp only [zpt]
    have hX:Below w6.heap.size w6 (w6.alloc (Obj.cells (List.replicate 16 (.int .u8 0)).toArray 128)):=(Below.refl _ _).alloc (Nat.le_refl _) _
    exact ⟨_,_,_,_,rfl,BW6.out.trans (hX.mono hs6),fun a=>h0 (by simpa using a),fun a=>h1 (by simpa using a),fun a=>h6 (by simpa using a),fun _=>⟨_,rfl,hs6,Blk.at_new _ _ _ _ _ (by rfl) rfl⟩⟩
  case fin =>
   intro a w6 hI
   obtain ⟨x11,x18,x19,x24,rfl,BW6,h0,h1,h6,h7⟩:=hI
   obtain rfl:=h6 (by decide)
   obtain ⟨g,rfl,hg,hB⟩:=(h7 (by decide)).out
   clear h0 h1 h6 h7 CM2
   dsimp only
   refine wpAny_ready (rs:=[8]) (by kernel_rfl) (by simp) ?_
   refine AllReady.cons (o:=?pz) ?qz (fun K hK=>?_) AllReady.nil
   case qz=>simp only [zge]; rfl
   refine step_storeAll rfl 128 (.tmp 11) (.tmp 24) rfl g rfl T rfl 128 (List.replicate 16 (Value.int .u8 0)) hB IT.out LT.out OT.out (hK _ _ ?_)
   clear hK K
   try simp only [zpt]
   refine wpAny_done (by kernel_rfl) ?_ _
   have GT:Hid (Blk (w6.setRow g T.toArray).drew g 128 T):=(Blk.row hB).drew
   have GX:=Lib.hid (below_setRow BW6.out hg T.toArray).drew
   have C0:=Lib.hid (B0.out.below GX.out B0.out.lt)
   have C1:=Lib.hid (B1.out.below GX.out B1.out.lt)
   have W7:=Lib.hid (W0.out.trans (GX.out.mono W0.out.size))
   have RC7:=Lib.hid (RC5.out.below GX.out)
   have RM:=Lib.hid (mark_rd GT.out HTT.out LMK.out)
   have hsl:=fun W=>sliceAt_all 128 16 Tryd.underlying128 g 0 W
   clear hB GT GX BW6 B0 B1 W0 RC5 RA5
   go_upto_region 5 with (fail)
   refine wp_region_any (by kernel_rfl) ?_
   change wpAny _ _ _ _ _ _ _ (World.drew _)
   generalize (w6.setRow g T.toArray).drew=w7 at *
   refine wpAny_take (i:=0) (oi:=?oiv0) (v:=.slice (some ⟨g,0,none⟩) 16 16) ?hiv0 (by kernel_rfl) (by kernel_rfl) (by kernel_rfl) ?hQv0 ?hyv0 ?restv0
   case hiv0=>simp only [zge]; rfl
   case hQv0=>exact fun _ _ _ h=>h
   case hyv0=>exact Or.inl ⟨by rfl,by intro w; go_simp⟩
   try simp only [zpt]
   refine wpAny_take (i:=1) (oi:=?oiv1) (v:=.slice A' n' c') ?hiv1 (by kernel_rfl) (by kernel_rfl) (by kernel_rfl) ?hQv1 ?hyv1 ?restv1
   case hiv1=>simp only [zge]; rfl
   case hQv1=>exact fun _ _ _ h=>h
   case hyv1=>exact Or.inl ⟨by rfl,by intro w; go_simp⟩
   try simp only [zpt]
   refine wpAny_take (i:=2) (oi:=?oiv2) (v:=.int .i64 (N:Int)) ?hiv2 (by kernel_rfl) (by kernel_rfl) (by kernel_rfl) ?hQv2 ?hyv2 ?restv2
   case hiv2=>simp only [zge]; rfl
   case hQv2=>exact fun _ _ _ h=>h
   case hyv2=>exact Or.inl ⟨by rfl,by intro w; go_simp⟩
   try simp only [zpt]
   refine wpAny_take (i:=3) (oi:=?oiv3) (v:=.slice (cutA A' c' N) 16 (c' - N)) ?hiv3 (by kernel_rfl) (by kernel_rfl) (by kernel_rfl) ?hQv3 ?hyv3 ?restv3
   case hiv3=>simp only [zge]; rfl
   case hQv3=>exact fun _ _ _ h=>h
   case hyv3=>exact Or.inl ⟨by rfl,by intro w; go_simp⟩
   try simp only [zpt]
   have CS:=Lib.hid (same_any RM.out (RT.out w7 RC7.out))
   refine wpAny_ready (rs:=[4]) (by kernel_rfl) (by simp) ?_
   refine AllReady.cons (o:=?py) ?qy (fun K hK=>?_) AllReady.nil
   case qy=>simp only [zge]; rfl
   go_simp
   refine CS.out.mono ?_
   rintro e w8 ⟨rfl,hX⟩
   refine hK _ _ ?_
   clear hK K
   try simp only [zpt]
   have D0:=Lib.hid (C0.out.below hX C0.out.lt)
   have D1:=Lib.hid (C1.out.below hX C1.out.lt)
   have W8:=Lib.hid (W7.out.trans (hX.mono W7.out.size))
   have RC8:=Lib.hid (RC7.out.below hX)
   clear hX CS C0 C1 W7 RC7 RM hsl hcut2
   by_cases hEq:mk=tl
   ·have HOT:Hid (Ae.opens key nonce ad cc=true):=by unfold Hid; rw [HOE.out]; simpa using hEq
    have HOP:Hid (Ae.opened key nonce ad cc=Cha.xor key 1 nonce fr):=by unfold Hid; rw [HOX.out,if_pos (by simpa using hEq)]
    have hsB:sameB mk tl=true:=by unfold sameB; simpa using hEq
    rw [hsB]
    clear hsB hEq
    refine wpAny_take (i:=5) (oi:=?oiw5) (v:=.bool false) ?hiw5 (by kernel_rfl) (by kernel_rfl) (by kernel_rfl) ?hQw5 ?hyw5 ?restw5
    case hiw5=>simp only [zge]; rfl
    case hQw5=>exact fun _ _ _ h=>h
    case hyw5=>exact Or.inl ⟨by rfl,by intro w; go_simp⟩
    try simp only [zpt]
    refine wpAny_done (by kernel_rfl) ?_ _
    go_upto_region 7 with (fail)
    refine wp_region_any (by kernel_rfl) ?_
    change wpAny _ _ _ _ _ _ _ (World.drew _)
    have E0:Hid (Blk w8.drew w.heap.size 26 kc):=D0.out.drew
    have E1:Hid (Blk w8.drew (w.heap.size + 1) 106 nc):=D1.out.drew
    have DW:Hid (Below w.heap.size w w8.drew):=W8.out.drew
    have DR:Hid (Rd w8.drew A' n' c' cc):=RC8.out.drew
    clear D0 D1 W8 RC8
    generalize w8.drew=w9 at *
    refine wpAny_take (i:=2) (oi:=?oiy0) (v:=.slice A' n' c') ?hiy0 (by kernel_rfl) (by kernel_rfl) (by kernel_rfl) ?hQy0 ?hyy0 ?resty0
    case hiy0=>simp only [zge]; rfl
    case hQy0=>exact fun _ _ _ h=>h
    case hyy0=>exact Or.inl ⟨by rfl,by intro w; go_simp⟩
    try simp only [zpt]
    refine wpAny_take (i:=3) (oi:=?oiy1) (v:=.int .i64 (N:Int)) ?hiy1 (by kernel_rfl) (by kernel_rfl) (by kernel_rfl) ?hQy1 ?hyy1 ?resty1
    case hiy1=>simp only [zge]; rfl
    case hQy1=>exact fun _ _ _ h=>h
    case hyy1=>exact Or.inl ⟨by rfl,by intro w; go_simp⟩
    try simp only [zpt]
    refine wpAny_take (i:=4) (oi:=?oiy2) (v:=.slice (cutA A' c' 0) N c') ?hiy2 (by kernel_rfl) (by kernel_rfl) (by kernel_rfl) ?hQy2 ?hyy2 ?resty2
    case hiy2=>simp only [zge]; rfl
    case hQy2=>exact fun _ _ _ h=>h
    case hyy2=>exact Or.inl ⟨by rfl,by intro w; go_simp⟩
    try simp only [zpt]
    refine phase (fun i=>if i=5 then [0,1] else []) (fun d a w'=>∃ x31 x32 x36:Value,a={ tmps:=#[.agg kc.toArray,.agg nc.toArray,.slice A n c,.slice A' n' c',.pointer (some ⟨w.heap.size,0,none⟩),.pointer (some ⟨w.heap.size + 1,0,none⟩),undef,undef,.slice none 0 0,.bool false,.int .i64 (N:Int),.pointer (some ⟨g,0,none⟩),.slice A' n' c',.int .i64 (n':Int),.bool false,.slice A' n' c',.int .i64 (n':Int),.int .i64 (N:Int),x18,x19,.slice A n c,.slice A' n' c',.int .i64 (N:Int),.slice (cutA A' c' 0) N c',.agg T.toArray,.slice (some ⟨g,0,none⟩) 16 16,.slice A' n' c',.int .i64 (N:Int),.slice (cutA A' c' N) 16 (c' - N),.bool true,.bool false,x31,x32,.slice A' n' c',.int .i64 (N:Int),.slice (cutA A' c' 0) N c',x36],defers:=[] }/\Hid (Below w9.heap.size w9 w')
     /\ (d 0=true->x31 = .agg kc.toArray)/\(d 1=true->x32 = .agg nc.toArray)/\(d 5=true->Hid (∃ AX cx,x36 = .slice AX N cx/\Rd w' AX N cx (Cha.xor key 1 nonce fr)/\∀ x,AX=some x->w9.heap.size<=x.block))) [0,1,5] ?step4 2 3 [0,1,5] _ _ _ rfl (by decide) (fun _ h=>h) (by kernel_rfl) ?init4 ?fin4
    case init4 =>
     refine ⟨_,_,_,rfl,Below.refl _ _,?_,?_,?_⟩ <;> (intro h; exact absurd h (by decide))
    case step4 =>
     intro i hi d a w10 hI hdi hdeps
     obtain ⟨x31,x32,x36,rfl,BW9,h0,h1,h5⟩:=hI
     have hs9:=BW9.out.size
     simp only [List.mem_cons,List.not_mem_nil,or_false] at hi
     rcases hi with rfl | rfl | rfl
     ·refine wpOp_step (o:=?osc0) ?hosc0 (fun K hK=>?_)
      case hosc0=>simp only [zge]; rfl
      refine step_loadL rfl 26 (.tmp 4) rfl w.heap.size 0 rfl kc _ Tryd.underlying26 rfl IK.out (E0.out.below BW9.out E0.out.lt).cells (hK _ _ ?_)
      clear hK K
      try simp only [zpt]
      exact ⟨_,x32,x36,rfl,BW9,fun _=>rfl,fun a=>h1 (by simpa using a),fun a=>h5 (by simpa using a)⟩
     ·refine wpOp_step (o:=?osc1) ?hosc1 (fun K hK=>?_)
      case hosc1=>simp only [zge]; rfl
      refine step_loadL rfl 106 (.tmp 5) rfl (w.heap.size + 1) 0 rfl nc _ Tryd.underlying106 rfl IN.out (E1.out.below BW9.out E1.out.lt).cells (hK _ _ ?_)
      clear hK K
      try simp only [zpt]
      exact ⟨x31,_,x36,rfl,BW9,fun a=>h0 (by simpa using a),fun _=>rfl,fun a=>h5 (by simpa using a)⟩
     ·obtain rfl:=h0 (hdeps 0 (by simp))
      obtain rfl:=h1 (hdeps 1 (by simp))
      refine wpOp_step (o:=?osc5) ?hosc5 (fun K hK=>?_)
      case hosc5=>simp only [zge]; rfl
      clear h5
      go_simp
      refine (CX.out w10 _ _ _ _ (RF.out w10 (DR.out.below BW9.out)) (by omega)).mono ?_
      rintro e w11 ⟨gx,rfl,hR,hgx,hX⟩
      refine hK _ _ ?_
      clear hK K
      try simp only [zpt]
      exact ⟨_,_,_,rfl,BW9.out.trans (hX.mono hs9),fun _=>rfl,fun _=>rfl,fun _=>⟨_,_,rfl,hR,fun x hx=>by injection hx with hx; subst hx; exact Nat.le_trans hs9 hgx⟩⟩
    case fin4 =>
     intro a w10 hI
     obtain ⟨x31,x32,x36,rfl,BW9,h0,h1,h5⟩:=hI
     obtain ⟨AX,cx,rfl,hR,hFX⟩:=(h5 (by decide)).out
     have FX:=Lib.hid (fun x hx=>Nat.le_trans DW.out.size (hFX x hx))
     clear hFX
     have W9:=Lib.hid (DW.out.trans (BW9.out.mono DW.out.size))
     have HRX:=Lib.hid hR
     clear h0 h1 h5 CX BW9 hR
     dsimp only
     refine wpAny_take (i:=6) (oi:=?oiz6) (v:=.slice AX N cx) ?hiz6 (by kernel_rfl) (by kernel_rfl) (by kernel_rfl) ?hQz6 ?hyz6 ?restz6
     case hiz6=>simp only [zge]; rfl
     case hQz6=>exact fun _ _ _ h=>h
     case hyz6=>exact Or.inl ⟨by rfl,by intro w; go_simp⟩
     try simp only [zpt]
     refine wpAny_take (i:=7) (oi:=?oiz7) (v:=.bool true) ?hiz7 (by kernel_rfl) (by kernel_rfl) (by kernel_rfl) ?hQz7 ?hyz7 ?restz7
     case hiz7=>simp only [zge]; rfl
     case hQz7=>exact fun _ _ _ h=>h
     case hyz7=>exact Or.inl ⟨by rfl,by intro w; go_simp⟩
     try simp only [zpt]
     refine wpAny_done (by kernel_rfl) ?_ _
     go_wp2_with fail
     go_ret2
     exact ⟨AX,N,cx,by rw [HOT.out]; rfl,by rw [HOP.out]; exact HRX.out,W9.out,fun x hx _=>FX.out x hx⟩
   ·have HOF:Hid (Ae.opens key nonce ad cc=false):=by unfold Hid; rw [HOE.out]; simpa using hEq
    have HOP:Hid (Ae.opened key nonce ad cc=[]):=by unfold Hid; rw [HOX.out,if_neg (by simpa using hEq)]
    have hsB:sameB mk tl=false:=by unfold sameB; simpa using hEq
    rw [hsB]
    clear hsB hEq
    refine wpAny_take (i:=5) (oi:=?oiw6) (v:=.bool true) ?hiw6 (by kernel_rfl) (by kernel_rfl) (by kernel_rfl) ?hQw6 ?hyw6 ?restw6
    case hiw6=>simp only [zge]; rfl
    case hQw6=>exact fun _ _ _ h=>h
    case hyw6=>exact Or.inl ⟨by rfl,by intro w; go_simp⟩
    try simp only [zpt]
    refine wpAny_done (by kernel_rfl) ?_ _
    go_wp2_with fail
    go_ret2
    exact ⟨none,0,0,by rw [HOF.out]; rfl,by rw [HOP.out]; exact Rd.nil _ _ _ (by unfold maxLen; omega),W8.out,fun x hx=>by cases hx⟩
theorem open_any (key nonce:List UInt8) {w:World} {A A':Option Addr} {n c n' c':Nat} {ad cc:List UInt8} (hk:key.length=32) (hn:nonce.length=12) (hra:Rd w A n c ad) (hrc:Rd w A' n' c' cc) (hn1:n<=10000) (hn2:n'<=10000) :
  Calls Tryd.prog 60 #[.agg (key.map cellOf).toArray,.agg (nonce.map cellOf).toArray,.slice A n c,.slice A' n' c'] w (RetO w (Ae.opened key nonce ad cc) (Ae.opens key nonce ad cc)) :=
 (open_new key nonce hk hn hra hrc hn1 hn2).mono fun _ _ ⟨A,n,c,h1,h2,h3,_⟩=>⟨A,n,c,h1,h2,h3⟩
theorem aeOk:AeOk:=⟨fun key nonce _ _ _ _ _ _ _ _ _ hk hn h1 h2 h3 h4=>seal_any key nonce hk hn h1 h2 h3 h4,fun key nonce _ _ _ _ _ _ _ _ _ hk hn h1 h2 h3 h4=>open_any key nonce hk hn h1 h2 h3 h4⟩
end Go.Proofs.YtajgjeialbgijaaDoor
