import Derived.Test.YtnfbkimkdnbohaaGreatDoorSGref2
import Derived.Test.YtnfbkimkdnbohaaGreatDoorSPads
set_option linter.unusedVariables false
set_option linter.unusedSimpArgs false
set_option maxRecDepth 100000
set_option maxHeartbeats 8000000
namespace Go.Proofs.YtnfbkimkdnbohaaGreatDoor
open Go.RowKit
theorem rsize_any (n:Int) (w:World) (h1:-9223372036854775808<=n) (h2:n<=9223372036854775807):Calls Tryz.prog 52 #[.int .i64 n] w fun e w'=>e = .returned (.int .i64 (Rc.size n:Int))/\Below w.heap.size w w':=by
 go_enter Tryz.func52,Tryz.ntmps52
 go_wp2_with fail
 have B0:Hid (Blk (w.alloc (.cells #[.int .i64 32,.int .i64 128,.int .i64 512,.int .i64 2048] 3)) w.heap.size 3 [.int .i64 32,.int .i64 128,.int .i64 512,.int .i64 2048]):=Blk.new _ _ _
 have X0:=qh (alloc_below w (.cells #[.int .i64 32,.int .i64 128,.int .i64 512,.int .i64 2048] 3))
 generalize w.alloc (.cells #[.int .i64 32,.int .i64 128,.int .i64 512,.int .i64 2048] 3)=w1 at *
 go_loopw [4] (fun i wr=>∃ k:Nat,k<=4/\i = .int .i64 k/\Hid (0<=n->(0 < k->30 < n)/\(1 < k->126 < n)/\(2 < k->510 < n)/\(3 < k->2046 < n))/\Hid (wr=w1)) (fun i _=>4 - (intOf i).toNat)
 case atStart=>exact ⟨0,by omega,rfl,fun _=>⟨by omega,by omega,by omega,by omega⟩,rfl⟩
 case round =>
  obtain ⟨k,hk,rfl,HK,HW⟩:=hrel
  have hw:=HW.out
  subst hw
  clear HW
  by_cases hlt:k < 4
  ·have hlb:(k:Int) < 4:=by omega
   obtain ⟨s,hs,hse,hs1,hs2⟩:∃ s:Int,([.int .i64 32,.int .i64 128,.int .i64 512,.int .i64 2048]:List Value)[k]?=some (.int .i64 s)/\Hid ((0<=n->n<=s - 2->s=(Rc.size n:Int))/\(¬ (0<=n/\n<=s - 2)->0<=n->(0 < k + 1->30 < n)/\(1 < k + 1->126 < n)/\(2 < k + 1->510 < n)/\(3 < k + 1->2046 < n)))/\32<=s/\s<=2048:=by
    have hk4:k=0 ∨ k=1 ∨ k=2 ∨ k=3:=by omega
    have HK:=HK.out
    rcases hk4 with rfl | rfl | rfl | rfl
    ·exact ⟨32,rfl,⟨fun h0 h=>by rw [Rc.size,if_neg (by omega),if_pos (by omega)]; rfl,fun h h0=>by omega⟩,by omega,by omega⟩
    ·exact ⟨128,rfl,⟨fun h0 h=>by rw [Rc.size,if_neg (by omega),if_neg (by omega),if_pos (by omega)]; rfl,fun h h0=>by omega⟩,by omega,by omega⟩
    ·exact ⟨512,rfl,⟨fun h0 h=>by rw [Rc.size,if_neg (by omega),if_neg (by omega),if_neg (by omega),if_pos (by omega)]; rfl,fun h h0=>by omega⟩,by omega,by omega⟩
    ·exact ⟨2048,rfl,⟨fun h0 h=>by rw [Rc.size,if_neg (by omega),if_neg (by omega),if_neg (by omega),if_neg (by omega),if_pos (by omega)]; rfl,fun h h0=>by omega⟩,by omega,by omega⟩
   have c0:wr.cell? ⟨w.heap.size,k,none⟩=some (.int .i64 s):=by rw [B0.out.cell]; exact hs
   clear HK hs
   by_cases h0:0<=n
   ·have d0:decide (0<=n)=true:=by simp; omega
    by_cases hn:n<=s - 2
    ·have d1:decide (n<=s - 2)=true:=by simp; omega
     go_wp2_with fail
     go_ret
     exact ⟨congrArg (fun z=>Ending.returned (.int .i64 z)) (hse.out.1 h0 hn),X0.out⟩
    ·have d1:decide (n<=s - 2)=false:=by simp; omega
     go_wp2_with fail
     go_roundw
     case rel=>exact ⟨k + 1,by omega,by go_num,hse.out.2 (by omega),(show Hid True from trivial)⟩
     case measure=>simp [intOf]; omega
   ·have d0:decide (0<=n)=false:=by simp; omega
    go_wp2_with fail
    go_roundw
    case rel=>exact ⟨k + 1,by omega,by go_num,hse.out.2 (by omega),(show Hid True from trivial)⟩
    case measure=>simp [intOf]; omega
  ·obtain rfl:k=4:=by omega
   have e:Rc.size n=0:=by
    have HK:=HK.out
    unfold Rc.size
    by_cases h0:n < 0
    ·rw [if_pos h0]
    ·rw [if_neg h0,if_neg (by omega),if_neg (by omega),if_neg (by omega),if_neg (by omega)]
   go_wp2_with fail
   go_ret
   exact ⟨by rw [e]; rfl,X0.out⟩
theorem own_two (w:World) (x y:UInt8):Ow (w.alloc (.cells #[.int .u8 (x.toNat:Int),.int .u8 (y.toNat:Int)] 5)) w.heap.size (.slice (some ⟨w.heap.size,0,none⟩) 2 2) [x,y] :=
 World.ownsRow_lit (base:=w.heap.size) (e:=5) (size:=1) w #[.int .u8 (x.toNat:Int),.int .u8 (y.toNat:Int)] 2 (Nat.le_refl _) (by unfold maxLen; omega) rfl
open Go.RowKit
theorem nought_drop (b:List UInt8) (m:Nat):Rc.nought (b.drop m)=true ↔ ∀ j,m<=j->j < b.length->b.getD j 0=0:=by
 unfold Rc.nought
 rw [List.all_eq_true]
 constructor
 ·intro h j h1 h2
  have hj:j - m < (b.drop m).length:=by simp; omega
  have:=h _ (List.getElem_mem hj)
  rw [List.getElem_drop] at this
  have e:m + (j - m)=j:=by omega
  simp only [e,beq_iff_eq] at this
  simpa [List.getD_eq_getElem?_getD,List.getElem?_eq_getElem h2] using this
 ·intro h x hx
  obtain ⟨i,hi,rfl⟩:=List.getElem_of_mem hx
  rw [List.getElem_drop]
  have hi2:m + i < b.length:=by simp at hi; omega
  have:=h (m + i) (by omega) hi2
  simpa [List.getD_eq_getElem?_getD,List.getElem?_eq_getElem hi2] using this
theorem runpad_any {w:World} {A:Option Addr} {n c:Nat} {b:List UInt8} (hr:Rd w A n c b) :
  Calls Tryz.prog 53 #[.slice A n c] w (RetE w (Rc.unpad b) (if Rc.fits b then 0 else 1)):=by
 have HR:=qh hr
 have hl:=hr.len
 have hm:n<=9223372036854775807:=by have h1:=hr.cap; have h2:=hr.max; unfold maxLen at h2; omega
 have hc:=hr.cap
 clear hr
 obtain ⟨ul,hul⟩:=zx (Rc.unpad b)
 obtain ⟨er,her⟩:=zx (if Rc.fits b then 0 else 1:Int)
 rw [<- hul,<- her]
 have NO:Hid (Rc.fits b=false->ul=[]/\er=1):=fun h=>⟨by rw [hul,Rc.unpad,h]; rfl,by rw [her,h]; rfl⟩
 have YES:Hid (Rc.fits b=true->ul=(b.drop 2).take (Rc.told b)/\er=0):=fun h=>⟨by rw [hul,Rc.unpad,if_pos h],by rw [her,if_pos h]⟩
 clear hul her
 by_cases h2:2<=n
 ·obtain ⟨g,off,rfl,hblt,hcell⟩:=HR.out.at_ (by omega)
  obtain ⟨x,hx⟩:=zx (b.getD 0 0)
  obtain ⟨y,hy⟩:=zx (b.getD 1 0)
  have c0:w.cell? ⟨g,off,none⟩=some (.int .u8 (x.toNat:Int)):=by rw [hx]; exact hcell 0 (by omega)
  have c1:w.cell? ⟨g,off + 1,none⟩=some (.int .u8 (y.toNat:Int)):=by rw [hy]; exact hcell 1 (by omega)
  obtain ⟨t,ht⟩:=zx (Rc.told b)
  have hor:(x.toNat:Int) * 256 + (y.toNat:Int)=(t:Int):=by rw [ht,Rc.told,hx,hy]; omega
  have hx8:=x.toNat_lt
  have hy8:=y.toNat_lt
  clear hx hy hcell
  go_enter Tryz.func53,Tryz.ntmps53
  go_upto_region 3 with (fail)
  go_quiet (fail)
  obtain ⟨w1,hw1⟩:=zx (w.drewN nq)
  have W1:Below w.heap.size w w1:=by rw [hw1]; exact ⟨rfl,rfl,rfl,Nat.le_refl _,fun _ _=>rfl⟩
  have HR1:=qh (HR.out.below W1)
  have W1:=qh W1
  try rw [hor]
  rw [<- hw1]
  clear hw1 c0 c1 hor HR
  have ht16:t < 65536:=by rw [ht]; exact Rc.told_lt b
  have HT:=qh ht
  try rw [<- ht]
  clear ht
  have HL:=qh hl
  by_cases htn:t<=n - 2
  ·have d1:decide ((n:Int) - 2 < (t:Int))=false:=by simp; omega
   have CS:=qh (rsize_any (t:Int) w1 (by omega) (by omega))
   obtain ⟨z,hz⟩:=zx (Rc.size (t:Int))
   rw [<- hz] at CS
   by_cases hzn:z=n
   ·have hfe:Rc.fits b=Rc.nought (b.drop (2 + t)):=by
     unfold Rc.fits
     rw [<- HT.out,<- hz,decide_eq_true (show 2<=b.length by omega),decide_eq_true (show z=b.length by omega)]
     rfl
    have HFE:=qh hfe
    subst hzn
    clear hz hfe hl
    go_wp2_with fail
    refine CS.out.mono ?_
    rintro e w2 ⟨rfl,hX⟩
    have W2:=qt W1 hX
    have R2:=qh (HR1.out.below hX)
    have hs2:=hX.size
    clear hX CS W1 HR1
    go_wp2_with fail
    go_loopw [5] (fun i wr=>∃ k:Nat,2 + t<=k/\k<=z/\i = .int .i64 k/\Hid (∀ j,2 + t<=j->j < k->b.getD j 0=0)/\Hid (wr=w2)) (fun i _=>z - (intOf i).toNat)
    case atStart=>exact ⟨2 + t,by omega,by omega,by go_num,fun j h1 h2=>by omega,rfl⟩
    case round =>
     obtain ⟨k,hk1,hk,rfl,HK,HW⟩:=hrel
     have hw:=HW.out
     subst hw
     clear HW
     by_cases hlt:k < z
     ·have hlb:(k:Int) < (z:Int):=by omega
      obtain ⟨g',o',e',_,hcell⟩:=R2.out.at_ (by omega)
      injection e' with e'
      injection e' with e1 e2 _
      subst e1
      subst e2
      have c0:wr.cell? ⟨g,off + k,none⟩=some (.int .u8 ((b.getD k 0).toNat:Int)):=hcell k hlt
      clear hcell
      by_cases hy:b.getD k 0=0
      ·have HN:Hid (∀ j,2 + t<=j->j < k + 1->b.getD j 0=0):=fun j h1 h2=>by
        by_cases hj:j=k
        ·rw [hj]; exact hy
        ·exact HK.out j h1 (by omega)
       rw [hy] at c0
       clear HK hy
       go_wp2_with fail
       go_roundw
       case rel=>exact ⟨k + 1,by omega,by omega,by go_num,HN,(show Hid True from trivial)⟩
       case measure=>simp [intOf]; omega
      ·obtain ⟨rfl,rfl⟩:=NO.out (by
        rw [HFE.out]
        refine Bool.eq_false_iff.2 fun ha=>hy ?_
        exact (nought_drop b (2 + t)).1 ha k hk1 (by have:=HL.out; omega))
       have hy2:¬ (((b.getD k 0).toNat:Int)=0):=fun h=>hy (UInt8.toNat_inj.1 (show (b.getD k 0).toNat=(0:UInt8).toNat by have h1:(0:UInt8).toNat=0:=rfl; omega))
       clear HK hy
       generalize b.getD k 0=y at *
       go_wp2_with fail
       go_ret2
       exact ⟨none,0,0,rfl,Rd.nil _ _ _ (by unfold maxLen; omega),W2.out,fun x hx=>by cases hx⟩
     ·obtain rfl:k=z:=by omega
      obtain ⟨hu,rfl⟩:=YES.out (by rw [HFE.out]; exact (nought_drop b (2 + t)).2 fun j h1 h2=>HK.out j h1 (by have:=HL.out; omega))
      have HU:=qh hu
      have hsl:∀ W:World,(Instr.slice 24 (.slice (some ⟨g,off,none⟩) k c) (some (.int .i64 2)) (some (.int .i64 ((t:Int) + 2))) none).run Tryz.prog W = .ok (.slice (cutA (some ⟨g,off,none⟩) c 2) (t + 2 - 2) (c - 2)) W:=slice_lh (some ⟨g,off,none⟩) k c 2 (t + 2) (by omega) (by omega)
      have RC:=qh (R2.out.cut (k:=2) (e:=t + 2) (by omega) (by omega))
      obtain ⟨B5,hB5⟩:=zx (cutA (some ⟨g,off,none⟩) c 2)
      simp only [<- hB5] at hsl RC
      rw [show t + 2 - 2=t by omega] at hsl RC
      have HUU:Hid ((b.drop 2).take t=ul):=by unfold Hid; rw [HU.out,HT.out]
      rw [HUU.out] at RC
      clear hu HK hB5 HU
      go_wp2_with (first | (at_builtin; refine onto_law rfl (.const (.slice none 0 0)) (.tmp 47) rfl rfl rfl RC.out (Ow.empty _ wr.heap.size) (by simp; omega) (Nat.le_refl _) (Below.refl _ _) ?_; intro v3 w3 O3 X3))
      rw [List.nil_append] at O3
      obtain ⟨A3,c3,rfl,hr3,hg3⟩:=O3.out.value
      go_ret2
      exact ⟨A3,_,c3,rfl,hr3,zt W2.out X3.out,fun x hx h0=>by obtain ⟨g,rfl,hg⟩:=hg3 h0; injection hx with hx; subst hx; exact Nat.le_trans W2.out.size hg⟩
   ·obtain ⟨rfl,rfl⟩:=NO.out (by simp [Rc.fits]; intro _ h; exact absurd (by rw [<- hl,<- h,hz,HT.out]) hzn)
    have hzn2:¬ ((z:Int)=(n:Int)):=by omega
    clear hz hl
    go_wp2_with fail
    refine CS.out.mono ?_
    rintro e w2 ⟨rfl,hX⟩
    have W2:=qt W1 hX
    go_wp2_with fail
    go_ret2
    exact ⟨none,0,0,rfl,Rd.nil _ _ _ (by unfold maxLen; omega),W2.out,fun x hx=>by cases hx⟩
  ·obtain ⟨rfl,rfl⟩:=NO.out (by
    refine Bool.eq_false_iff.2 fun hf=>htn ?_
    simp only [Rc.fits,Bool.and_eq_true,decide_eq_true_iff] at hf
    have:=Rc.told_room hf.1.1 hf.1.2
    rw [<- HT.out] at this
    omega)
   have d1:decide ((n:Int) - 2 < (t:Int))=true:=by simp; omega
   clear hl
   go_wp2_with fail
   go_ret2
   exact ⟨none,0,0,rfl,Rd.nil _ _ _ (by unfold maxLen; omega),W1.out,fun x hx=>by cases hx⟩
 ·obtain ⟨rfl,rfl⟩:=NO.out (by simp [Rc.fits]; intro h; omega)
  have hlt:(n:Int) < 2:=by omega
  clear hl
  go_enter Tryz.func53,Tryz.ntmps53
  go_wp2_with fail
  go_ret2
  exact ⟨none,0,0,rfl,Rd.nil _ _ _ (by unfold maxLen; omega),Below.refl _ _,fun x hx=>by cases hx⟩
end Go.Proofs.YtnfbkimkdnbohaaGreatDoor
