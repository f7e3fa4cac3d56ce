import Derived.Deep.LoopGhost
import Derived.Lib.AppendStr
import Derived.Test.YtnfbkimkdnbohaaGreatDoorSGref1
set_option linter.unusedVariables false
set_option linter.unusedSimpArgs false
set_option maxRecDepth 100000
set_option maxHeartbeats 8000000
namespace Go.Proofs.YtnfbkimkdnbohaaGreatDoor
open Go.RowKit
theorem loF_lt (l:List Int) (k:Nat) (h:k < 16):Pol.loF l (k + 1)=Pol.loF l k ++ [l.getD k 0]:=by
 unfold Pol.loF
 rw [Nat.min_eq_left (by omega),Nat.min_eq_left (by omega),List.range_succ,List.map_append,List.map_cons,List.map_nil,if_pos h]
theorem loF_eq (l:List Int) (k:Nat) (h:k=16):Pol.loF l (k + 1)=Pol.loF l k ++ [l.getD k 0 % 4]:=by
 subst h
 unfold Pol.loF
 rw [show min (16 + 1) 17=16 + 1 from rfl,show min 16 17=16 from rfl,List.range_succ,List.map_append,List.map_cons,List.map_nil,if_neg (by omega)]
theorem loF_gt (l:List Int) (k:Nat) (h:16 < k):Pol.loF l (k + 1)=Pol.loF l k:=by
 unfold Pol.loF
 rw [Nat.min_eq_right (by omega),Nat.min_eq_right (by omega)]
theorem hiF_lt (l:List Int) (k:Nat) (h:k < 16):Pol.hiF l (k + 1)=Pol.hiF l k:=by
 unfold Pol.hiF
 rw [show k + 1 - 16=0 by omega,show k - 16=0 by omega]
theorem hiF_ge (l:List Int) (k:Nat) (h:16<=k):Pol.hiF l (k + 1)=Pol.hiF l k ++ [l.getD k 0 / 4 + l.getD (k + 1) 0 % 4 * 64]:=by
 unfold Pol.hiF
 rw [show k + 1 - 16=(k - 16) + 1 by omega,List.range_succ,List.map_append,List.map_cons,List.map_nil,show 16 + (k - 16)=k by omega,show 17 + (k - 16)=k + 1 by omega]
theorem loF_len (l:List Int) (k:Nat):(Pol.loF l k).length=min k 17:=by simp [Pol.loF]
theorem hiF_len (l:List Int) (k:Nat):(Pol.hiF l k).length=k - 16:=by simp [Pol.hiF]
theorem all_zero (l:List Int) (h:Pol.In 256 l):(l.all (· == 0))=decide (Pol.D l=0):=by
 induction l with
 | nil=>rfl
 | cons x l ih =>
  have hx:=h x (by simp)
  have hl:Pol.In 256 l:=fun y hy=>h y (by simp [hy])
  have hb:=Pol.D_bound l hl
  rw [List.all_cons,ih hl,Pol.D]
  by_cases h0:x=0
  ·subst h0
   by_cases h1:Pol.D l=0
   ·simp [h1]
   ·have h2:¬ (0 + 256 * Pol.D l=0):=by omega
    simp [h1,h2]
  ·have:¬ (x + 256 * Pol.D l=0):=by omega
   simp [h0,this]
def RetF (w:World) (v:Int) (e:Ending) (w':World):Prop:=∃ (m:Nat) (y:Int),RetI w (Pol.dg m y) e w'/\1<=m/\m<=17/\0<=y/\y < 1361129467683753853853498429727072845824/\y < 256 ^ m/\y % Pol.p=v % Pol.p
theorem fold_end (n:Nat) (v:Int) (h1:1<=n) (h0:0<=v) (hv:v < 256 ^ n) (hz:v / 1361129467683753853853498429727072845824=0):1<=min n 17/\min n 17<=17/\0<=v % 1361129467683753853853498429727072845824/\v % 1361129467683753853853498429727072845824 < 1361129467683753853853498429727072845824/\v % 1361129467683753853853498429727072845824 < 256 ^ (min n 17)/\(v % 1361129467683753853853498429727072845824) % Pol.p=v % Pol.p:=by
 have e:v % 1361129467683753853853498429727072845824=v:=by omega
 rw [e]
 refine ⟨by omega,by omega,h0,by omega,?_,rfl⟩
 rcases Nat.le_total n 17 with h | h
 ·rw [Nat.min_eq_left h]; exact hv
 ·rw [Nat.min_eq_right h,show (256:Int) ^ 17=87112285931760246646623899502532662132736 from rfl]; omega
theorem fold_less (v:Int) (h0:0<=v) (hz:¬ v / 1361129467683753853853498429727072845824=0):v % 1361129467683753853853498429727072845824 + v / 1361129467683753853853498429727072845824 * 5 < v:=by omega
theorem rfold_any {w:World} {A:Option Addr} {n c:Nat} {l:List Int} (hr:RdI w A n l) (hin:Pol.In 256 l) (hn1:1<=n) (hn:n<=100) :
  Calls Tryz.prog 129 #[.slice A n c] w (RetF w (Pol.D l)):=by
 have HR:=qh hr
 have HI:=qh hin
 clear hr hin
 go_enter Tryz.func129,Tryz.ntmps129
 go_wp2_with fail
 go_loopg [0] (Pol.D l).toNat (fun q s wr=>∃ (A':Option Addr) (n' c':Nat) (l':List Int),s = .slice A' n' c'/\Hid ((Pol.D l').toNat=q)/\1<=n'/\n'<=100/\Hid (RdI wr A' n' l')/\Hid (Pol.In 256 l')/\Hid (Pol.D l' % Pol.p=Pol.D l % Pol.p)/\Hid (Below w.heap.size w wr))
 case atStart=>exact ⟨A,n,c,l,rfl,rfl,hn1,hn,HR,HI,rfl,Below.refl _ _⟩
 case round =>
  obtain ⟨A',n',c',l',rfl,HQ,h1,h100,HR',HI',HM,BW⟩:=hrel
  have HL':=qh HR'.out.len
  go_wp2_with fail
  obtain ⟨wo,rfl⟩:=zx (wr)
  go_loopw [3,4,5] (fun lo hi i wr=>∃ k:Nat,k<=n'/\i = .int .i64 k/\Hid (OwI wr wo.heap.size lo (Pol.loF l' k))/\Hid (OwI wr wo.heap.size hi (Pol.hiF l' k))/\Hid (Apart lo hi)/\Hid (Below wo.heap.size wo wr)) (fun _ _ i _=>n' - (intOf i).toNat)
  case atStart=>exact ⟨0,by omega,rfl,OwI.empty _ _,OwI.empty _ _,.inl rfl,Below.refl _ _⟩
  case round =>
   obtain ⟨k,hk,rfl,OL,OH,AP,BX⟩:=hrel
   by_cases hlt:k < n'
   ·have hlb:decide ((k:Int) < (n':Int))=true:=by simp; omega
    have hlb':decide (k < n')=true:=by simp; omega
    have hkn:(k:Int) < (n':Int):=by omega
    obtain ⟨bb,off,rfl,hblt,hc⟩:=HR'.out.at_ (by omega)
    obtain ⟨y,hy⟩:=zx (l'.getD k 0)
    have hyb:=Pol.in_at HI'.out k (by rw [HL'.out]; exact hlt)
    rw [<- hy] at hyb
    have hy0:=hyb.1
    have hy1:=hyb.2
    have hcy:∀ W,Below wo.heap.size wo W->W.cell? ⟨bb,off + k,none⟩=some (.int .i64 y):=fun W hX=>by rw [hX.cell (p:=⟨bb,off + k,none⟩) hblt,hy]; exact hc k hlt
    have HCY:=qh hcy
    have LL:Hid ((Pol.loF l' k).length + 1<=1000000000):=by unfold Hid; rw [loF_len]; omega
    have LH:Hid ((Pol.hiF l' k).length + 1<=1000000000):=by unfold Hid; rw [hiF_len]; omega
    have HY:=qh hy
    have HCA:=qh hc
    have HBLT:=qh hblt
    clear hcy hy hc hyb hblt
    obtain ⟨L,hL⟩:=zx (Pol.loF l' k)
    obtain ⟨H,hH⟩:=zx (Pol.hiF l' k)
    rw [<- hL] at OL LL
    rw [<- hH] at OH LH
    have HLL:=qh hL
    have HHH:=qh hH
    clear hL hH
    by_cases h16:k < 16
    ·have d1:decide ((k:Int) < 16)=true:=by simp; omega
     have d2:decide ((k:Int) ≥ 16)=false:=by simp; omega
     have c0:=HCY.out _ BX.out
     have EL:Hid (Pol.loF l' (k + 1)=L ++ [y]):=by unfold Hid; rw [loF_lt l' k h16,<- HLL.out,<- HY.out]
     have EH:Hid (Pol.hiF l' (k + 1)=H):=by unfold Hid; rw [hiF_lt l' k h16,<- HHH.out]
     go_wp2_with (first
      | (at_builtin; refine pushI_law (y:=y) rfl (.tmp 16) (.tmp 21) rfl rfl rfl OL.out LL.out BX.out.size BX.out ?_; intro v2 w2 OL2 BX2 G2 L2))
     have OH2:=qh ((OH.out.alloc (.cells #[.int .i64 y] 3)).kept G2.out AP.out.symm)
     have AP2:=qh (AP.out.symm.liesI OH.out L2.out).symm
     rw [<- EL.out] at OL2
     rw [<- EH.out] at OH2
     go_roundw
     case rel=>exact ⟨k + 1,by omega,by go_num,OL2,OH2,AP2,BX2⟩
     case measure=>simp [intOf]; omega
    ·have d1:decide ((k:Int) < 16)=false:=by simp; omega
     have d2:decide ((k:Int) ≥ 16)=true:=by simp; omega
     obtain ⟨t,ht⟩:=zx (l'.getD (k + 1) 0)
     have EH:Hid (Pol.hiF l' (k + 1)=H ++ [y / 4 + t % 4 * 64]):=by unfold Hid; rw [hiF_ge l' k (by omega),<- HHH.out,<- HY.out,<- ht]
     by_cases hk1:k + 1 < n'
     ·have d3:decide ((k:Int) + 1 < (n':Int))=true:=by simp; omega
      have hk1i:(k:Int) + 1 < (n':Int):=by omega
      have htb:=Pol.in_at HI'.out (k + 1) (by rw [HL'.out]; exact hk1)
      rw [<- ht] at htb
      have ht0:=htb.1
      have ht1:=htb.2
      have hct:∀ W,Below wo.heap.size wo W->W.cell? ⟨bb,off + (k + 1),none⟩=some (.int .i64 t):=fun W hX=>by rw [hX.cell (p:=⟨bb,off + (k + 1),none⟩) HBLT.out,ht]; exact HCA.out (k + 1) hk1
      have HCT:=qh hct
      clear hct ht htb
      obtain ⟨hv,hhv⟩:=zx (y / 4 + t % 4 * 64)
      rw [<- hhv] at EH
      have hkc:((k:Int) + 1).toNat=k + 1:=by omega
      by_cases h16e:k=16
      ·have d4:((k:Int) == 16)=true:=by simp; omega
       have c0:=HCY.out _ BX.out
       have EL:Hid (Pol.loF l' (k + 1)=L ++ [y % 4]):=by unfold Hid; rw [loF_eq l' k h16e,<- HLL.out,<- HY.out]
       have hk17:k<=16:=by omega
       clear h16e
       go_upto_region 9 with (first
        | (at_builtin; refine pushI_law (y:=y % 4) rfl (.tmp 26) (.tmp 32) rfl rfl rfl OL.out LL.out BX.out.size BX.out ?_; intro v2 w2 OL2 BX2 G2 L2))
       have OH2:=qh ((OH.out.alloc (.cells #[.int .i64 (y % 4)] 3)).kept G2.out AP.out.symm)
       have AP2:=qh (AP.out.symm.liesI OH.out L2.out).symm
       rw [<- EL.out] at OL2
       have OL2':=qh OL2.out
       clear c0 OL OH AP BX G2 L2 OL2 d4
       have c1:=HCY.out _ BX2.out
       have c2:=HCT.out _ BX2.out
       go_wp2_with (first
        | (at_builtin; refine pushI_law (y:=y / 4 + t % 4 * 64) rfl (.tmp 55) (.tmp 57) rfl rfl rfl OH2.out LH.out BX2.out.size BX2.out ?_; intro v3 w3 OH3 BX3 G3 L3))
       have OL3:=qh ((OL2'.out.alloc (.cells #[.int .i64 (y / 4 + t % 4 * 64)] 3)).kept G3.out AP2.out)
       have AP3:=qh (AP2.out.liesI OL2'.out L3.out)
       rw [<- hhv,<- EH.out] at OH3
       go_roundw
       case rel=>exact ⟨k + 1,by omega,by go_num,OL3,OH3,AP3,BX3⟩
       case measure=>simp [intOf]; omega
      ·have d4:((k:Int) == 16)=false:=by simp; omega
       have c1:=HCY.out _ BX.out
       have EL:Hid (Pol.loF l' (k + 1)=L):=by unfold Hid; rw [loF_gt l' k (by omega),<- HLL.out]
       have c2:=HCT.out _ BX.out
       go_wp2_with (first
        | (at_builtin; refine pushI_law (y:=y / 4 + t % 4 * 64) rfl (.tmp 55) (.tmp 57) rfl rfl rfl OH.out LH.out BX.out.size BX.out ?_; intro v3 w3 OH3 BX3 G3 L3))
       have OL3:=qh ((OL.out.alloc (.cells #[.int .i64 (y / 4 + t % 4 * 64)] 3)).kept G3.out AP.out)
       have AP3:=qh (AP.out.liesI OL.out L3.out)
       rw [<- hhv,<- EH.out] at OH3
       rw [<- EL.out] at OL3
       go_roundw
       case rel=>exact ⟨k + 1,by omega,by go_num,OL3,OH3,AP3,BX3⟩
       case measure=>simp [intOf]; omega
     ·have d3:decide ((k:Int) + 1 < (n':Int))=false:=by simp; omega
      have ht0:t=0:=by rw [ht]; exact Pol.getD_ge (by rw [HL'.out]; omega)
      have EH':Hid (Pol.hiF l' (k + 1)=H ++ [y / 4]):=by unfold Hid; rw [EH.out,ht0]; simp
      clear ht ht0 EH
      by_cases h16e:k=16
      ·have d4:((k:Int) == 16)=true:=by simp; omega
       have c0:=HCY.out _ BX.out
       have EL:Hid (Pol.loF l' (k + 1)=L ++ [y % 4]):=by unfold Hid; rw [loF_eq l' k h16e,<- HLL.out,<- HY.out]
       have hk17:k<=16:=by omega
       clear h16e
       go_upto_region 9 with (first
        | (at_builtin; refine pushI_law (y:=y % 4) rfl (.tmp 26) (.tmp 32) rfl rfl rfl OL.out LL.out BX.out.size BX.out ?_; intro v2 w2 OL2 BX2 G2 L2))
       have OH2:=qh ((OH.out.alloc (.cells #[.int .i64 (y % 4)] 3)).kept G2.out AP.out.symm)
       have AP2:=qh (AP.out.symm.liesI OH.out L2.out).symm
       rw [<- EL.out] at OL2
       have OL2':=qh OL2.out
       clear c0 OL OH AP BX G2 L2 OL2 d4
       have c1:=HCY.out _ BX2.out
       go_wp2_with (first
        | (at_builtin; refine pushI_law (y:=y / 4) rfl (.tmp 55) (.tmp 57) rfl rfl rfl OH2.out LH.out BX2.out.size BX2.out ?_; intro v3 w3 OH3 BX3 G3 L3))
       have OL3:=qh ((OL2'.out.alloc (.cells #[.int .i64 (y / 4)] 3)).kept G3.out AP2.out)
       have AP3:=qh (AP2.out.liesI OL2'.out L3.out)
       rw [<- EH'.out] at OH3
       go_roundw
       case rel=>exact ⟨k + 1,by omega,by go_num,OL3,OH3,AP3,BX3⟩
       case measure=>simp [intOf]; omega
      ·have d4:((k:Int) == 16)=false:=by simp; omega
       have c1:=HCY.out _ BX.out
       have EL:Hid (Pol.loF l' (k + 1)=L):=by unfold Hid; rw [loF_gt l' k (by omega),<- HLL.out]
       go_wp2_with (first
        | (at_builtin; refine pushI_law (y:=y / 4) rfl (.tmp 55) (.tmp 57) rfl rfl rfl OH.out LH.out BX.out.size BX.out ?_; intro v3 w3 OH3 BX3 G3 L3))
       have OL3:=qh ((OL.out.alloc (.cells #[.int .i64 (y / 4)] 3)).kept G3.out AP.out)
       have AP3:=qh (AP.out.liesI OL.out L3.out)
       rw [<- EH'.out] at OH3
       rw [<- EL.out] at OL3
       go_roundw
       case rel=>exact ⟨k + 1,by omega,by go_num,OL3,OH3,AP3,BX3⟩
       case measure=>simp [intOf]; omega
   ·obtain rfl:k=n':=by omega
    have hlb:decide ((k:Int) < (k:Int))=false:=by simp
    obtain ⟨v,hv⟩:=zx (Pol.D l')
    have hvb:=Pol.D_bound l' HI'.out
    rw [HL'.out,<- hv] at hvb
    have hdl:l'=Pol.dg k v:=by
     have:=Pol.dg_D l' HI'.out
     rw [HL'.out,<- hv] at this
     exact this.symm
    have OL':=OL.out
    have OH':=OH.out
    rw [hdl,Pol.loF_dg k v hvb.1 hvb.2] at OL'
    rw [hdl,Pol.hiF_dg k v hvb.1 hvb.2] at OH'
    obtain ⟨lo,hlo⟩:=zx (Pol.dg (min k 17) (v % 1361129467683753853853498429727072845824))
    obtain ⟨hi,hhi⟩:=zx (Pol.dg (k - 16) (v / 1361129467683753853853498429727072845824))
    rw [<- hlo] at OL'
    rw [<- hhi] at OH'
    have Llo:lo.length=min k 17:=by rw [hlo,Pol.dg_length]
    have Lhi:hi.length=k - 16:=by rw [hhi,Pol.dg_length]
    have Ilo:Pol.In 256 lo:=by rw [hlo]; exact Pol.dg_in _ _
    have Ihi:Pol.In 256 hi:=by rw [hhi]; exact Pol.dg_in _ _
    have hq16:v / 1361129467683753853853498429727072845824 < 256 ^ (k - 16):=by
     rcases Nat.lt_or_ge k 16 with h | h
     ·have h1:=Pol.pow_le16 (show k<=16 by omega)
      have h2:v / 1361129467683753853853498429727072845824=0:=by omega
      rw [h2]
      exact Pol.pow_pos _
     ·have h3:(256:Int) ^ k=256 ^ (k - 16) * 340282366920938463463374607431768211456:=by
       rw [show (340282366920938463463374607431768211456:Int)=256 ^ 16 from rfl,<- Int.pow_add,Nat.sub_add_cancel h]
      have h4:=hvb.2
      rw [h3] at h4
      generalize (256:Int) ^ (k - 16)=z at *
      omega
    have Dhi:Pol.D hi=v / 1361129467683753853853498429727072845824:=by rw [hhi]; exact Pol.D_dg _ _ (by omega) hq16
    have hqm:v % 1361129467683753853853498429727072845824 < 256 ^ (min k 17):=by
     rcases Nat.le_total k 17 with h | h
     ·rw [Nat.min_eq_left h]
      omega
     ·rw [Nat.min_eq_right h,show (256:Int) ^ 17=87112285931760246646623899502532662132736 from rfl]
      omega
    have Dlo:Pol.D lo=v % 1361129467683753853853498429727072845824:=by rw [hlo]; exact Pol.D_dg _ _ (by omega) hqm
    obtain ⟨AL,cL,rfl,RL⟩:=OL'.value
    obtain ⟨AH,cH,rfl,RH⟩:=OH'.value
    rw [Llo] at RL
    rw [Lhi] at RH
    rw [Llo] at OL'
    rw [Lhi] at OH'
    rw [Llo,Lhi]
    have OL2:=qh OL'
    have HRL:=qh RL
    have HRH:=qh RH
    have HV0:=qh hvb.1
    have BWR:=qt BW BX.out
    obtain ⟨nl,hnl⟩:=zx (min k 17)
    obtain ⟨nh,hnh⟩:=zx (k - 16)
    rw [<- hnl] at HRL OL2 Llo hqm hlo
    rw [<- hnh] at HRH Lhi hq16 hhi
    rw [<- hnl,<- hnh]
    have hz:=rzero_any (c:=cH) HRH.out (by omega)
    rw [all_zero hi Ihi,Dhi] at hz
    by_cases hz0:v / 1361129467683753853853498429727072845824=0
    ·rw [hz0] at hz
     have HZ:=qh hz
     have HE:=qh (fold_end k v h1 hvb.1 hvb.2 hz0)
     rw [<- hnl] at HE
     have HLO:=qh hlo
     have HVD:=qh hv
     have HNL:=qh hnl
     clear hz hz0 hv hvb hdl OL' OH' hlo hhi Llo Lhi Ilo Ihi hq16 hqm Dhi Dlo RL RH hnl hnh OL OH AP
     go_wp2_with fail
     refine HZ.out.mono ?_
     rintro e w' ⟨rfl,rfl⟩
     go_wp2_with fail
     go_ret
     refine ⟨nl,v % 1361129467683753853853498429727072845824,⟨_,rfl,by rw [<- HLO.out]; exact OL2.out.more BW.out.size,BWR.out⟩,HE.out.1,HE.out.2.1,HE.out.2.2.1,HE.out.2.2.2.1,HE.out.2.2.2.2.1,?_⟩
     rw [HE.out.2.2.2.2.2,HVD.out]
     exact HM.out
    ·have hzf:decide (v / 1361129467683753853853498429727072845824=0)=false:=by simpa using hz0
     rw [hzf] at hz
     have HZ:=qh hz
     have hls:=fold_less v hvb.1 hz0
     have hsum:0<=v % 1361129467683753853853498429727072845824 + v / 1361129467683753853853498429727072845824 * 5:=by omega
     have hQD:=HQ.out
     rw [<- hv] at hQD
     have HDEC:Hid ((v % 1361129467683753853853498429727072845824 + v / 1361129467683753853853498429727072845824 * 5).toNat < gk):=by unfold Hid; omega
     have HMOD:Hid ((v % 1361129467683753853853498429727072845824 + v / 1361129467683753853853498429727072845824 * 5) % Pol.p=Pol.D l % Pol.p):=by unfold Hid; rw [Pol.fold_mod,hv]; exact HM.out
     have I5:Pol.In 256 [(5:Int)]:=fun x hx=>by simp at hx; omega
     have hnl17:nl<=17:=by omega
     have hnh84:nh<=84:=by omega
     have LLO:=qh Llo
     have LHI:=qh Lhi
     have ILO:=qh Ilo
     have IHI:=qh Ihi
     have DLO:=qh Dlo
     have DHI:=qh Dhi
     clear hz hzf hz0 hls hQD hv hvb hdl OL' OH' hlo hhi Llo Lhi Ilo Ihi hq16 hqm Dhi Dlo RL RH hnl hnh OL OH AP
     go_wp2_with fail
     refine HZ.out.mono ?_
     rintro e w' ⟨rfl,rfl⟩
     have X1:Below wr.heap.size wr (wr.alloc (Obj.cells #[Value.int .i64 5] 3)):=(Below.refl _ _).alloc (Nat.le_refl _) _
     have R5:RdI (wr.alloc (Obj.cells #[Value.int .i64 5] 3)) (some ⟨wr.heap.size,0,none⟩) 1 [5]:=RdI.of_block (ex:=[]) (Blk.at_new _ _ _ _ _ (by rfl) rfl) rfl
     have HT:=qh (rtimes_any (ca:=cH) (cb:=1) (HRH.out.below X1) R5 IHI.out I5 (by omega) (by omega))
     have X1':=qh X1
     clear X1 R5
     go_wp2_with fail
     refine HT.out.mono ?_
     rintro e w5 ⟨v5,rfl,hO5,hX5⟩
     obtain ⟨t5,ht5⟩:=zx (Pol.dg (nh + 1) (Pol.D hi * Pol.D [5]))
     rw [<- ht5] at hO5
     have L5:t5.length=nh + 1:=by rw [ht5,Pol.dg_length]
     have It5:Pol.In 256 t5:=by rw [ht5]; exact Pol.dg_in _ _
     have hp5:=prod_lt hi [5] nh (nh + 1) IHI.out I5 (by simp) (by rw [LHI.out]; omega)
     rw [List.take_of_length_le (by rw [LHI.out]; omega)] at hp5
     have D5:Pol.D t5=v / 1361129467683753853853498429727072845824 * 5:=by
      rw [ht5,Pol.D_dg _ _ hp5.1 hp5.2,DHI.out]
      simp [Pol.D]
     obtain ⟨A5,c5,rfl,R5⟩:=hO5.value
     rw [L5] at R5
     rw [L5]
     have X5:Below wr.heap.size wr w5:=zt X1'.out hX5
     have HP:=qh (rplus_any (ca:=cL) (cb:=c5) (HRL.out.below X5) R5 ILO.out It5 (by omega) (by omega))
     have hlt6:=sum_lt lo t5 nl (nh + 1) LLO.out L5 ILO.out It5
     rw [DLO.out,D5] at HP hlt6
     have X5':=qh X5
     have HLT6:=qh hlt6
     clear hO5 hX5 ht5 L5 It5 hp5 D5 R5 X5 hlt6 HT
     go_wp2_with fail
     refine HP.out.mono ?_
     rintro e w6 ⟨v6,rfl,hO6,hX6⟩
     obtain ⟨t6,ht6⟩:=zx (Pol.dg (max nl (nh + 1) + 1) (v % 1361129467683753853853498429727072845824 + v / 1361129467683753853853498429727072845824 * 5))
     rw [<- ht6] at hO6
     have L6:t6.length=max nl (nh + 1) + 1:=by rw [ht6,Pol.dg_length]
     have I6:Hid (Pol.In 256 t6):=by unfold Hid; rw [ht6]; exact Pol.dg_in _ _
     have D6:Pol.D t6=v % 1361129467683753853853498429727072845824 + v / 1361129467683753853853498429727072845824 * 5:=by rw [ht6]; exact Pol.D_dg _ _ hsum HLT6.out
     obtain ⟨A6,c6,rfl,R6⟩:=hO6.value
     obtain ⟨n6,hn6⟩:=zx (t6.length)
     rw [<- hn6] at R6
     rw [<- hn6]
     have hn61:1<=n6:=by omega
     have hn6100:n6<=100:=by omega
     have W6:Hid (Below w.heap.size w w6):=BWR.out.trans ((zt X5'.out hX6).mono BWR.out.size)
     have HR6:=qh R6
     have HQ6:Hid ((Pol.D t6).toNat=(v % 1361129467683753853853498429727072845824 + v / 1361129467683753853853498429727072845824 * 5).toNat):=by unfold Hid; rw [D6]
     have HM6:Hid (Pol.D t6 % Pol.p=Pol.D l % Pol.p):=by unfold Hid; rw [D6]; exact HMOD.out
     clear hO6 hX6 ht6 L6 D6 R6 hn6
     go_wp2_with fail
     go_roundg (v % 1361129467683753853853498429727072845824 + v / 1361129467683753853853498429727072845824 * 5).toNat
     case rel=>exact ⟨A6,n6,c6,t6,rfl,HQ6,hn61,hn6100,HR6,I6,HM6,W6⟩
     case measure=>exact HDEC.out
open Go.RowKit
theorem andI15_fin:∀ n:Fin 256,bits .and .i64 (n.val:Int) 15=(n.val:Int) % 16:=by decide
theorem andI252_fin:∀ n:Fin 256,bits .and .i64 (n.val:Int) 252=(n.val:Int) - (n.val:Int) % 4:=by decide
theorem andI15 (x:Int) (h:0<=x/\x < 256):bits .and .i64 x 15=x % 16:=by
 have:=andI15_fin ⟨x.toNat,by omega⟩
 simp only [Int.toNat_of_nonneg h.1] at this
 exact this
theorem andI252 (x:Int) (h:0<=x/\x < 256):bits .and .i64 x 252=x - x % 4:=by
 have:=andI252_fin ⟨x.toNat,by omega⟩
 simp only [Int.toNat_of_nonneg h.1] at this
 exact this
def m1 (l:List Int):Nat->List Int
 | 0=>l
 | t + 1=>(m1 l t).set (4 * t + 3) ((m1 l t).getD (4 * t + 3) 0 % 16)
def m2 (l:List Int):Nat->List Int
 | 0=>l
 | t + 1=>(m2 l t).set (4 * t + 4) ((m2 l t).getD (4 * t + 4) 0 - (m2 l t).getD (4 * t + 4) 0 % 4)
theorem in_set {m:Int} {l:List Int} (h:Pol.In m l) (j:Nat) (x:Int) (hx:0<=x/\x < m):Pol.In m (l.set j x):=fun y hy=>by
 rcases List.mem_or_eq_of_mem_set hy with h1 | h1
 ·exact h y h1
 ·rw [h1]; exact hx
theorem at_bd {l:List Int} (h:Pol.In 256 l) (j:Nat):0<=l.getD j 0/\l.getD j 0 < 256:=by
 rcases Nat.lt_or_ge j l.length with h1 | h1
 ·exact Pol.in_at h j h1
 ·rw [Pol.getD_ge h1]; omega
theorem m1_in {l:List Int} (h:Pol.In 256 l):∀ t,Pol.In 256 (m1 l t)
 | 0=>h
 | t + 1=>in_set (m1_in h t) _ _ (by have:=at_bd (m1_in h t) (4 * t + 3); omega)
theorem m2_in {l:List Int} (h:Pol.In 256 l):∀ t,Pol.In 256 (m2 l t)
 | 0=>h
 | t + 1=>in_set (m2_in h t) _ _ (by have:=at_bd (m2_in h t) (4 * t + 4); omega)
theorem m1_length (l:List Int):∀ t,(m1 l t).length=l.length
 | 0=>rfl
 | t + 1=>by rw [m1,List.length_set,m1_length l t]
theorem m2_length (l:List Int):∀ t,(m2 l t).length=l.length
 | 0=>rfl
 | t + 1=>by rw [m2,List.length_set,m2_length l t]
theorem by16 (b:UInt8):((Sha.by8 ((b.toNat:Int) % 16)).toNat:Int)=(b.toNat:Int) % 16:=by rw [Pol.by8_toNat]; omega
theorem by252 (b:UInt8):((Sha.by8 ((b.toNat:Int) - (b.toNat:Int) % 4)).toNat:Int)=(b.toNat:Int) - (b.toNat:Int) % 4:=by rw [Pol.by8_toNat]; have:=b.toNat_lt; omega
theorem masks (l:List UInt8) (hl:l.length=16):m2 (m1 (l.map nat8) 4) 3=(Pol.clamp l).map nat8:=by
 obtain ⟨y0,l0,rfl,g0⟩:=Pol.cons_of hl
 obtain ⟨y1,l1,rfl,g1⟩:=Pol.cons_of g0
 obtain ⟨y2,l2,rfl,g2⟩:=Pol.cons_of g1
 obtain ⟨y3,l3,rfl,g3⟩:=Pol.cons_of g2
 obtain ⟨y4,l4,rfl,g4⟩:=Pol.cons_of g3
 obtain ⟨y5,l5,rfl,g5⟩:=Pol.cons_of g4
 obtain ⟨y6,l6,rfl,g6⟩:=Pol.cons_of g5
 obtain ⟨y7,l7,rfl,g7⟩:=Pol.cons_of g6
 obtain ⟨y8,l8,rfl,g8⟩:=Pol.cons_of g7
 obtain ⟨y9,l9,rfl,g9⟩:=Pol.cons_of g8
 obtain ⟨y10,l10,rfl,g10⟩:=Pol.cons_of g9
 obtain ⟨y11,l11,rfl,g11⟩:=Pol.cons_of g10
 obtain ⟨y12,l12,rfl,g12⟩:=Pol.cons_of g11
 obtain ⟨y13,l13,rfl,g13⟩:=Pol.cons_of g12
 obtain ⟨y14,l14,rfl,g14⟩:=Pol.cons_of g13
 obtain ⟨y15,l15,rfl,g15⟩:=Pol.cons_of g14
 obtain rfl:l15=[]:=List.eq_nil_of_length_eq_zero g15
 simp [m1,m2,Pol.clamp,Pol.clampTo,Pol.cl,List.range,List.range.loop,nat8,by16,by252]
theorem nat8_in (b:List UInt8):Pol.In 256 (b.map nat8):=by
 intro x hx
 obtain ⟨y,_,rfl⟩:=List.mem_map.1 hx
 have:=y.toNat_lt
 unfold nat8
 omega
theorem nat8_D (b:List UInt8):Pol.D (b.map nat8)=Pol.le b:=(Pol.le_D b).symm
theorem piece_D (b:List UInt8):Pol.D (b.map nat8 ++ [1])=Pol.le (b ++ [1]):=by
 rw [Pol.D_append,Pol.le_append,nat8_D]
 simp [Pol.D,Pol.le]
theorem step_ref (r a y:Int) (b:List UInt8) (k:Nat) (ha:a % Pol.p=Pol.steps r b k) (hy:y % Pol.p=((a + Pol.piece b k) * r) % Pol.p):y % Pol.p=Pol.steps r b (k + 1):=by
 rw [hy,Pol.steps,<- ha]
 rw [Int.mul_emod (a + Pol.piece b k),Int.mul_emod (a % Pol.p + Pol.piece b k),Int.emod_add_emod]
theorem end_big (y:Int) (h0:0<=y) (h1:y < 1361129467683753853853498429727072845824) (h:1361129467683753853853498429727072845824<=y + 5):(y + 5) % 1361129467683753853853498429727072845824=y % Pol.p:=by
 unfold Pol.p
 omega
theorem end_small (y:Int) (h0:0<=y) (h:y + 5 < 1361129467683753853853498429727072845824):y=y % Pol.p:=by
 unfold Pol.p
 omega
open Go.RowKit
theorem lit_ints (w:World) (l:List Int) (a:Array Value) (ha:a=(l.map iv).toArray):Blk (w.alloc (.cells a 3)) w.heap.size 3 (l.map iv ++ []):=by
 rw [List.append_nil]
 exact Blk.at_new _ _ _ _ _ ha rfl
theorem sliceI_h (g n c e:Nat) (h2:e<=c) (W:World) :
  (Instr.slice 111 (.slice (some ⟨g,0,none⟩) n c) none (some (.int .i64 (e:Int))) none).run Tryz.prog W = .ok (.slice (some ⟨g,0,none⟩) e c) W:=by
 obtain ⟨i0,hi,hz0,hz1,hz2⟩:=info_parts infoI
 have hel:Tryz.prog.elem 111=3:=by kernel_rfl
 have:=run_slice_h (P:=Tryz.prog) W 111 (some ⟨g,0,none⟩) n c (by rw [hel]; exact Tryz.underlying111) .i64 (e:Int) (by omega) (by omega)
 rw [this,hel]
 simp [sizeOf,typeInfo,hi,hz1,sliced,Addr.add]
theorem rtag_any (key:List UInt8) {w:World} {A:Option Addr} {n c:Nat} {b:List UInt8} (hk:key.length=32) (hr:Rd w A n c b) (hn:n<=1000000) :
  Calls Tryz.prog 107 #[.agg (key.map cellOf).toArray,.slice A n c] w fun e w'=>e = .returned (.agg ((Pol.tag key b).map cellOf).toArray)/\Below w.heap.size w w':=by
 obtain ⟨kc,hkc⟩:=zx (key.map cellOf)
 rw [<- hkc]
 have HR:=qh hr
 have HLB:=qh hr.len
 obtain ⟨k1,hk1⟩:=zx (key.take 16)
 obtain ⟨k2,hk2⟩:=zx (key.drop 16)
 have L1:Hid (k1.length=16):=by unfold Hid; rw [hk1,List.length_take,hk]; rfl
 have L2:Hid (k2.length=16):=by unfold Hid; rw [hk2,List.length_drop,hk]
 obtain ⟨cl,hcl⟩:=zx (Pol.clamp k1)
 have LC:Hid (cl.length=16):=by unfold Hid; rw [hcl,Pol.clamp,clampTo_length,L1.out]
 obtain ⟨gk,hgk⟩:=zx (w.heap.size)
 obtain ⟨gz,hgz⟩:=zx (w.heap.size + 1)
 have K1:Hid (∀ (W:World),Blk W gk 45 kc->Rd W (some ⟨gk,0,none⟩) 16 32 k1):=fun W hB=>Rd.of_block hB L1.out (by omega) (by unfold maxLen; omega) (fun j hj=>by
  rw [hkc,hk1]
  have hj2:j < key.length:=by omega
  simp [List.getD_eq_getElem?_getD,List.getElem?_take,hj,List.getElem?_eq_getElem hj2])
 have K2:Hid (∀ (W:World),Blk W gk 45 kc->Rd W (some ⟨gk,16,none⟩) 16 16 k2):=fun W hB=>Rd.of_block hB L2.out (Nat.le_refl _) (by unfold maxLen; omega) (fun j hj=>by
  rw [hkc,hk2]
  have hj2:16 + j < key.length:=by omega
  simp [List.getD_eq_getElem?_getD,List.getElem?_drop,List.getElem?_eq_getElem hj2])
 have HTAG:Hid (Pol.tag key b=Pol.bytesN 16 (Pol.steps (Pol.le cl) b (Pol.count n) + Pol.le k2)):=by unfold Hid Pol.tag; rw [<- hk1,<- hk2,<- hcl,hr.len]
 have HCL:=qh hcl
 have hsl1:=fun W=>sliceAt_h 45 32 Tryz.underlying45 gk 0 16 (by omega) W
 rw [show ((16:Nat):Int)=16 from rfl] at hsl1
 clear hkc hk hr hk1 hk2 hcl
 go_enter Tryz.func107,Tryz.ntmps107
 go_upto_region 1 with (fail)
 obtain ⟨w0,hw0⟩:=zx ((w.alloc (Obj.cells kc.toArray 45)).alloc (Obj.cells (List.replicate 16 (.int .u8 0)).toArray 116))
 have B0:Hid (Blk w0 gk 45 kc):=by unfold Hid; rw [hw0,hgk]; exact (Blk.new w _ _).alloc _
 have Z0:Hid (Blk w0 gz 116 (List.replicate 16 (.int .u8 0))):=by unfold Hid; rw [hw0,hgz]; exact Blk.at_new _ _ _ _ _ rfl (by simp)
 have W0:Hid (Below w.heap.size w w0):=by unfold Hid; rw [hw0]; exact ((Below.refl _ _).alloc (Nat.le_refl _) _).alloc (by simp) _
 change Code.wp _ _ _ _ ((w.alloc (Obj.cells kc.toArray 45)).alloc (Obj.cells (List.replicate 16 (.int .u8 0)).toArray 116))
 rw [<- hw0,<- hgz,<- hgk]
 have hgkz:w.heap.size<=gk/\gk < gz:=by omega
 have hsz0:gz < w0.heap.size:=Z0.out.lt
 clear hw0 hgk hgz
 have HD1:=qh (rdigits_any (K1.out w0 B0.out) (by omega))
 go_wp2_with fail
 refine HD1.out.mono ?_
 rintro e w1 ⟨v1,rfl,hO1,hX1⟩
 have LD1:(k1.map nat8).length=16:=by rw [List.length_map,L1.out]
 obtain ⟨gr,cr,ex,rfl,hgr,hBr,hex,hcr,hcm⟩:=hO1.blk (by rw [LD1]; omega)
 rw [LD1] at hex hcr
 rw [LD1]
 obtain ⟨r0,hr0⟩:=zx (k1.map nat8)
 rw [<- hr0] at hBr LD1
 have HRB:=qh hBr
 have LR0:=qh LD1
 have HR0:=qh hr0
 have IR0:Hid (Pol.In 256 r0):=by unfold Hid; rw [hr0]; exact nat8_in _
 have X1:=qh hX1
 clear hX1 hO1 hBr LD1 hr0 HD1 hsl1
 go_upto_region 3 with (fail)
 obtain ⟨gl1,hgl1⟩:=zx (w1.heap.size)
 obtain ⟨w2,hw2⟩:=zx (w1.alloc (Obj.cells (([3,7,11,15]:List Int).map iv).toArray 3))
 change Code.wp _ _ _ _ (w1.alloc (Obj.cells (([3,7,11,15]:List Int).map iv).toArray 3))
 have BL1:Hid (Blk w2 gl1 3 (([3,7,11,15]:List Int).map iv ++ [])):=by unfold Hid; rw [hw2,hgl1]; exact lit_ints w1 _ _ rfl
 have BR1:Hid (Blk w2 gr 3 ((m1 r0 0).map iv ++ ex)):=by unfold Hid; rw [hw2]; exact HRB.out.alloc _
 have XB1:Hid (Below w0.heap.size w0 w2):=by unfold Hid; rw [hw2]; exact X1.out.alloc X1.out.size _
 have hne1:gr < gl1:=by rw [hgl1]; exact HRB.out.lt
 rw [<- hw2,<- hgl1]
 clear hw2 hgl1 HRB X1
 go_loopw [21] (fun j wr=>∃ t:Nat,t<=4/\j = .int .i64 t/\Hid (Blk wr gl1 3 (([3,7,11,15]:List Int).map iv ++ []))/\Hid (Blk wr gr 3 ((m1 r0 t).map iv ++ ex))/\Hid (Below w0.heap.size w0 wr)) (fun j _=>4 - (intOf j).toNat)
 case atStart=>exact ⟨0,by omega,rfl,BL1,BR1,XB1⟩
 case round =>
  clear BL1 BR1 XB1
  obtain ⟨t,ht,rfl,BL,BR,XB⟩:=hrel
  by_cases hlt:t < 4
  ·have hlb:decide ((t:Int) < 4)=true:=by simp; omega
   obtain ⟨q,hq⟩:=zx (4 * t + 3:Nat)
   have hq16:q < 16:=by omega
   have hq16i:(q:Int) < 16:=by omega
   have cl0:wr.cell? ⟨gl1,t,none⟩=some (.int .i64 (q:Int)):=by
    rw [int_at BL.out (by simp; omega),hq]
    have hc:t=0 ∨ t=1 ∨ t=2 ∨ t=3:=by omega
    rcases hc with rfl | rfl | rfl | rfl <;> rfl
   obtain ⟨m,hm⟩:=zx (m1 r0 t)
   rw [<- hm] at BR
   have LM:Hid (m.length=16):=by unfold Hid; rw [hm,m1_length,LR0.out]
   obtain ⟨x,hx⟩:=zx (m.getD q 0)
   have hxb:0<=x/\x < 256:=by rw [hx,hm]; exact at_bd (m1_in IR0.out t) q
   have cr0:wr.cell? ⟨gr,q,none⟩=some (.int .i64 x):=by rw [hx]; exact int_at BR.out (by rw [LM.out]; exact hq16)
   have fr0:wr.frozen? ⟨gr,q,none⟩=false:=BR.out.frozen _
   obtain ⟨y,hy⟩:=zx (x % 16)
   have hand:bits .and .i64 x 15=y:=by rw [hy]; exact andI15 x hxb
   have BR2:Hid (Blk (wr.setCell ⟨gr,q,none⟩ (.int .i64 y)) gr 3 ((m1 r0 (t + 1)).map iv ++ ex)):=by
    unfold Hid
    rw [m1,<- hm,<- hq,<- hx,<- hy]
    exact int_put BR.out (by rw [LM.out]; exact hq16) y
   have BL2:Hid (Blk (wr.setCell ⟨gr,q,none⟩ (.int .i64 y)) gl1 3 (([3,7,11,15]:List Int).map iv ++ [])):=BL.out.far (by show gl1 ≠ gr; omega) _
   have XB2:Hid (Below w0.heap.size w0 (wr.setCell ⟨gr,q,none⟩ (.int .i64 y))):=XB.out.setCell hgr _
   clear hq hm hx hy hxb
   go_wp2_with fail
   go_roundw
   case rel=>exact ⟨t + 1,by omega,by go_num,BL2,BR2,XB2⟩
   case measure=>simp [intOf]; omega
  ·obtain rfl:t=4:=by omega
   rw [show ((4:Nat):Int)=4 from rfl]
   obtain ⟨r1,hr1⟩:=zx (m1 r0 4)
   rw [<- hr1] at BR
   have LR1:Hid (r1.length=16):=by unfold Hid; rw [hr1,m1_length,LR0.out]
   have IR1:Hid (Pol.In 256 r1):=by unfold Hid; rw [hr1]; exact m1_in IR0.out 4
   have HR1:=qh hr1
   have HRB:=BR
   have X1:=XB
   clear hr1 BR XB BL
   obtain ⟨w3,rfl⟩:=zx (wr)
   go_upto_region 8 with (fail)
   obtain ⟨gl2,hgl2⟩:=zx (w3.heap.size)
   obtain ⟨w4,hw4⟩:=zx (w3.alloc (Obj.cells (([4,8,12]:List Int).map iv).toArray 3))
   change Code.wp _ _ _ _ (w3.alloc (Obj.cells (([4,8,12]:List Int).map iv).toArray 3))
   have BL2:Hid (Blk w4 gl2 3 (([4,8,12]:List Int).map iv ++ [])):=by unfold Hid; rw [hw4,hgl2]; exact lit_ints w3 _ _ rfl
   have BR2:Hid (Blk w4 gr 3 ((m2 r1 0).map iv ++ ex)):=by unfold Hid; rw [hw4]; exact HRB.out.alloc _
   have XB2:Hid (Below w0.heap.size w0 w4):=by unfold Hid; rw [hw4]; exact X1.out.alloc X1.out.size _
   have hne2:gr < gl2:=by rw [hgl2]; exact HRB.out.lt
   rw [<- hw4,<- hgl2]
   clear hw4 hgl2 HRB X1
   go_loopw [36] (fun j wr=>∃ t:Nat,t<=3/\j = .int .i64 t/\Hid (Blk wr gl2 3 (([4,8,12]:List Int).map iv ++ []))/\Hid (Blk wr gr 3 ((m2 r1 t).map iv ++ ex))/\Hid (Below w0.heap.size w0 wr)) (fun j _=>3 - (intOf j).toNat)
   case atStart=>exact ⟨0,by omega,rfl,BL2,BR2,XB2⟩
   case round =>
    clear BL2 BR2 XB2
    obtain ⟨t,ht,rfl,BL,BR,XB⟩:=hrel
    by_cases hlt:t < 3
    ·have hlb:decide ((t:Int) < 3)=true:=by simp; omega
     obtain ⟨q,hq⟩:=zx (4 * t + 4:Nat)
     have hq16:q < 16:=by omega
     have hq16i:(q:Int) < 16:=by omega
     have cl0:wr.cell? ⟨gl2,t,none⟩=some (.int .i64 (q:Int)):=by
      rw [int_at BL.out (by simp; omega),hq]
      have hc:t=0 ∨ t=1 ∨ t=2:=by omega
      rcases hc with rfl | rfl | rfl <;> rfl
     obtain ⟨m,hm⟩:=zx (m2 r1 t)
     rw [<- hm] at BR
     have LM:Hid (m.length=16):=by unfold Hid; rw [hm,m2_length,LR1.out]
     obtain ⟨x,hx⟩:=zx (m.getD q 0)
     have hxb:0<=x/\x < 256:=by rw [hx,hm]; exact at_bd (m2_in IR1.out t) q
     have cr0:wr.cell? ⟨gr,q,none⟩=some (.int .i64 x):=by rw [hx]; exact int_at BR.out (by rw [LM.out]; exact hq16)
     have fr0:wr.frozen? ⟨gr,q,none⟩=false:=BR.out.frozen _
     obtain ⟨y,hy⟩:=zx (x - x % 4)
     have hand:bits .and .i64 x 252=y:=by rw [hy]; exact andI252 x hxb
     have BR2:Hid (Blk (wr.setCell ⟨gr,q,none⟩ (.int .i64 y)) gr 3 ((m2 r1 (t + 1)).map iv ++ ex)):=by
      unfold Hid
      rw [m2,<- hm,<- hq,<- hx,<- hy]
      exact int_put BR.out (by rw [LM.out]; exact hq16) y
     have BL2:Hid (Blk (wr.setCell ⟨gr,q,none⟩ (.int .i64 y)) gl2 3 (([4,8,12]:List Int).map iv ++ [])):=BL.out.far (by show gl2 ≠ gr; omega) _
     have XB2:Hid (Below w0.heap.size w0 (wr.setCell ⟨gr,q,none⟩ (.int .i64 y))):=XB.out.setCell hgr _
     clear hq hm hx hy hxb
     go_wp2_with fail
     go_roundw
     case rel=>exact ⟨t + 1,by omega,by go_num,BL2,BR2,XB2⟩
     case measure=>simp [intOf]; omega
    ·obtain rfl:t=3:=by omega
     rw [show ((3:Nat):Int)=3 from rfl]
     obtain ⟨rl,hrl⟩:=zx (cl.map nat8)
     have hm2:m2 r1 3=rl:=by rw [HR1.out,HR0.out,masks k1 L1.out,<- HCL.out,hrl]
     rw [hm2] at BR
     have LRL:Hid (rl.length=16):=by unfold Hid; rw [hrl,List.length_map,LC.out]
     have IRL:Hid (Pol.In 256 rl):=by unfold Hid; rw [hrl]; exact nat8_in _
     have DRL:Hid (Pol.D rl=Pol.le cl):=by unfold Hid; rw [hrl,nat8_D]
     clear hm2 hrl BL HR1 LR1 IR1 HR0 LR0 IR0
     go_upto_region 14 with (fail)
     obtain ⟨ga,hga⟩:=zx (wr.heap.size)
     obtain ⟨w5,hw5⟩:=zx (wr.alloc (Obj.cells (([0]:List Int).map iv).toArray 3))
     change Code.wp _ _ _ _ (wr.alloc (Obj.cells (([0]:List Int).map iv).toArray 3))
     have RA:Hid (RdI w5 (some ⟨ga,0,none⟩) 1 [0]):=by unfold Hid; rw [hw5,hga]; exact RdI.of_block (lit_ints wr _ _ rfl) rfl
     have RR:Hid (RdI w5 (some ⟨gr,0,none⟩) 16 rl):=by unfold Hid; rw [hw5]; exact RdI.of_block (BR.out.alloc _) LRL.out
     have X5:Hid (Below w0.heap.size w0 w5):=by unfold Hid; rw [hw5]; exact XB.out.alloc XB.out.size _
     rw [<- hw5,<- hga]
     clear hw5 hga BR XB
     go_loopw [10,11] (fun a i wx=>∃ (k j:Nat) (Aa:Option Addr) (na ca:Nat) (la:List Int) (y:Int),a = .slice Aa na ca/\i = .int .i64 j/\Hid (j=16 * k)/\Hid (k<=Pol.count n)/\Hid (RdI wx Aa na la)/\Hid (la=Pol.dg na y)/\1<=na/\na<=17/\Hid (0<=y)/\Hid (y < 1361129467683753853853498429727072845824)/\Hid (y < 256 ^ na)/\Hid (y % Pol.p=Pol.steps (Pol.le cl) b k)/\Hid (RdI wx (some ⟨gr,0,none⟩) 16 rl)/\Hid (Below w0.heap.size w0 wx)) (fun _ i _=>(n + 16) - (intOf i).toNat)
     case atStart=>exact ⟨0,0,_,1,1,[0],0,rfl,rfl,rfl,by unfold Hid; omega,RA,rfl,by omega,by omega,by unfold Hid; omega,by unfold Hid; omega,by unfold Hid; omega,by unfold Hid; simp [Pol.steps],RR,X5⟩
     case round =>
      clear RA RR X5
      obtain ⟨k,j,Aa,na,ca,la,y,rfl,rfl,HJ,HKC,RA,HLA,hna1,hna17,HY0,HY1,HY2,HYP,RR,X5⟩:=hrel
      obtain ⟨wa,rfl⟩:=zx (wr)
      have IA:Hid (Pol.In 256 la):=by unfold Hid; rw [HLA.out]; exact Pol.dg_in _ _
      have DA:Hid (Pol.D la=y):=by unfold Hid; rw [HLA.out]; exact Pol.D_dg _ _ HY0.out HY2.out
      have WB:=qt W0 X5.out
      by_cases hlt:j < n
      ·have hlb:decide ((j:Int) < (n:Int))=true:=by simp; omega
       have hlb':decide (j < n)=true:=by simp; omega
       obtain ⟨e,he⟩:=zx (min n (j + 16):Nat)
       have hmi:(if (j:Int) + 16 < (n:Int) then (j:Int) + 16 else (n:Int))=(e:Int):=by split <;> omega
       have he1:j<=e:=by omega
       have he2:e<=n:=by omega
       have HE:=qh he
       have RB:=HR.out.below WB.out
       have hcap:=RB.cap
       have hcut:=fun W=>slice_lh A n c j e he1 (by omega) W
       have RP:=RB.cut he1 he2
       obtain ⟨pl,hpl⟩:=zx ((b.drop j).take (e - j))
       rw [<- hpl] at RP
       have HPL:Hid (pl=(b.drop (16 * k)).take 16):=by
        unfold Hid
        rw [hpl,<- HJ.out,List.take_eq_take_iff,List.length_drop,HLB.out]
        omega
       have LPL:Hid (pl.length=e - j):=RP.len
       have HDG:=qh (rdigits_any RP (by omega))
       clear he hpl RB RP
       go_wp2_with fail
       refine HDG.out.mono ?_
       rintro e6 w6 ⟨v6,rfl,hO6,hX6⟩
       have O6:=qh hO6
       have B6:=qh hX6
       have LN6:Hid ((pl.map nat8).length + 1<=1000000000):=by unfold Hid; rw [List.length_map,LPL.out]; omega
       clear hO6 hX6 hcut hmi hlb hlb' HDG
       go_upto_region 17 with (first
        | (at_builtin; refine pushI_law (y:=1) rfl (.tmp 64) (.tmp 65) rfl rfl rfl O6.out LN6.out B6.out.size B6.out ?_; intro v7 w7 O7 B7 _ _))
       obtain ⟨pc,hpc⟩:=zx (pl.map nat8 ++ [1])
       rw [<- hpc] at O7
       have LPC:pc.length=e - j + 1:=by rw [hpc,List.length_append,List.length_map,LPL.out]; rfl
       have IPC:Pol.In 256 pc:=by
        rw [hpc]
        intro x hx
        rcases List.mem_append.1 hx with h | h
        ·exact nat8_in pl x h
        ·simp at h; omega
       have DPC:Hid (Pol.D pc=Pol.piece b k):=by unfold Hid; rw [hpc,piece_D,Pol.piece,<- HPL.out]
       obtain ⟨A7,c7,rfl,R7⟩:=O7.out.value
       rw [LPC] at R7
       rw [LPC]
       obtain ⟨m7,hm7⟩:=zx (e - j + 1)
       rw [<- hm7] at R7 LPC
       rw [<- hm7]
       have hm71:m7<=17:=by have:=HE.out; omega
       have HP:=qh (rplus_any (ca:=ca) (cb:=c7) (RA.out.below B7.out) R7 IA.out IPC (by omega) (by omega))
       have hs8:=sum_lt la pc na m7 RA.out.len LPC IA.out IPC
       have HS8:=qh hs8
       have hp8:0<=Pol.D la + Pol.D pc:=by have h1:=(Pol.D_bound la IA.out).1; have h2:=(Pol.D_bound pc IPC).1; omega
       have HP8:=qh hp8
       clear O6 B6 hpc O7 R7 LPC IPC hs8 hp8 hm7
       go_wp2_with fail
       refine HP.out.mono ?_
       rintro e8 w8 ⟨v8,rfl,hO8,hX8⟩
       obtain ⟨l8,hl8⟩:=zx (Pol.dg (max na m7 + 1) (Pol.D la + Pol.D pc))
       rw [<- hl8] at hO8
       obtain ⟨n8,hn8⟩:=zx (max na m7 + 1)
       rw [<- hn8] at hl8 HS8
       have hn8b:n8<=18:=by omega
       have L8:l8.length=n8:=by rw [hl8,Pol.dg_length]
       have I8:Hid (Pol.In 256 l8):=by unfold Hid; rw [hl8]; exact Pol.dg_in _ _
       have D8:Hid (Pol.D l8=y + Pol.piece b k):=by unfold Hid; rw [hl8,Pol.D_dg _ _ HP8.out HS8.out,DA.out,DPC.out]
       obtain ⟨A8,c8,rfl,R8⟩:=hO8.value
       rw [L8] at R8
       rw [L8]
       have B8:Below wa.heap.size wa w8:=zt B7.out hX8
       have HT:=qh (rtimes_any (ca:=c8) (cb:=cr) R8 (RR.out.below B8) I8.out IRL.out (by omega) (by omega))
       have hp9:=prod_lt l8 rl n8 (n8 + 16) I8.out IRL.out (by rw [LRL.out]; omega) (by rw [L8]; omega)
       rw [List.take_of_length_le (by rw [L8]; omega)] at hp9
       have HP9:=qh hp9
       have B8':=qh B8
       clear hO8 hX8 hl8 L8 R8 B8 HP hn8 hp9 HP8 HS8
       go_wp2_with fail
       refine HT.out.mono ?_
       rintro e9 w9 ⟨v9,rfl,hO9,hX9⟩
       obtain ⟨l9,hl9⟩:=zx (Pol.dg (n8 + 16) (Pol.D l8 * Pol.D rl))
       rw [<- hl9] at hO9
       have L9:l9.length=n8 + 16:=by rw [hl9,Pol.dg_length]
       have I9:Pol.In 256 l9:=by rw [hl9]; exact Pol.dg_in _ _
       have D9:Pol.D l9=(y + Pol.piece b k) * Pol.le cl:=by rw [hl9,Pol.D_dg _ _ HP9.out.1 HP9.out.2,D8.out,DRL.out]
       obtain ⟨A9,c9,rfl,R9⟩:=hO9.value
       rw [L9] at R9
       rw [L9]
       have B9:=qt B8' hX9
       have HF:=qh (rfold_any (c:=c9) R9 I9 (by omega) (by omega))
       rw [D9] at HF
       clear hO9 hX9 hl9 L9 R9 HT I9 D9 HP9
       go_wp2_with fail
       refine HF.out.mono ?_
       rintro e10 wz ⟨mz,yz,⟨vz,rfl,hOz,hXz⟩,hz1,hz17,hz0,hzQ,hzm,hzp⟩
       have HSTEP:=qh (step_ref (Pol.le cl) y yz b k HYP.out hzp)
       obtain ⟨lz,hlz⟩:=zx (Pol.dg mz yz)
       rw [<- hlz] at hOz
       have Lz:lz.length=mz:=by rw [hlz,Pol.dg_length]
       obtain ⟨Az,cz,rfl,Rz⟩:=hOz.value
       rw [Lz] at Rz
       rw [Lz]
       have HRz:=qh Rz
       have HLz:=qh hlz
       have Bz:Below wa.heap.size wa wz:=zt B9.out hXz
       have HRR:=qh (RR.out.below Bz)
       have HXz:=qt X5 Bz
       have HKC2:Hid (k + 1<=Pol.count n):=by unfold Hid Pol.count; have:=HJ.out; omega
       have HJ2:Hid (j + 16=16 * (k + 1)):=by unfold Hid; have:=HJ.out; omega
       have Z0':=qh hz0
       have ZQ:=qh hzQ
       have ZM:=qh hzm
       clear hOz hXz hzp hlz Lz Rz Bz hz0 hzQ hzm HF
       go_wp2_with fail
       go_roundw
       case rel=>exact ⟨k + 1,j + 16,Az,mz,cz,lz,yz,rfl,by go_num,HJ2,HKC2,HRz,HLz,hz1,hz17,Z0',ZQ,ZM,HSTEP,HRR,HXz⟩
       case measure=>simp [intOf]; omega
      ·have hlb:decide ((j:Int) < (n:Int))=false:=by simp; omega
       have hlb':decide (j < n)=false:=by simp; omega
       have hkc:k=Pol.count n:=by
        have h1:=HJ.out
        have h2:=HKC.out
        unfold Pol.count at h2 ⊢
        omega
       have I5:Pol.In 256 [(5:Int)]:=fun x hx=>by simp at hx; omega
       have X6:Below wa.heap.size wa (wa.alloc (Obj.cells #[Value.int .i64 5] 3)):=(Below.refl _ _).alloc (Nat.le_refl _) _
       have R5:RdI (wa.alloc (Obj.cells #[Value.int .i64 5] 3)) (some ⟨wa.heap.size,0,none⟩) 1 [5]:=RdI.of_block (ex:=[]) (Blk.at_new _ _ _ _ _ (by rfl) rfl) rfl
       have HP:=qh (rplus_any (ca:=ca) (cb:=1) (RA.out.below X6) R5 IA.out I5 (by omega) (by omega))
       have hst:=sum_lt la [5] na 1 RA.out.len rfl IA.out I5
       rw [Nat.max_eq_left hna1,DA.out,show Pol.D [5]=5 from rfl] at HP hst
       have X6':=qh X6
       have HST:=qh hst
       have HKCE:=qh hkc
       clear R5 X6 hst I5 hkc
       go_wp2_with fail
       refine HP.out.mono ?_
       rintro et wt ⟨vt,rfl,hOt,hXt⟩
       obtain ⟨lt,hlt13⟩:=zx (Pol.dg (na + 1) (y + 5))
       rw [<- hlt13] at hOt
       have LT:lt.length=na + 1:=by rw [hlt13,Pol.dg_length]
       have hO0:=hOt
       obtain ⟨gt,ct,ext,rfl,hgt,hBt,hext,hct,hctm⟩:=hOt.blk (by rw [LT]; omega)
       obtain ⟨nt,hnt⟩:=zx (na + 1)
       rw [LT,<- hnt] at hext hct
       rw [LT,<- hnt]
       have XT:=qt X6' hXt
       have HAT:Hid (∀ j,j < nt->wt.cell? ⟨gt,j,none⟩=some (.int .i64 ((y + 5) / 256 ^ j % 256))):=fun j hj=>by
        rw [int_at hBt (by rw [LT,<- hnt]; exact hj),hlt13,<- hnt,Pol.dg_at _ _ _ hj]
       have RT:=qh hBt
       have HLT13:=qh hlt13
       have hsl2:=fun W=>sliceAt_l 45 32 Tryz.underlying45 gk 0 16 (by omega) W
       rw [show ((16:Nat):Int)=16 from rfl,show 0 + 16=16 from rfl,show 32 - 16=16 from rfl] at hsl2
       obtain ⟨z,hz⟩:=zx (y % Pol.p)
       have hkc:=HKCE.out
       clear hO0 hOt hBt hXt LT hlt13 HP hlb hlb' HKCE
       have LT13:Hid (lt.length=nt):=by unfold Hid; rw [HLT13.out,Pol.dg_length,hnt]
       have HNT:=qh hnt
       by_cases hsm:y + 5 < 1361129467683753853853498429727072845824
       ·by_cases hn15:na<=15
        ·have d1:decide ((nt:Int) > 16)=false:=by simp; omega
         have DQ:Hid (Pol.D la=z):=by unfold Hid; rw [DA.out,hz]; exact end_small y HY0.out hsm
         have HZ0:Hid (0<=z):=by unfold Hid; rw [hz]; unfold Pol.p; omega
         have HZS:Hid (z=Pol.steps (Pol.le cl) b (Pol.count n)):=by unfold Hid; rw [hz,HYP.out,hkc]
         have RQ:=qh (RA.out.below XT.out)
         have IQ:=IA
         have WQ:=qt WB XT.out
         have BQ:=(B0.out.below X5.out B0.out.lt).below XT.out (Nat.lt_of_lt_of_le B0.out.lt X5.out.size)
         have ZQ':=qh ((Z0.out.below X5.out Z0.out.lt).below XT.out (Nat.lt_of_lt_of_le Z0.out.lt X5.out.size))
         have HD2:=qh (rdigits_any (K2.out wt BQ) (by omega))
         obtain ⟨lq,rfl⟩:=zx (la)
         obtain ⟨nq,rfl⟩:=zx (na)
         obtain ⟨cq,rfl⟩:=zx (ca)
         clear hz hsm hkc BQ
         have hnt16:nt<=16:=by omega
         clear hnt
         go_upto_region 22 with (fail)
         clear d1
         go_wp2_with fail
         refine HD2.out.mono ?_
         rintro e2 x2 ⟨v2,rfl,hO2,hX2⟩
         have LQ2:(k2.map nat8).length=16:=by rw [List.length_map,L2.out]
         obtain ⟨A2,c2,rfl,R2⟩:=hO2.value
         rw [LQ2] at R2
         rw [LQ2]
         have HP2:=qh (rplus_any (ca:=cq) (cb:=c2) (RQ.out.below hX2) R2 IQ.out (nat8_in k2) (by omega) (by omega))
         have hs2:=sum_lt lq (k2.map nat8) nq 16 RQ.out.len LQ2 IQ.out (nat8_in k2)
         rw [nat8_D,DQ.out] at HP2 hs2
         obtain ⟨V,hV⟩:=zx (z + Pol.le k2)
         rw [<- hV] at HP2 hs2
         have hV0:0<=V:=by rw [hV]; have:=(Pol.le_bound k2).1; have:=HZ0.out; omega
         have HV:=qh hV
         have X2:=qt WQ hX2
         have Z2:=qh (ZQ'.out.below hX2 ZQ'.out.lt)
         have HV0:=qh hV0
         clear hO2 hX2 LQ2 R2 hV hV0 hsl2 HD2
         obtain ⟨n3,hn3⟩:=zx (max nq 16 + 1)
         rw [<- hn3] at HP2 hs2
         have HS2:=qh hs2
         have hn317:17<=n3:=by omega
         have hn318:n3<=18:=by omega
         clear hn3 hs2
         go_wp2_with fail
         refine HP2.out.mono ?_
         rintro e3 x3 ⟨v3,rfl,hO3,hX3⟩
         obtain ⟨l3,hl3⟩:=zx (Pol.dg n3 V)
         rw [<- hl3] at hO3
         have L3:l3.length=n3:=by rw [hl3,Pol.dg_length]
         obtain ⟨A3,c3,rfl,R3⟩:=hO3.value
         rw [L3] at R3
         rw [L3]
         have HR3:=qh R3
         have HL3:=qh hl3
         have X3:=qt X2 hX3
         have Z3:=qh (Z2.out.below hX3 Z2.out.lt)
         clear hO3 hX3 L3 R3 hl3 HP2 X2 Z2
         go_upto_region 24 with (fail)
         obtain ⟨go,hgo⟩:=zx (x3.heap.size)
         obtain ⟨x4,hx4⟩:=zx (x3.alloc (Obj.cells (List.replicate 16 (.int .u8 0)).toArray 116))
         change Code.wp _ _ _ _ (x3.alloc (Obj.cells (List.replicate 16 (.int .u8 0)).toArray 116))
         have O4:Hid (Blk x4 go 116 (outL V 0)):=by unfold Hid; rw [hx4,hgo]; exact Blk.at_new _ _ _ _ _ rfl rfl
         have Z4:Hid (Blk x4 gz 116 (List.replicate 16 (.int .u8 0))):=by unfold Hid; rw [hx4]; exact Z3.out.alloc _
         have X4:Hid (Below w.heap.size w x4):=by unfold Hid; rw [hx4]; exact X3.out.alloc X3.out.size _
         have R4:Hid (RdI x4 A3 n3 l3):=by unfold Hid; rw [hx4]; exact HR3.out.below ((Below.refl _ _).alloc (Nat.le_refl _) _)
         have hgzo:gz < go:=by rw [hgo]; exact Z3.out.lt
         have hgow:w.heap.size<=go:=by rw [hgo]; exact X3.out.size
         have HG3:Hid (∀ W,Below go x4 W->RdI W A3 n3 l3):=fun W hX=>by
          refine ⟨R4.out.len,fun h0=>?_⟩
          obtain ⟨bb,off,ee,hlt,hc⟩:=HR3.out.at_ h0
          obtain ⟨bb',off',ee',hlt',hc'⟩:=R4.out.at_ h0
          rw [ee] at ee'
          simp only [Option.some.injEq,Addr.mk.injEq,and_true] at ee'
          obtain ⟨rfl,rfl⟩:=ee'
          exact ⟨bb,off,ee,Nat.lt_of_lt_of_le hlt' hX.size,fun j hj=>(hX.cell (p:=⟨bb,off + j,none⟩) (by rw [hgo]; exact hlt)).trans (hc' j hj)⟩
         rw [<- hx4,<- hgo]
         clear hx4 hgo Z3 X3 HR3
         go_wp2_with fail
         go_loopw [16] (fun i wr=>∃ a:Nat,a<=16/\i = .int .i64 a/\Hid (Blk wr go 116 (outL V a))/\Hid (Below go x4 wr)) (fun i _=>16 - (intOf i).toNat)
         case atStart=>exact ⟨0,by omega,rfl,O4,Below.refl _ _⟩
         case round =>
          clear O4
          obtain ⟨a,ha,rfl,BO,BX⟩:=hrel
          by_cases hla:a < 16
          ·have d1:decide ((a:Int) < 16)=true:=by simp; omega
           have d2:decide ((a:Int) < (n3:Int))=true:=by simp; omega
           have d2':decide (a < n3)=true:=by simp; omega
           have hai:(a:Int) < 16:=by omega
           have han:(a:Int) < (n3:Int):=by omega
           obtain ⟨bb,off,hA3,_,hc⟩:=(HG3.out wr BX.out).at_ (by omega)
           have c4:wr.cell? ⟨bb,off + a,none⟩=some (.int .i64 (V / 256 ^ a % 256)):=by rw [hc a (by omega),HL3.out,Pol.dg_at n3 V a (by omega)]
           obtain ⟨u,hu⟩:=zx (V / 256 ^ a % 256)
           have hu0:0<=u:=by omega
           have hu1:u < 256:=by omega
           have co:wr.cell? ⟨go,a,none⟩=some (.int .u8 0):=by rw [BO.out.cell]; exact outL_at V a hla
           have fo:wr.frozen? ⟨go,a,none⟩=false:=BO.out.frozen _
           have BO2:Hid (Blk (wr.setCell ⟨go,a,none⟩ (.int .u8 u)) go 116 (outL V (a + 1))):=by
            unfold Hid
            rw [<- outL_set V a hla,cell_by8p,<- hu]
            exact BO.out.set_ a _
           have BX2:Hid (Below go x4 (wr.setCell ⟨go,a,none⟩ (.int .u8 u))):=BX.out.setCell (Nat.le_refl _) _
           rw [<- hu] at c4
           clear hu hc
           subst hA3
           go_wp2_with fail
           go_roundw
           case rel=>exact ⟨a + 1,by omega,by go_num,BO2,BX2⟩
           case measure=>simp [intOf]; omega
          ·obtain rfl:a=16:=by omega
           rw [show ((16:Nat):Int)=16 from rfl]
           obtain ⟨D,hD⟩:=zx ((Pol.tag key b).map cellOf)
           have hBD:Blk wr go 116 D:=by
            have:=BO.out
            rw [outL_full,HV.out,HZS.out,<- HTAG.out,<- hD] at this
            exact this
           have hDl:D.length=16:=by rw [hD,List.length_map,HTAG.out,Pol.bytesN_length]
           have ID:Hid ((Tryz.prog.info? 116).map (·.size)=some D.length):=by unfold Hid; rw [hDl]; kernel_rfl
           have LD:Hid ((List.replicate 16 (Value.int .u8 0)).length=D.length):=by unfold Hid; rw [hDl]; rfl
           have OD:Hid (∀ v ∈ D,v.oneCell'=true):=by unfold Hid; rw [hD]; exact cells_u8 _
           have HD:=qh hD
           have BD:=qh hBD
           have ZF:=qh (Z4.out.below BX.out hgzo)
           have WF:=qh (X4.out.trans (BX.out.mono hgow))
           clear hDl hD hBD BO BX
           go_wp2_with (first
            | ((with_reducible refine load_law rfl 116 (.tmp 15) rfl go 0 rfl D _ Tryz.underlying116 rfl ID.out BD.out.cells ?_))
            | ((with_reducible refine storeGen_law rfl 116 (.tmp 4) (.tmp 125) rfl gz rfl D rfl 116 (List.replicate 16 (Value.int .u8 0)) ID.out LD.out OD.out w.heap.size w ZF.out WF.out (by omega) ?_); intro w7 B7 W7))
           exact bodyPost_ret (results_cell_row rfl _ _ gz 116 D.toArray (0,0) _ rfl B7.out Tryz.underlying116 rfl (by rw [ID.out]; simp)) rfl ⟨by rw [HD.out],W7.out⟩
        ·have d1:decide ((nt:Int) > 16)=true:=by simp; omega
         have h16i:(16:Int) < (nt:Int):=by omega
         obtain ⟨t16,ht16⟩:=zx ((y + 5) / 256 ^ 16 % 256)
         have c16:=HAT.out 16 (by omega)
         rw [<- ht16] at c16
         rw [show (256:Int) ^ 16=340282366920938463463374607431768211456 from rfl] at ht16
         have hy0:=HY0.out
         have d2:decide (t16 ≥ 4)=false:=by simp; omega
         clear ht16
         by_cases hn16:na=16
         ·have d3:decide ((nt:Int) > 17)=false:=by simp; omega
          have hnt17:nt<=17:=by omega
          have DQ:Hid (Pol.D la=z):=by unfold Hid; rw [DA.out,hz]; exact end_small y HY0.out hsm
          have HZ0:Hid (0<=z):=by unfold Hid; rw [hz]; unfold Pol.p; omega
          have HZS:Hid (z=Pol.steps (Pol.le cl) b (Pol.count n)):=by unfold Hid; rw [hz,HYP.out,hkc]
          have RQ:=qh (RA.out.below XT.out)
          have IQ:=IA
          have WQ:=qt WB XT.out
          have BQ:=(B0.out.below X5.out B0.out.lt).below XT.out (Nat.lt_of_lt_of_le B0.out.lt X5.out.size)
          have ZQ':=qh ((Z0.out.below X5.out Z0.out.lt).below XT.out (Nat.lt_of_lt_of_le Z0.out.lt X5.out.size))
          have HD2:=qh (rdigits_any (K2.out wt BQ) (by omega))
          obtain ⟨lq,rfl⟩:=zx (la)
          obtain ⟨nq,rfl⟩:=zx (na)
          obtain ⟨cq,rfl⟩:=zx (ca)
          clear hz hsm hkc BQ
          clear hnt hn16
          go_upto_region 22 with (fail)
          clear d1 d2 d3 c16
          go_wp2_with fail
          refine HD2.out.mono ?_
          rintro e2 x2 ⟨v2,rfl,hO2,hX2⟩
          have LQ2:(k2.map nat8).length=16:=by rw [List.length_map,L2.out]
          obtain ⟨A2,c2,rfl,R2⟩:=hO2.value
          rw [LQ2] at R2
          rw [LQ2]
          have HP2:=qh (rplus_any (ca:=cq) (cb:=c2) (RQ.out.below hX2) R2 IQ.out (nat8_in k2) (by omega) (by omega))
          have hs2:=sum_lt lq (k2.map nat8) nq 16 RQ.out.len LQ2 IQ.out (nat8_in k2)
          rw [nat8_D,DQ.out] at HP2 hs2
          obtain ⟨V,hV⟩:=zx (z + Pol.le k2)
          rw [<- hV] at HP2 hs2
          have hV0:0<=V:=by rw [hV]; have:=(Pol.le_bound k2).1; have:=HZ0.out; omega
          have HV:=qh hV
          have X2:=qt WQ hX2
          have Z2:=qh (ZQ'.out.below hX2 ZQ'.out.lt)
          have HV0:=qh hV0
          clear hO2 hX2 LQ2 R2 hV hV0 hsl2 HD2
          obtain ⟨n3,hn3⟩:=zx (max nq 16 + 1)
          rw [<- hn3] at HP2 hs2
          have HS2:=qh hs2
          have hn317:17<=n3:=by omega
          have hn318:n3<=18:=by omega
          clear hn3 hs2
          go_wp2_with fail
          refine HP2.out.mono ?_
          rintro e3 x3 ⟨v3,rfl,hO3,hX3⟩
          obtain ⟨l3,hl3⟩:=zx (Pol.dg n3 V)
          rw [<- hl3] at hO3
          have L3:l3.length=n3:=by rw [hl3,Pol.dg_length]
          obtain ⟨A3,c3,rfl,R3⟩:=hO3.value
          rw [L3] at R3
          rw [L3]
          have HR3:=qh R3
          have HL3:=qh hl3
          have X3:=qt X2 hX3
          have Z3:=qh (Z2.out.below hX3 Z2.out.lt)
          clear hO3 hX3 L3 R3 hl3 HP2 X2 Z2
          go_upto_region 24 with (fail)
          obtain ⟨go,hgo⟩:=zx (x3.heap.size)
          obtain ⟨x4,hx4⟩:=zx (x3.alloc (Obj.cells (List.replicate 16 (.int .u8 0)).toArray 116))
          change Code.wp _ _ _ _ (x3.alloc (Obj.cells (List.replicate 16 (.int .u8 0)).toArray 116))
          have O4:Hid (Blk x4 go 116 (outL V 0)):=by unfold Hid; rw [hx4,hgo]; exact Blk.at_new _ _ _ _ _ rfl rfl
          have Z4:Hid (Blk x4 gz 116 (List.replicate 16 (.int .u8 0))):=by unfold Hid; rw [hx4]; exact Z3.out.alloc _
          have X4:Hid (Below w.heap.size w x4):=by unfold Hid; rw [hx4]; exact X3.out.alloc X3.out.size _
          have R4:Hid (RdI x4 A3 n3 l3):=by unfold Hid; rw [hx4]; exact HR3.out.below ((Below.refl _ _).alloc (Nat.le_refl _) _)
          have hgzo:gz < go:=by rw [hgo]; exact Z3.out.lt
          have hgow:w.heap.size<=go:=by rw [hgo]; exact X3.out.size
          have HG3:Hid (∀ W,Below go x4 W->RdI W A3 n3 l3):=fun W hX=>by
           refine ⟨R4.out.len,fun h0=>?_⟩
           obtain ⟨bb,off,ee,hlt,hc⟩:=HR3.out.at_ h0
           obtain ⟨bb',off',ee',hlt',hc'⟩:=R4.out.at_ h0
           rw [ee] at ee'
           simp only [Option.some.injEq,Addr.mk.injEq,and_true] at ee'
           obtain ⟨rfl,rfl⟩:=ee'
           exact ⟨bb,off,ee,Nat.lt_of_lt_of_le hlt' hX.size,fun j hj=>(hX.cell (p:=⟨bb,off + j,none⟩) (by rw [hgo]; exact hlt)).trans (hc' j hj)⟩
          rw [<- hx4,<- hgo]
          clear hx4 hgo Z3 X3 HR3
          go_wp2_with fail
          go_loopw [16] (fun i wr=>∃ a:Nat,a<=16/\i = .int .i64 a/\Hid (Blk wr go 116 (outL V a))/\Hid (Below go x4 wr)) (fun i _=>16 - (intOf i).toNat)
          case atStart=>exact ⟨0,by omega,rfl,O4,Below.refl _ _⟩
          case round =>
           clear O4
           obtain ⟨a,ha,rfl,BO,BX⟩:=hrel
           by_cases hla:a < 16
           ·have d1:decide ((a:Int) < 16)=true:=by simp; omega
            have d2:decide ((a:Int) < (n3:Int))=true:=by simp; omega
            have d2':decide (a < n3)=true:=by simp; omega
            have hai:(a:Int) < 16:=by omega
            have han:(a:Int) < (n3:Int):=by omega
            obtain ⟨bb,off,hA3,_,hc⟩:=(HG3.out wr BX.out).at_ (by omega)
            have c4:wr.cell? ⟨bb,off + a,none⟩=some (.int .i64 (V / 256 ^ a % 256)):=by rw [hc a (by omega),HL3.out,Pol.dg_at n3 V a (by omega)]
            obtain ⟨u,hu⟩:=zx (V / 256 ^ a % 256)
            have hu0:0<=u:=by omega
            have hu1:u < 256:=by omega
            have co:wr.cell? ⟨go,a,none⟩=some (.int .u8 0):=by rw [BO.out.cell]; exact outL_at V a hla
            have fo:wr.frozen? ⟨go,a,none⟩=false:=BO.out.frozen _
            have BO2:Hid (Blk (wr.setCell ⟨go,a,none⟩ (.int .u8 u)) go 116 (outL V (a + 1))):=by
             unfold Hid
             rw [<- outL_set V a hla,cell_by8p,<- hu]
             exact BO.out.set_ a _
            have BX2:Hid (Below go x4 (wr.setCell ⟨go,a,none⟩ (.int .u8 u))):=BX.out.setCell (Nat.le_refl _) _
            rw [<- hu] at c4
            clear hu hc
            subst hA3
            go_wp2_with fail
            go_roundw
            case rel=>exact ⟨a + 1,by omega,by go_num,BO2,BX2⟩
            case measure=>simp [intOf]; omega
           ·obtain rfl:a=16:=by omega
            rw [show ((16:Nat):Int)=16 from rfl]
            obtain ⟨D,hD⟩:=zx ((Pol.tag key b).map cellOf)
            have hBD:Blk wr go 116 D:=by
             have:=BO.out
             rw [outL_full,HV.out,HZS.out,<- HTAG.out,<- hD] at this
             exact this
            have hDl:D.length=16:=by rw [hD,List.length_map,HTAG.out,Pol.bytesN_length]
            have ID:Hid ((Tryz.prog.info? 116).map (·.size)=some D.length):=by unfold Hid; rw [hDl]; kernel_rfl
            have LD:Hid ((List.replicate 16 (Value.int .u8 0)).length=D.length):=by unfold Hid; rw [hDl]; rfl
            have OD:Hid (∀ v ∈ D,v.oneCell'=true):=by unfold Hid; rw [hD]; exact cells_u8 _
            have HD:=qh hD
            have BD:=qh hBD
            have ZF:=qh (Z4.out.below BX.out hgzo)
            have WF:=qh (X4.out.trans (BX.out.mono hgow))
            clear hDl hD hBD BO BX
            go_wp2_with (first
             | ((with_reducible refine load_law rfl 116 (.tmp 15) rfl go 0 rfl D _ Tryz.underlying116 rfl ID.out BD.out.cells ?_))
             | ((with_reducible refine storeGen_law rfl 116 (.tmp 4) (.tmp 125) rfl gz rfl D rfl 116 (List.replicate 16 (Value.int .u8 0)) ID.out LD.out OD.out w.heap.size w ZF.out WF.out (by omega) ?_); intro w7 B7 W7))
            exact bodyPost_ret (results_cell_row rfl _ _ gz 116 D.toArray (0,0) _ rfl B7.out Tryz.underlying116 rfl (by rw [ID.out]; simp)) rfl ⟨by rw [HD.out],W7.out⟩
         ·have d3:decide ((nt:Int) > 17)=true:=by simp; omega
          have h17i:(17:Int) < (nt:Int):=by omega
          have c17:=HAT.out 17 (by omega)
          have e17:(y + 5) / 256 ^ 17 % 256=0:=by
           rw [show (256:Int) ^ 17=87112285931760246646623899502532662132736 from rfl]
           omega
          rw [e17] at c17
          have DQ:Hid (Pol.D la=z):=by unfold Hid; rw [DA.out,hz]; exact end_small y HY0.out hsm
          have HZ0:Hid (0<=z):=by unfold Hid; rw [hz]; unfold Pol.p; omega
          have HZS:Hid (z=Pol.steps (Pol.le cl) b (Pol.count n)):=by unfold Hid; rw [hz,HYP.out,hkc]
          have RQ:=qh (RA.out.below XT.out)
          have IQ:=IA
          have WQ:=qt WB XT.out
          have BQ:=(B0.out.below X5.out B0.out.lt).below XT.out (Nat.lt_of_lt_of_le B0.out.lt X5.out.size)
          have ZQ':=qh ((Z0.out.below X5.out Z0.out.lt).below XT.out (Nat.lt_of_lt_of_le Z0.out.lt X5.out.size))
          have HD2:=qh (rdigits_any (K2.out wt BQ) (by omega))
          obtain ⟨lq,rfl⟩:=zx (la)
          obtain ⟨nq,rfl⟩:=zx (na)
          obtain ⟨cq,rfl⟩:=zx (ca)
          clear hz hsm hkc BQ
          clear hnt hn16 e17
          go_upto_region 22 with (fail)
          clear d1 d2 d3 c16 c17
          go_wp2_with fail
          refine HD2.out.mono ?_
          rintro e2 x2 ⟨v2,rfl,hO2,hX2⟩
          have LQ2:(k2.map nat8).length=16:=by rw [List.length_map,L2.out]
          obtain ⟨A2,c2,rfl,R2⟩:=hO2.value
          rw [LQ2] at R2
          rw [LQ2]
          have HP2:=qh (rplus_any (ca:=cq) (cb:=c2) (RQ.out.below hX2) R2 IQ.out (nat8_in k2) (by omega) (by omega))
          have hs2:=sum_lt lq (k2.map nat8) nq 16 RQ.out.len LQ2 IQ.out (nat8_in k2)
          rw [nat8_D,DQ.out] at HP2 hs2
          obtain ⟨V,hV⟩:=zx (z + Pol.le k2)
          rw [<- hV] at HP2 hs2
          have hV0:0<=V:=by rw [hV]; have:=(Pol.le_bound k2).1; have:=HZ0.out; omega
          have HV:=qh hV
          have X2:=qt WQ hX2
          have Z2:=qh (ZQ'.out.below hX2 ZQ'.out.lt)
          have HV0:=qh hV0
          clear hO2 hX2 LQ2 R2 hV hV0 hsl2 HD2
          obtain ⟨n3,hn3⟩:=zx (max nq 16 + 1)
          rw [<- hn3] at HP2 hs2
          have HS2:=qh hs2
          have hn317:17<=n3:=by omega
          have hn318:n3<=18:=by omega
          clear hn3 hs2
          go_wp2_with fail
          refine HP2.out.mono ?_
          rintro e3 x3 ⟨v3,rfl,hO3,hX3⟩
          obtain ⟨l3,hl3⟩:=zx (Pol.dg n3 V)
          rw [<- hl3] at hO3
          have L3:l3.length=n3:=by rw [hl3,Pol.dg_length]
          obtain ⟨A3,c3,rfl,R3⟩:=hO3.value
          rw [L3] at R3
          rw [L3]
          have HR3:=qh R3
          have HL3:=qh hl3
          have X3:=qt X2 hX3
          have Z3:=qh (Z2.out.below hX3 Z2.out.lt)
          clear hO3 hX3 L3 R3 hl3 HP2 X2 Z2
          go_upto_region 24 with (fail)
          obtain ⟨go,hgo⟩:=zx (x3.heap.size)
          obtain ⟨x4,hx4⟩:=zx (x3.alloc (Obj.cells (List.replicate 16 (.int .u8 0)).toArray 116))
          change Code.wp _ _ _ _ (x3.alloc (Obj.cells (List.replicate 16 (.int .u8 0)).toArray 116))
          have O4:Hid (Blk x4 go 116 (outL V 0)):=by unfold Hid; rw [hx4,hgo]; exact Blk.at_new _ _ _ _ _ rfl rfl
          have Z4:Hid (Blk x4 gz 116 (List.replicate 16 (.int .u8 0))):=by unfold Hid; rw [hx4]; exact Z3.out.alloc _
          have X4:Hid (Below w.heap.size w x4):=by unfold Hid; rw [hx4]; exact X3.out.alloc X3.out.size _
          have R4:Hid (RdI x4 A3 n3 l3):=by unfold Hid; rw [hx4]; exact HR3.out.below ((Below.refl _ _).alloc (Nat.le_refl _) _)
          have hgzo:gz < go:=by rw [hgo]; exact Z3.out.lt
          have hgow:w.heap.size<=go:=by rw [hgo]; exact X3.out.size
          have HG3:Hid (∀ W,Below go x4 W->RdI W A3 n3 l3):=fun W hX=>by
           refine ⟨R4.out.len,fun h0=>?_⟩
           obtain ⟨bb,off,ee,hlt,hc⟩:=HR3.out.at_ h0
           obtain ⟨bb',off',ee',hlt',hc'⟩:=R4.out.at_ h0
           rw [ee] at ee'
           simp only [Option.some.injEq,Addr.mk.injEq,and_true] at ee'
           obtain ⟨rfl,rfl⟩:=ee'
           exact ⟨bb,off,ee,Nat.lt_of_lt_of_le hlt' hX.size,fun j hj=>(hX.cell (p:=⟨bb,off + j,none⟩) (by rw [hgo]; exact hlt)).trans (hc' j hj)⟩
          rw [<- hx4,<- hgo]
          clear hx4 hgo Z3 X3 HR3
          go_wp2_with fail
          go_loopw [16] (fun i wr=>∃ a:Nat,a<=16/\i = .int .i64 a/\Hid (Blk wr go 116 (outL V a))/\Hid (Below go x4 wr)) (fun i _=>16 - (intOf i).toNat)
          case atStart=>exact ⟨0,by omega,rfl,O4,Below.refl _ _⟩
          case round =>
           clear O4
           obtain ⟨a,ha,rfl,BO,BX⟩:=hrel
           by_cases hla:a < 16
           ·have d1:decide ((a:Int) < 16)=true:=by simp; omega
            have d2:decide ((a:Int) < (n3:Int))=true:=by simp; omega
            have d2':decide (a < n3)=true:=by simp; omega
            have hai:(a:Int) < 16:=by omega
            have han:(a:Int) < (n3:Int):=by omega
            obtain ⟨bb,off,hA3,_,hc⟩:=(HG3.out wr BX.out).at_ (by omega)
            have c4:wr.cell? ⟨bb,off + a,none⟩=some (.int .i64 (V / 256 ^ a % 256)):=by rw [hc a (by omega),HL3.out,Pol.dg_at n3 V a (by omega)]
            obtain ⟨u,hu⟩:=zx (V / 256 ^ a % 256)
            have hu0:0<=u:=by omega
            have hu1:u < 256:=by omega
            have co:wr.cell? ⟨go,a,none⟩=some (.int .u8 0):=by rw [BO.out.cell]; exact outL_at V a hla
            have fo:wr.frozen? ⟨go,a,none⟩=false:=BO.out.frozen _
            have BO2:Hid (Blk (wr.setCell ⟨go,a,none⟩ (.int .u8 u)) go 116 (outL V (a + 1))):=by
             unfold Hid
             rw [<- outL_set V a hla,cell_by8p,<- hu]
             exact BO.out.set_ a _
            have BX2:Hid (Below go x4 (wr.setCell ⟨go,a,none⟩ (.int .u8 u))):=BX.out.setCell (Nat.le_refl _) _
            rw [<- hu] at c4
            clear hu hc
            subst hA3
            go_wp2_with fail
            go_roundw
            case rel=>exact ⟨a + 1,by omega,by go_num,BO2,BX2⟩
            case measure=>simp [intOf]; omega
           ·obtain rfl:a=16:=by omega
            rw [show ((16:Nat):Int)=16 from rfl]
            obtain ⟨D,hD⟩:=zx ((Pol.tag key b).map cellOf)
            have hBD:Blk wr go 116 D:=by
             have:=BO.out
             rw [outL_full,HV.out,HZS.out,<- HTAG.out,<- hD] at this
             exact this
            have hDl:D.length=16:=by rw [hD,List.length_map,HTAG.out,Pol.bytesN_length]
            have ID:Hid ((Tryz.prog.info? 116).map (·.size)=some D.length):=by unfold Hid; rw [hDl]; kernel_rfl
            have LD:Hid ((List.replicate 16 (Value.int .u8 0)).length=D.length):=by unfold Hid; rw [hDl]; rfl
            have OD:Hid (∀ v ∈ D,v.oneCell'=true):=by unfold Hid; rw [hD]; exact cells_u8 _
            have HD:=qh hD
            have BD:=qh hBD
            have ZF:=qh (Z4.out.below BX.out hgzo)
            have WF:=qh (X4.out.trans (BX.out.mono hgow))
            clear hDl hD hBD BO BX
            go_wp2_with (first
             | ((with_reducible refine load_law rfl 116 (.tmp 15) rfl go 0 rfl D _ Tryz.underlying116 rfl ID.out BD.out.cells ?_))
             | ((with_reducible refine storeGen_law rfl 116 (.tmp 4) (.tmp 125) rfl gz rfl D rfl 116 (List.replicate 16 (Value.int .u8 0)) ID.out LD.out OD.out w.heap.size w ZF.out WF.out (by omega) ?_); intro w7 B7 W7))
            exact bodyPost_ret (results_cell_row rfl _ _ gz 116 D.toArray (0,0) _ rfl B7.out Tryz.underlying116 rfl (by rw [ID.out]; simp)) rfl ⟨by rw [HD.out],W7.out⟩
       ·have hna:na=17:=by
         rcases Nat.lt_or_ge na 17 with h | h
         ·exfalso
          have h1:=powmono (show na<=16 by omega)
          rw [show (256:Int) ^ 16=340282366920938463463374607431768211456 from rfl] at h1
          have h2:=HY2.out
          omega
         ·omega
        have d1:decide ((nt:Int) > 16)=true:=by simp; omega
        have h16i:(16:Int) < (nt:Int):=by omega
        have hy0:=HY0.out
        have hyQ:=HY1.out
        obtain ⟨t16,ht16⟩:=zx ((y + 5) / 256 ^ 16 % 256)
        have c16:=HAT.out 16 (by omega)
        have f16:wt.frozen? ⟨gt,16,none⟩=false:=RT.out.frozen _
        rw [<- ht16] at c16
        have HT16:=qh ht16
        rw [show (256:Int) ^ 16=340282366920938463463374607431768211456 from rfl] at ht16
        have d2:decide (t16 ≥ 4)=true:=by simp; omega
        have ht0:0<=t16:=by omega
        have ht1:t16 < 256:=by omega
        have hct18:18<=ct:=by omega
        have hsl17:=fun W=>sliceI_h gt nt ct 17 (by omega) W
        rw [show ((17:Nat):Int)=17 from rfl] at hsl17
        have hnt18:nt=18:=by omega
        have BT2:Hid (Blk (wt.setCell ⟨gt,16,none⟩ (.int .i64 (t16 % 4))) gt 3 ((lt.set 16 (t16 % 4)).map iv ++ ext)):=int_put RT.out (by rw [LT13.out]; omega) _
        have XT2:Hid (Below wa.heap.size wa (wt.setCell ⟨gt,16,none⟩ (.int .i64 (t16 % 4)))):=XT.out.setCell (Nat.le_trans X6'.out.size hgt) _
        have HLQ:Hid (∀ j,j < 17->(lt.set 16 (t16 % 4)).getD j 0=(Pol.dg 17 ((y + 5) % 1361129467683753853853498429727072845824)).getD j 0):=fun j hj=>by
         have hl:=Pol.loF_dg 18 (y + 5) (by omega) (by rw [show (256:Int) ^ 18=22300745198530623141535718272648361505980416 from rfl]; omega)
         rw [show min 18 17=17 from rfl] at hl
         rw [<- hl,Pol.getD_set,HLT13.out,<- hnt,hnt18]
         have e1:(Pol.loF (Pol.dg 18 (y + 5)) 18).getD j 0=if j < 16 then (Pol.dg 18 (y + 5)).getD j 0 else (Pol.dg 18 (y + 5)).getD j 0 % 4:=by
          simp [Pol.loF,List.getD_eq_getElem?_getD,hj]
         rw [e1]
         by_cases h16:j < 16
         ·rw [if_neg (by omega),if_pos h16]
         ·obtain rfl:j=16:=by omega
          rw [if_pos ⟨rfl,by rw [Pol.dg_length]; omega⟩,if_neg (by omega),Pol.dg_at 18 _ 16 (by omega),HT16.out]
        obtain ⟨lq,hlq⟩:=zx (Pol.dg 17 ((y + 5) % 1361129467683753853853498429727072845824))
        rw [<- hlq] at HLQ
        have hbg:1361129467683753853853498429727072845824<=y + 5:=by omega
        have DQ:Hid (Pol.D lq=z):=by
         unfold Hid
         rw [hlq,hz,<- end_big y hy0 hyQ hbg]
         exact Pol.D_dg 17 _ (by omega) (by rw [show (256:Int) ^ 17=87112285931760246646623899502532662132736 from rfl]; omega)
        have IQ:Hid (Pol.In 256 lq):=by unfold Hid; rw [hlq]; exact Pol.dg_in _ _
        have HZ0:Hid (0<=z):=by unfold Hid; rw [hz]; unfold Pol.p; omega
        have HZS:Hid (z=Pol.steps (Pol.le cl) b (Pol.count n)):=by unfold Hid; rw [hz,HYP.out,hkc]
        have LQ17:lq.length=17:=by rw [hlq,Pol.dg_length]
        have RQ:Hid (RdI (wt.setCell ⟨gt,16,none⟩ (.int .i64 (t16 % 4))) (some ⟨gt,0,none⟩) 17 lq) :=
         ⟨LQ17,fun _=>⟨gt,0,rfl,BT2.out.lt,fun j hj=>by rw [Nat.zero_add,int_at BT2.out (by rw [List.length_set,LT13.out]; omega),HLQ.out j hj]⟩⟩
        have WQ:=qt WB XT2.out
        have BQ:=(B0.out.below X5.out B0.out.lt).below XT2.out (Nat.lt_of_lt_of_le B0.out.lt X5.out.size)
        have ZQ':=qh ((Z0.out.below X5.out Z0.out.lt).below XT2.out (Nat.lt_of_lt_of_le Z0.out.lt X5.out.size))
        have HD2:=qh (rdigits_any (K2.out _ BQ) (by omega))
        obtain ⟨nq,hnq⟩:=zx (17)
        obtain ⟨cq,rfl⟩:=zx (ct)
        rw [<- hnq] at RQ hsl17
        have hnq17:nq<=17:=by omega
        clear hz hsm hkc BQ hna hyQ ht16 hlq hbg LQ17 hnt hnt18 hnq HLQ XT2 BT2
        go_upto_region 21 with (fail)
        generalize wt.setCell ⟨gt,16,none⟩ (.int .i64 (t16 % 4))=w20 at *
        clear c16 f16 d1 d2
        go_upto_region 22 with (fail)
        clear hsl17
        go_wp2_with fail
        refine HD2.out.mono ?_
        rintro e2 x2 ⟨v2,rfl,hO2,hX2⟩
        have LQ2:(k2.map nat8).length=16:=by rw [List.length_map,L2.out]
        obtain ⟨A2,c2,rfl,R2⟩:=hO2.value
        rw [LQ2] at R2
        rw [LQ2]
        have HP2:=qh (rplus_any (ca:=cq) (cb:=c2) (RQ.out.below hX2) R2 IQ.out (nat8_in k2) (by omega) (by omega))
        have hs2:=sum_lt lq (k2.map nat8) nq 16 RQ.out.len LQ2 IQ.out (nat8_in k2)
        rw [nat8_D,DQ.out] at HP2 hs2
        obtain ⟨V,hV⟩:=zx (z + Pol.le k2)
        rw [<- hV] at HP2 hs2
        have hV0:0<=V:=by rw [hV]; have:=(Pol.le_bound k2).1; have:=HZ0.out; omega
        have HV:=qh hV
        have X2:=qt WQ hX2
        have Z2:=qh (ZQ'.out.below hX2 ZQ'.out.lt)
        have HV0:=qh hV0
        clear hO2 hX2 LQ2 R2 hV hV0 hsl2 HD2
        obtain ⟨n3,hn3⟩:=zx (max nq 16 + 1)
        rw [<- hn3] at HP2 hs2
        have HS2:=qh hs2
        have hn317:17<=n3:=by omega
        have hn318:n3<=18:=by omega
        clear hn3 hs2
        go_wp2_with fail
        refine HP2.out.mono ?_
        rintro e3 x3 ⟨v3,rfl,hO3,hX3⟩
        obtain ⟨l3,hl3⟩:=zx (Pol.dg n3 V)
        rw [<- hl3] at hO3
        have L3:l3.length=n3:=by rw [hl3,Pol.dg_length]
        obtain ⟨A3,c3,rfl,R3⟩:=hO3.value
        rw [L3] at R3
        rw [L3]
        have HR3:=qh R3
        have HL3:=qh hl3
        have X3:=qt X2 hX3
        have Z3:=qh (Z2.out.below hX3 Z2.out.lt)
        clear hO3 hX3 L3 R3 hl3 HP2 X2 Z2
        go_upto_region 24 with (fail)
        obtain ⟨go,hgo⟩:=zx (x3.heap.size)
        obtain ⟨x4,hx4⟩:=zx (x3.alloc (Obj.cells (List.replicate 16 (.int .u8 0)).toArray 116))
        change Code.wp _ _ _ _ (x3.alloc (Obj.cells (List.replicate 16 (.int .u8 0)).toArray 116))
        have O4:Hid (Blk x4 go 116 (outL V 0)):=by unfold Hid; rw [hx4,hgo]; exact Blk.at_new _ _ _ _ _ rfl rfl
        have Z4:Hid (Blk x4 gz 116 (List.replicate 16 (.int .u8 0))):=by unfold Hid; rw [hx4]; exact Z3.out.alloc _
        have X4:Hid (Below w.heap.size w x4):=by unfold Hid; rw [hx4]; exact X3.out.alloc X3.out.size _
        have R4:Hid (RdI x4 A3 n3 l3):=by unfold Hid; rw [hx4]; exact HR3.out.below ((Below.refl _ _).alloc (Nat.le_refl _) _)
        have hgzo:gz < go:=by rw [hgo]; exact Z3.out.lt
        have hgow:w.heap.size<=go:=by rw [hgo]; exact X3.out.size
        have HG3:Hid (∀ W,Below go x4 W->RdI W A3 n3 l3):=fun W hX=>by
         refine ⟨R4.out.len,fun h0=>?_⟩
         obtain ⟨bb,off,ee,hlt,hc⟩:=HR3.out.at_ h0
         obtain ⟨bb',off',ee',hlt',hc'⟩:=R4.out.at_ h0
         rw [ee] at ee'
         simp only [Option.some.injEq,Addr.mk.injEq,and_true] at ee'
         obtain ⟨rfl,rfl⟩:=ee'
         exact ⟨bb,off,ee,Nat.lt_of_lt_of_le hlt' hX.size,fun j hj=>(hX.cell (p:=⟨bb,off + j,none⟩) (by rw [hgo]; exact hlt)).trans (hc' j hj)⟩
        rw [<- hx4,<- hgo]
        clear hx4 hgo Z3 X3 HR3
        go_wp2_with fail
        go_loopw [16] (fun i wr=>∃ a:Nat,a<=16/\i = .int .i64 a/\Hid (Blk wr go 116 (outL V a))/\Hid (Below go x4 wr)) (fun i _=>16 - (intOf i).toNat)
        case atStart=>exact ⟨0,by omega,rfl,O4,Below.refl _ _⟩
        case round =>
         clear O4
         obtain ⟨a,ha,rfl,BO,BX⟩:=hrel
         by_cases hla:a < 16
         ·have d1:decide ((a:Int) < 16)=true:=by simp; omega
          have d2:decide ((a:Int) < (n3:Int))=true:=by simp; omega
          have d2':decide (a < n3)=true:=by simp; omega
          have hai:(a:Int) < 16:=by omega
          have han:(a:Int) < (n3:Int):=by omega
          obtain ⟨bb,off,hA3,_,hc⟩:=(HG3.out wr BX.out).at_ (by omega)
          have c4:wr.cell? ⟨bb,off + a,none⟩=some (.int .i64 (V / 256 ^ a % 256)):=by rw [hc a (by omega),HL3.out,Pol.dg_at n3 V a (by omega)]
          obtain ⟨u,hu⟩:=zx (V / 256 ^ a % 256)
          have hu0:0<=u:=by omega
          have hu1:u < 256:=by omega
          have co:wr.cell? ⟨go,a,none⟩=some (.int .u8 0):=by rw [BO.out.cell]; exact outL_at V a hla
          have fo:wr.frozen? ⟨go,a,none⟩=false:=BO.out.frozen _
          have BO2:Hid (Blk (wr.setCell ⟨go,a,none⟩ (.int .u8 u)) go 116 (outL V (a + 1))):=by
           unfold Hid
           rw [<- outL_set V a hla,cell_by8p,<- hu]
           exact BO.out.set_ a _
          have BX2:Hid (Below go x4 (wr.setCell ⟨go,a,none⟩ (.int .u8 u))):=BX.out.setCell (Nat.le_refl _) _
          rw [<- hu] at c4
          clear hu hc
          subst hA3
          go_wp2_with fail
          go_roundw
          case rel=>exact ⟨a + 1,by omega,by go_num,BO2,BX2⟩
          case measure=>simp [intOf]; omega
         ·obtain rfl:a=16:=by omega
          rw [show ((16:Nat):Int)=16 from rfl]
          obtain ⟨D,hD⟩:=zx ((Pol.tag key b).map cellOf)
          have hBD:Blk wr go 116 D:=by
           have:=BO.out
           rw [outL_full,HV.out,HZS.out,<- HTAG.out,<- hD] at this
           exact this
          have hDl:D.length=16:=by rw [hD,List.length_map,HTAG.out,Pol.bytesN_length]
          have ID:Hid ((Tryz.prog.info? 116).map (·.size)=some D.length):=by unfold Hid; rw [hDl]; kernel_rfl
          have LD:Hid ((List.replicate 16 (Value.int .u8 0)).length=D.length):=by unfold Hid; rw [hDl]; rfl
          have OD:Hid (∀ v ∈ D,v.oneCell'=true):=by unfold Hid; rw [hD]; exact cells_u8 _
          have HD:=qh hD
          have BD:=qh hBD
          have ZF:=qh (Z4.out.below BX.out hgzo)
          have WF:=qh (X4.out.trans (BX.out.mono hgow))
          clear hDl hD hBD BO BX
          go_wp2_with (first
           | ((with_reducible refine load_law rfl 116 (.tmp 15) rfl go 0 rfl D _ Tryz.underlying116 rfl ID.out BD.out.cells ?_))
           | ((with_reducible refine storeGen_law rfl 116 (.tmp 4) (.tmp 125) rfl gz rfl D rfl 116 (List.replicate 16 (Value.int .u8 0)) ID.out LD.out OD.out w.heap.size w ZF.out WF.out (by omega) ?_); intro w7 B7 W7))
          exact bodyPost_ret (results_cell_row rfl _ _ gz 116 D.toArray (0,0) _ rfl B7.out Tryz.underlying116 rfl (by rw [ID.out]; simp)) rfl ⟨by rw [HD.out],W7.out⟩
open Go.RowKit
def zeroS (n:Nat):ByteArray:=⟨(List.replicate n (0:UInt8)).toArray⟩
theorem zeroS_size (n:Nat):(zeroS n).size=n:=by simp [zeroS,ByteArray.size]
theorem zero_cells (n:Nat) (w:World):(Builtin.firstCells 1 n (.string (zeroS n))).run Tryz.prog w = .ok (Builtin.zeroCells #[.int .u8 0] n) w:=by
 have h1:(zeroS n).extract 0 n=zeroS n:=by
  have:=ByteArray.extract_zero_size (b:=zeroS n)
  rw [zeroS_size] at this
  exact this
 simp [Builtin.firstCells,h1]
 apply Array.ext'
 simp [zeroS,Builtin.zeroCells]
 apply List.ext_getElem
 ·simp
 ·intro i h1 h2
  simp [Nat.mod_one]
theorem append_zeros (w:World) (ty:TypeId) (base:Option Addr) (sLen sCap:Nat) (n:Nat) (h:sLen + n<=1000000) (hcap:sLen<=sCap) :
  (Builtin.append_ #[24,3] ty #[.slice base sLen sCap,.int .i64 (n:Int)]).run Tryz.prog w=(Builtin.append_ #[24,9] ty #[.slice base sLen sCap,.string (zeroS n)]).run Tryz.prog w:=by
 obtain ⟨i0,hi,hz0,hz1,hz2⟩:=info_parts info5
 have h1:IntKind.i64.wrap (n:Int)=(n:Int):=by rw [IntKind.wrap_i64]; omega
 have h2:¬ ((n:Int) < 0):=by omega
 have h3:¬ ((281474976710656:Int) < (n:Int)):=by omega
 have h4:¬ ((9223372036854775807:Int) < (sLen:Int) + (n:Int)):=by omega
 have hzc:(Value.int .u8 0).cells=#[.int .u8 0]:=rfl
 rcases Nat.eq_zero_or_pos n with h0 | h0
 ·subst h0
  have h5:¬ ((9223372036854775807:Int) < (sLen:Int)):=by omega
  have h6:IntKind.i64.wrap 0=0:=by decide
  have hzz:=zero_cells 0
  simp [Builtin.zeroCells] at hzz
  simp [Builtin.append_,run_underlying Tryz.underlying24,run_underlying Tryz.underlying3,run_underlying Tryz.underlying9,sizeOf,typeInfo,hi,hz0,hz1,hz2,asInt,asIntOf,h6,h5,Builtin.lenOf,zeroS_size,hcap,hzz]
 ·have h7:¬ n=0:=by omega
  by_cases hroom:sLen + n<=sCap
  ·simp [Builtin.append_,run_underlying Tryz.underlying24,run_underlying Tryz.underlying3,run_underlying Tryz.underlying9,sizeOf,typeInfo,zeroValue,hi,hz0,hz1,hz2,asInt,asIntOf,h1,h2,h3,h4,h7,Builtin.lenOf,zeroS_size,hroom,zero_cells,hzc]
  ·have h8:¬ 281474976710656 < Builtin.nextslicecap (sLen + n) sCap:=by
    have:=growslice_fits (need:=sLen + n) (old:=sCap) (bytes:=1) (by omega) (by omega)
    omega
   simp [Builtin.append_,run_underlying Tryz.underlying24,run_underlying Tryz.underlying3,run_underlying Tryz.underlying9,sizeOf,typeInfo,zeroValue,hi,hz0,hz1,hz2,asInt,asIntOf,h1,h2,h3,h4,h7,h8,Builtin.lenOf,zeroS_size,hroom,zero_cells,hzc]
theorem zero_bytes (n:Nat):Lib.strCells (zeroS n)=(List.replicate n (0:UInt8)).map cellOf:=by
 simp [Lib.strCells,zeroS,cellOf]
theorem run_zeros {wr:World} {B:Nat} {v:Value} {l:List UInt8} (ty:TypeId) (n:Nat) (hown:Ow wr B v l) (hlen:l.length + n<=1000000) (hB:B<=wr.heap.size) :
  ∃ v' w',(Builtin.append_ #[24,3] ty #[v,.int .i64 (n:Int)]).run Tryz.prog wr = .ok v' w'/\Ow w' B v' (l ++ List.replicate n 0)/\wr.grownBy w' v.ownBlock:=by
 obtain ⟨i0,hi,hz0,hz1,hz2⟩:=info_parts info5
 obtain ⟨v',w',hrun,h2,h3,_⟩:=Lib.run_append_own_string (P:=Tryz.prog) wr B 24 9 ty 5 i0 Tryz.underlying24 Tryz.underlying9 hi hz0 hz1 hz2 v l.length (l.map cellOf) hown (zeroS n) (by rw [zeroS_size]; unfold maxLen; omega) (by rw [zeroS_size]; omega) hB
 rw [zeroS_size,zero_bytes,<- List.map_append] at h2
 refine ⟨v',w',?_,by unfold Ow; simpa using h2,h3⟩
 rw [<- hrun]
 rcases hown.2 with ⟨rfl,h0⟩ | ⟨g,cap,cur,rfl,_,_,hnc,_⟩
 ·exact append_zeros wr ty none 0 0 n (by omega) (Nat.le_refl _)
 ·exact append_zeros wr ty _ _ _ n (by omega) hnc
theorem zeros_law {ops:Array Oper} {rest:List Oper} {o:Oper} {a:Act} {Q:Exit->Act->World->Prop} {wr w0:World} {B:Nat} {v:Value} {l:List UInt8} {n:Nat} (hgd:o.guard=none) (s x:Operand)
  (ho:o.op = .call { callee:=.builtin .append,args:=#[s,x],argTypes:=#[24,3] }) (hs:a.eval s=v) (hx:a.eval x = .int .i64 (n:Int)) (hown:Ow wr B v l)
  (hlen:l.length + n<=1000000) (hB:B<=wr.heap.size) (hbel:Below B w0 wr)
  (h:∀ v' w',Hid (Ow w' B v' (l ++ List.replicate n 0))->Hid (Below B w0 w')->wpList Tryz.prog ops Q rest (a.put o.dst v') w'):wpList Tryz.prog ops Q (o :: rest) a wr:=by
 obtain ⟨v',w',hrun,h2,h3⟩:=run_zeros o.type n hown hlen hB
 refine wpList_plain hgd fun K hK=>?_
 unfold Oper.wp execOp
 simp only [ho,resolve,invoke,builtin,Sem.run_bind,Sem.run_pure,Result.andThen_ok,List.map_toArray,List.map_cons,List.map_nil,hs,hx,hrun]
 exact hK _ _ (h v' w' h2 (hbel.grown h3 hB fun k hk=>(World.ownsRow.lt hown k hk).1))
end Go.Proofs.YtnfbkimkdnbohaaGreatDoor
