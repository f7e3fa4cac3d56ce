import Derived.Deep.CutRange
import Derived.Deep.DeepCutAuto
import Derived.Test.YtajgjeialbgijaaDoorSGrow
import Derived.Test.YtajgjeialbgijaaDoorSSmall
namespace Go.Proofs.YtajgjeialbgijaaDoor
set_option linter.unusedVariables false
set_option linter.unusedSimpArgs false
set_option maxRecDepth 100000
open Go.RowKit
theorem keyBlock_step (key:List UInt8) (p j:Nat) (hp:(Sha.key0 key).length=p) (h:p + j=64):Sha.key0 key ++ List.replicate j 0=Sha.keyBlock key:=by
 unfold Sha.keyBlock
 rw [hp,show 64 - p=j by omega]
theorem key0_long (key:List UInt8) (h:64 < key.length):Sha.key0 key=Sha.sum key:=by unfold Sha.key0; rw [if_pos h]
theorem key0_short (key:List UInt8) (h:¬ 64 < key.length):Sha.key0 key=key:=by unfold Sha.key0; rw [if_neg h]
set_option maxRecDepth 100000 in
set_option maxHeartbeats 4000000 in
theorem rhmac_any {w:World} {A A':Option Addr} {n c n' c':Nat} {key m:List UInt8} (hr:Rd w A n c key) (hn:n<=1000000) (hm:Rd w A' n' c' m) (hn':n'<=1000000) :
  Calls Tryd.prog 27 #[.slice A n c,.slice A' n' c'] w fun e w'=>∃ D,e = .returned (.agg D.toArray)/\Maced key m D/\Below w.heap.size w w':=by
 have HR:=Lib.hid hr
 have HM:=Lib.hid hm
 have HL:=Lib.hid hr.len
 have HML:=Lib.hid hm.len
 clear hr hm
 go_enter Tryd.func27,Tryd.ntmps27
 go_upto_region 1 with (fail)
 obtain ⟨wa,hwa⟩:∃ wa,wa=w.alloc (.cells (List.replicate 32 (.int .u8 0)).toArray 27):=⟨_,rfl⟩
 have ez:w.alloc (.cells #[.int .u8 0,.int .u8 0,.int .u8 0,.int .u8 0,.int .u8 0,.int .u8 0,.int .u8 0,.int .u8 0,.int .u8 0,.int .u8 0,.int .u8 0,.int .u8 0,.int .u8 0,.int .u8 0,.int .u8 0,.int .u8 0,.int .u8 0,.int .u8 0,.int .u8 0,.int .u8 0,.int .u8 0,.int .u8 0,.int .u8 0,.int .u8 0,.int .u8 0,.int .u8 0,.int .u8 0,.int .u8 0,.int .u8 0,.int .u8 0,.int .u8 0,.int .u8 0] 27)=wa:=hwa.symm
 rw [ez]
 clear ez
 have ZA:Hid (Blk wa w.heap.size 27 (List.replicate 32 (.int .u8 0))):=by unfold Hid; rw [hwa]; exact Blk.at_new w w.heap.size 27 (List.replicate 32 (.int .u8 0)) _ rfl rfl
 have XA:Hid (Below w.heap.size w wa):=by unfold Hid; rw [hwa]; exact alloc_below w _
 have hsa:w.heap.size + 1<=wa.heap.size:=by rw [hwa]; simp
 clear hwa
 have RA:=Lib.hid (HR.out.below XA.out)
 go_upto_region 2 with (first | (at_builtin; (refine onto_law rfl _ _ rfl rfl rfl RA.out (Ow.empty _ (w.heap.size + 1)) (by simp; omega) hsa (Below.refl _ _) ?_; intro v1 w1 O1 X1)))
 rw [List.nil_append] at O1
 obtain ⟨A1,c1,rfl,hr1,_⟩:=O1.out.value
 rw [HL.out] at hr1 O1
 rw [HL.out]
 have R1:=Lib.hid hr1
 have W1:=Lib.hid (XA.out.trans (X1.out.mono (by omega)))
 have Z1:=Lib.hid (ZA.out.below X1.out (by omega))
 have hs1:=W1.out.size
 have hs1':=X1.out.size
 clear hr1 RA XA ZA X1
 go_upto_if 15 with (fail)
 go_cut [5] (fun v wr=>Hid (Ow wr (w.heap.size + 1) v (Sha.key0 key))/\Hid (Blk wr w.heap.size 27 (List.replicate 32 (.int .u8 0)))/\Hid (Below w.heap.size w wr))
 case first =>
  by_cases h64:64 < n
  ·have hk0:=Lib.hid (key0_long key (by rw [HL.out]; exact h64))
   have hd:decide ((64:Int) < (n:Int))=true:=by simp; omega
   go_wp2_with fail
   refine (rsum_any R1.out (by omega)).mono ?_
   rintro e w2 ⟨D,rfl,hS,hX⟩
   have HS:=Lib.hid hS
   have HI:=Lib.hid hS.info
   have HLN:Hid ((List.replicate 32 (Value.int .u8 0)).length=D.length):=by unfold Hid; rw [hS.len]; rfl
   have H1:=Lib.hid hS.one
   have W2:=Lib.hid (W1.out.trans (hX.mono hs1))
   have hs2:=hX.size
   have Z2:=Lib.hid (Z1.out.below hX (by omega))
   clear hS hX R1 W1 Z1 O1
   go_upto_region 4 with (first
    | ((with_reducible refine storeGen_law rfl 27 (.tmp 6) (.tmp 17) rfl w2.heap.size rfl D rfl 27 (List.replicate 32 (.int .u8 0)) HI.out HLN.out H1.out w2.heap.size w2 ?_ ?_ (Nat.le_refl _) ?_)
       ·exact Blk.at_new _ _ 27 _ _ (by rfl) rfl
       ·exact (Below.refl _ _).alloc (Nat.le_refl _) _
       intro w3 B3 X3))
   have W3:=Lib.hid (W2.out.trans (X3.out.mono W2.out.size))
   have Z3:=Lib.hid (Z2.out.below X3.out (by omega))
   have R3:=Lib.hid (HS.out.rd B3.out)
   have hs3:=X3.out.size
   clear B3 X3 W2 Z2
   go_wp2_with (first | (at_builtin; refine onto_law rfl _ _ rfl rfl rfl R3.out (Ow.empty _ (w.heap.size + 1)) (by simp) (by omega) (Below.refl _ _) ?_; intro v4 w4 O4 X4))
   rw [List.nil_append] at O4
   go_meet
   case rel =>
    refine ⟨?_,Z3.out.below X4.out (by omega),W3.out.trans (X4.out.mono (by omega))⟩
    unfold Hid
    rw [hk0.out]
    exact O4.out
  ·have hk0:=Lib.hid (key0_short key (by rw [HL.out]; exact h64))
   have hd:decide ((64:Int) < (n:Int))=false:=by simp; omega
   go_wp2_with fail
   go_meet
   case rel =>
    refine ⟨?_,Z1.out,W1.out⟩
    unfold Hid
    rw [hk0.out]
    exact O1.out
 case rest =>
  clear O1 R1 W1 Z1 hs1 hs1'
  obtain ⟨O2,Z2,W2⟩:=hcut
  obtain ⟨p,hp⟩:∃ p,p=(Sha.key0 key).length:=⟨_,rfl⟩
  have hp64:p<=64:=by rw [hp]; exact Sha.key0_length key
  have HP:Hid ((Sha.key0 key).length=p):=hp.symm
  clear hp
  obtain ⟨A2,c2,rfl,_,_⟩:=O2.out.value
  rw [HP.out] at O2
  rw [HP.out]
  go_wp2_with fail
  go_loopw [5] (fun s wr=>∃ (j:Nat) (A3:Option Addr) (c3:Nat),p + j<=64/\s = .slice A3 (p + j) c3/\Hid (Ow wr (w.heap.size + 1) s (Sha.key0 key ++ List.replicate j 0))/\Hid (Blk wr w.heap.size 27 (List.replicate 32 (.int .u8 0)))/\Hid (Below w.heap.size w wr)) (fun s _=>64 - slen s)
  case atStart=>exact ⟨0,A2,c2,by omega,rfl,by unfold Hid; rw [List.replicate_zero,List.append_nil]; exact O2.out,Z2,W2⟩
  case round =>
   clear O2 Z2 W2
   obtain ⟨j,A3,c3,hj,rfl,HO,HZ,HB⟩:=hrel
   have hsr:w.heap.size + 1<=wr.heap.size:=by have:=HZ.out.lt; omega
   have hlen:(Sha.key0 key ++ List.replicate j 0).length=p + j:=by simp [HP.out]
   have HLN:=Lib.hid hlen
   clear hlen
   by_cases hlt:p + j < 64
   ·have hd:decide (((p + j:Nat):Int) < 64)=true:=by simp; omega
    have hd2:decide ((p:Int) + (j:Int) < 64)=true:=by simp; omega
    go_wp2_with (first | (at_builtin; refine push_law rfl _ _ rfl rfl rfl 0 HO.out rfl (by rw [HLN.out]; omega) hsr (Below.refl _ wr) ?_; intro v3 w3 HO3 HB3))
    obtain ⟨A4,c4,rfl,_,_⟩:=HO3.out.value
    have elen:(Sha.key0 key ++ List.replicate j 0 ++ [0]).length=p + (j + 1):=by simp [HP.out] <;> omega
    rw [elen] at HO3
    rw [elen]
    clear elen
    go_roundw
    case rel=>exact ⟨j + 1,A4,c4,by omega,rfl,by unfold Hid; rw [List.replicate_succ',<- List.append_assoc]; exact HO3.out,HZ.out.below HB3.out (by omega),HB.out.trans (HB3.out.mono (by omega))⟩
    case measure=>simp [slen]; omega
   ·have hpj:p + j=64:=by omega
    have hKB:=keyBlock_step key p j HP.out hpj
    rw [hKB,hpj] at HO
    rw [hpj]
    clear hKB HLN hj hlt HP
    have hKl:=Sha.keyBlock_length key
    obtain ⟨KB,hKB⟩:∃ KB,KB=Sha.keyBlock key:=⟨_,rfl⟩
    rw [<- hKB] at HO hKl
    have HKB:=Lib.hid hKB
    have HKL:=Lib.hid hKl
    obtain ⟨g,c4,heq,hgb,hgl⟩:=HO.out.form (by omega)
    rw [hKl] at heq
    obtain ⟨rfl,rfl⟩:A3=some ⟨g,0,none⟩/\c3=c4:=by simpa using heq
    have RK:=Lib.hid (HO.out.rd hKl.symm)
    clear hKB hKl heq HO hpj
    obtain ⟨wl,rfl⟩:∃ wl,wl=wr:=⟨_,rfl⟩
    go_wp2_with fail
    go_loopw [7,8,9] (fun vi vo i wr=>∃ q:Nat,q<=64/\i = .int .i64 q/\Hid (Two wr wl.heap.size vi vo (Sha.mask 0x36 (KB.take q)) (Sha.mask 0x5c (KB.take q)))/\Hid (Below wl.heap.size wl wr)) (fun _ _ i _=>64 - (intOf i).toNat)
    case atStart=>exact ⟨0,by omega,rfl,Two.none _ _,Below.refl _ _⟩
    case round =>
     obtain ⟨vi,rfl⟩:∃ v,v=u7:=⟨_,rfl⟩
     obtain ⟨vo,rfl⟩:∃ v,v=u8:=⟨_,rfl⟩
     obtain ⟨q,hq,rfl,T0,Y0⟩:=hrel
     have hy0:=Y0.out.size
     by_cases hlt:q < 64
     ·obtain ⟨z,hz⟩:∃ z,z=KB.getD q 0:=⟨_,rfl⟩
      have HC:Hid (∀ W,Below wl.heap.size wl W->W.cell? ⟨g,q,none⟩=some (.int .u8 (z.toNat:Int))):=fun W hW=>by
       obtain ⟨b,off,e,_,hc⟩:=(RK.out.below hW).at_ (by omega)
       injection e with e
       injection e with e1 e2 _
       subst e1; subst e2
       have:=hc q hlt
       rw [Nat.zero_add] at this
       rw [this,hz]
       rfl
      obtain ⟨xa,hxa⟩:∃ xa,xa=z ^^^ 0x36:=⟨_,rfl⟩
      obtain ⟨xb,hxb⟩:∃ xb,xb=z ^^^ 0x5c:=⟨_,rfl⟩
      have hx1:bits .xor .u8 (z.toNat:Int) 54=(xa.toNat:Int):=by rw [hxa]; exact xor_cell z 0x36
      have hx2:bits .xor .u8 (z.toNat:Int) 92=(xb.toNat:Int):=by rw [hxb]; exact xor_cell z 0x5c
      have HMA:Hid (Sha.mask 0x36 (KB.take (q + 1))=Sha.mask 0x36 (KB.take q) ++ [xa]):=by unfold Hid; rw [mask_take _ _ _ (by rw [HKL.out]; exact hlt),hxa,hz]
      have HMB:Hid (Sha.mask 0x5c (KB.take (q + 1))=Sha.mask 0x5c (KB.take q) ++ [xb]):=by unfold Hid; rw [mask_take _ _ _ (by rw [HKL.out]; exact hlt),hxb,hz]
      have hla:(Sha.mask 0x36 (KB.take q)).length<=64:=by simp [Sha.mask]; omega
      have hlb:(Sha.mask 0x5c (KB.take q)).length<=64:=by simp [Sha.mask]; omega
      clear hz hxa hxb
      obtain ⟨la,hla'⟩:∃ la,la=Sha.mask 0x36 (KB.take q):=⟨_,rfl⟩
      obtain ⟨lb,hlb'⟩:∃ lb,lb=Sha.mask 0x5c (KB.take q):=⟨_,rfl⟩
      rw [<- hla'] at HMA hla T0
      rw [<- hlb'] at HMB hlb T0
      clear hla' hlb'
      go_upto_region 11 with (fail)
      have T1:Hid (Two wr.drew wl.heap.size vi vo la lb):=T0.out.keep ((Below.refl wr.heap.size wr).drew)
      have Y1:Hid (Below wl.heap.size wl wr.drew):=Y0.out.drew
      have hz1:wl.heap.size<=wr.drew.heap.size:=hy0
      refine wp_region_held_drew (S:=fun W:World=>W.cell? ⟨g,q,none⟩=some (.int .u8 (z.toNat:Int))) (by kernel_rfl) (HC.out _ Y1.out) (fun hHeld=>?_)
      clear T0 Y0
      generalize wr.drew=w1 at *
      refine wpAnyH_take (i:=0) (oi:=?oi1) (v:=vi) ?hi1 (by kernel_rfl) (by kernel_rfl) (by kernel_rfl) ?hQ1 ?hy1 hHeld ?rest1
      case hi1=>simp only [zge]; rfl
      case hQ1=>exact fun _ _ _ h=>h
      case hy1=>exact Or.inl ⟨by rfl,by intro w hSw; (try dsimp only at hSw); go_simp⟩
      try simp only [zpt]
      refine wpAnyH_take (i:=1) (oi:=?oi2) (v:=.slice (some ⟨g,0,none⟩) 64 c3) ?hi2 (by kernel_rfl) (by kernel_rfl) (by kernel_rfl) ?hQ2 ?hy2 hHeld ?rest2
      case hi2=>simp only [zge]; rfl
      case hQ2=>exact fun _ _ _ h=>h
      case hy2=>exact Or.inl ⟨by rfl,by intro w hSw; (try dsimp only at hSw); go_simp⟩
      try simp only [zpt]
      refine wpAnyH_take (i:=2) (oi:=?oi3) (v:=.int .i64 (q:Int)) ?hi3 (by kernel_rfl) (by kernel_rfl) (by kernel_rfl) ?hQ3 ?hy3 hHeld ?rest3
      case hi3=>simp only [zge]; rfl
      case hQ3=>exact fun _ _ _ h=>h
      case hy3=>exact Or.inl ⟨by rfl,by intro w hSw; (try dsimp only at hSw); go_simp⟩
      try simp only [zpt]
      refine wpAnyH_take (i:=3) (oi:=?oi4) (v:=.pointer (some ⟨g,q,none⟩)) ?hi4 (by kernel_rfl) (by kernel_rfl) (by kernel_rfl) ?hQ4 ?hy4 hHeld ?rest4
      case hi4=>simp only [zge]; rfl
      case hQ4=>exact fun _ _ _ h=>h
      case hy4=>exact Or.inl ⟨by rfl,by intro w hSw; (try dsimp only at hSw); go_simp⟩
      try simp only [zpt]
      refine wpAnyH_take (i:=4) (oi:=?oi5) (v:=.int .u8 (z.toNat:Int)) ?hi5 (by kernel_rfl) (by kernel_rfl) (by kernel_rfl) ?hQ5 ?hy5 hHeld ?rest5
      case hi5=>simp only [zge]; rfl
      case hQ5=>exact fun _ _ _ h=>h
      case hy5=>exact Or.inl ⟨by rfl,by intro w hSw; (try dsimp only at hSw); go_simp⟩
      try simp only [zpt]
      refine wpAnyH_take (i:=5) (oi:=?oi6) (v:=.int .u8 (xa.toNat:Int)) ?hi6 (by kernel_rfl) (by kernel_rfl) (by kernel_rfl) ?hQ6 ?hy6 hHeld ?rest6
      case hi6=>simp only [zge]; rfl
      case hQ6=>exact fun _ _ _ h=>h
      case hy6=>exact Or.inl ⟨by rfl,by intro w hSw; (try dsimp only at hSw); go_simp⟩
      try simp only [zpt]
      refine wpAnyH_take (i:=8) (oi:=?oi7) (v:=vo) ?hi7 (by kernel_rfl) (by kernel_rfl) (by kernel_rfl) ?hQ7 ?hy7 hHeld ?rest7
      case hi7=>simp only [zge]; rfl
      case hQ7=>exact fun _ _ _ h=>h
      case hy7=>exact Or.inl ⟨by rfl,by intro w hSw; (try dsimp only at hSw); go_simp⟩
      try simp only [zpt]
      refine wpAnyH_take (i:=9) (oi:=?oi8) (v:=.slice (some ⟨g,0,none⟩) 64 c3) ?hi8 (by kernel_rfl) (by kernel_rfl) (by kernel_rfl) ?hQ8 ?hy8 hHeld ?rest8
      case hi8=>simp only [zge]; rfl
      case hQ8=>exact fun _ _ _ h=>h
      case hy8=>exact Or.inl ⟨by rfl,by intro w hSw; (try dsimp only at hSw); go_simp⟩
      try simp only [zpt]
      refine wpAnyH_take (i:=10) (oi:=?oi9) (v:=.int .i64 (q:Int)) ?hi9 (by kernel_rfl) (by kernel_rfl) (by kernel_rfl) ?hQ9 ?hy9 hHeld ?rest9
      case hi9=>simp only [zge]; rfl
      case hQ9=>exact fun _ _ _ h=>h
      case hy9=>exact Or.inl ⟨by rfl,by intro w hSw; (try dsimp only at hSw); go_simp⟩
      try simp only [zpt]
      refine wpAnyH_take (i:=11) (oi:=?oi10) (v:=.pointer (some ⟨g,q,none⟩)) ?hi10 (by kernel_rfl) (by kernel_rfl) (by kernel_rfl) ?hQ10 ?hy10 hHeld ?rest10
      case hi10=>simp only [zge]; rfl
      case hQ10=>exact fun _ _ _ h=>h
      case hy10=>exact Or.inl ⟨by rfl,by intro w hSw; (try dsimp only at hSw); go_simp⟩
      try simp only [zpt]
      refine wpAnyH_take (i:=12) (oi:=?oi11) (v:=.int .u8 (z.toNat:Int)) ?hi11 (by kernel_rfl) (by kernel_rfl) (by kernel_rfl) ?hQ11 ?hy11 hHeld ?rest11
      case hi11=>simp only [zge]; rfl
      case hQ11=>exact fun _ _ _ h=>h
      case hy11=>exact Or.inl ⟨by rfl,by intro w hSw; (try dsimp only at hSw); go_simp⟩
      try simp only [zpt]
      refine wpAnyH_take (i:=13) (oi:=?oi12) (v:=.int .u8 (xb.toNat:Int)) ?hi12 (by kernel_rfl) (by kernel_rfl) (by kernel_rfl) ?hQ12 ?hy12 hHeld ?rest12
      case hi12=>simp only [zge]; rfl
      case hQ12=>exact fun _ _ _ h=>h
      case hy12=>exact Or.inl ⟨by rfl,by intro w hSw; (try dsimp only at hSw); go_simp⟩
      try simp only [zpt]
      refine wpAnyH_ready (rs:=[6,14]) (by kernel_rfl) (by simp) ?_
      refine AllReadyH.cons (o:=?o13) ?ho13 (fun K hK=>?_) ?more13
      case ho13=>simp only [zge]; rfl
      ·go_simp
       have X11:=alloc_below w1 (.cells #[.int .u8 (xa.toNat:Int)] 5)
       have LA11:=Lib.hid (Lone.new T1.out xa)
       have T11:=Lib.hid (T1.out.keep X11)
       have Y11:=Lib.hid (Y1.out.trans (X11.mono hz1))
       have hz11:=Y11.out.size
       clear X11 T1 Y1
       refine hK.out _ _ (HC.out _ Y11.out) (fun hHeld=>?_)
       clear hK K
       obtain ⟨m11,hm11⟩:∃ m,m=w1.heap.size:=⟨_,rfl⟩
       rw [<- hm11] at LA11
       generalize w1.alloc (.cells #[.int .u8 (xa.toNat:Int)] 5)=w11 at *
       rw [<- hm11]
       clear hm11
       try simp only [zpt]
       refine wpAnyH_ready (rs:=[7,14]) (by kernel_rfl) (by simp) ?_
       refine AllReadyH.cons (o:=?o14) ?ho14 (fun K hK=>?_) ?more14
       case ho14=>simp only [zge]; rfl
       ·refine step_app (by rfl) (.tmp 30) (.tmp 36) rfl rfl rfl LA11.out.rd T11.out.a (by omega) (by omega) hz11 Y11.out ?_
        intro v12 w12 O12 Y12 Q12 Q'12
        have T12:=Lib.hid ((T11.out.step O12.out Q12.out Q'12.out))
        have hz12:=Y12.out.size
        clear T11 Y11 LA11 O12 Q12 Q'12
        refine hK.out _ _ (HC.out _ Y12.out) (fun hHeld=>?_)
        clear hK K
        try simp only [zpt]
        refine wpAnyH_ready (rs:=[14]) (by kernel_rfl) (by simp) ?_
        refine AllReadyH.cons (o:=?o15) ?ho15 (fun K hK=>?_) AllReadyH.nil
        case ho15=>simp only [zge]; rfl
        go_simp
        have X13:=alloc_below w12 (.cells #[.int .u8 (xb.toNat:Int)] 5)
        have LB13:=Lib.hid (Lone.new T12.out xb)
        have T13:=Lib.hid (T12.out.keep X13)
        have Y13:=Lib.hid (Y12.out.trans (X13.mono hz12))
        have hz13:=Y13.out.size
        clear X13 T12 Y12
        refine hK.out _ _ (HC.out _ Y13.out) (fun hHeld=>?_)
        clear hK K
        obtain ⟨m13,hm13⟩:∃ m,m=w12.heap.size:=⟨_,rfl⟩
        rw [<- hm13] at LB13
        generalize w12.alloc (.cells #[.int .u8 (xb.toNat:Int)] 5)=w13 at *
        rw [<- hm13]
        clear hm13
        try simp only [zpt]
        refine wpAnyH_ready (rs:=[15]) (by kernel_rfl) (by simp) ?_
        refine AllReadyH.cons (o:=?o16) ?ho16 (fun K hK=>?_) AllReadyH.nil
        case ho16=>simp only [zge]; rfl
        refine step_app (by rfl) (.tmp 38) (.tmp 44) rfl rfl rfl LB13.out.rd T13.out.b (by omega) (by omega) hz13 Y13.out ?_
        intro v14 w14 O14 Y14 Q14 Q'14
        have T14:=Lib.hid ((T13.out.swap.step O14.out Q14.out Q'14.out).swap)
        have hz14:=Y14.out.size
        clear T13 Y13 LB13 O14 Q14 Q'14
        refine hK.out _ _ (HC.out _ Y14.out) (fun hHeld=>?_)
        clear hK K
        try simp only [zpt]
        refine wpAnyH_take (i:=16) (oi:=?oi17) (v:=v12) ?hi17 (by kernel_rfl) (by kernel_rfl) (by kernel_rfl) ?hQ17 ?hy17 hHeld ?rest17
        case hi17=>simp only [zge]; rfl
        case hQ17=>exact fun _ _ _ h=>h
        case hy17=>exact Or.inl ⟨by rfl,by intro w hSw; (try dsimp only at hSw); go_simp⟩
        try simp only [zpt]
        refine wpAnyH_take (i:=17) (oi:=?oi18) (v:=v14) ?hi18 (by kernel_rfl) (by kernel_rfl) (by kernel_rfl) ?hQ18 ?hy18 hHeld ?rest18
        case hi18=>simp only [zge]; rfl
        case hQ18=>exact fun _ _ _ h=>h
        case hy18=>exact Or.inl ⟨by rfl,by intro w hSw; (try dsimp only at hSw); go_simp⟩
        try simp only [zpt]
        refine wpAnyH_done (by kernel_rfl) ?_ _
        clear hHeld hx1 hx2
        go_wp2_with fail
        go_roundw
        case rel =>
         refine ⟨q + 1,by omega,by go_num,?_,Y14⟩
         unfold Hid
         rw [HMA.out,HMB.out]
         exact T14.out
        case measure=>simp [intOf]; omega
       refine AllReadyH.cons (o:=?o19) ?ho19 (fun K hK=>?_) AllReadyH.nil
       case ho19=>simp only [zge]; rfl
       go_simp
       have X15:=alloc_below w11 (.cells #[.int .u8 (xb.toNat:Int)] 5)
       have LB15:=Lib.hid (Lone.new T11.out xb)
       have T15:=Lib.hid (T11.out.keep X15)
       have LA15:=Lib.hid (LA11.out.keep X15)
       have Y15:=Lib.hid (Y11.out.trans (X15.mono hz11))
       have hz15:=Y15.out.size
       clear X15 T11 Y11 LA11
       refine hK.out _ _ (HC.out _ Y15.out) (fun hHeld=>?_)
       clear hK K
       obtain ⟨m15,hm15⟩:∃ m,m=w11.heap.size:=⟨_,rfl⟩
       rw [<- hm15] at LB15
       generalize w11.alloc (.cells #[.int .u8 (xb.toNat:Int)] 5)=w15 at *
       rw [<- hm15]
       clear hm15
       try simp only [zpt]
       refine wpAnyH_ready (rs:=[7]) (by kernel_rfl) (by simp) ?_
       refine AllReadyH.cons (o:=?o20) ?ho20 (fun K hK=>?_) AllReadyH.nil
       case ho20=>simp only [zge]; rfl
       refine step_app (by rfl) (.tmp 30) (.tmp 36) rfl rfl rfl LA15.out.rd T15.out.a (by omega) (by omega) hz15 Y15.out ?_
       intro v16 w16 O16 Y16 Q16 Q'16
       have T16:=Lib.hid ((T15.out.step O16.out Q16.out Q'16.out))
       have LB16:=Lib.hid ((LB15.out.step Q16.out Q'16.out))
       have hz16:=Y16.out.size
       clear T15 Y15 LA15 O16 Q16 Q'16 LB15
       refine hK.out _ _ (HC.out _ Y16.out) (fun hHeld=>?_)
       clear hK K
       try simp only [zpt]
       refine wpAnyH_ready (rs:=[15]) (by kernel_rfl) (by simp) ?_
       refine AllReadyH.cons (o:=?o21) ?ho21 (fun K hK=>?_) AllReadyH.nil
       case ho21=>simp only [zge]; rfl
       refine step_app (by rfl) (.tmp 38) (.tmp 44) rfl rfl rfl LB16.out.rd T16.out.b (by omega) (by omega) hz16 Y16.out ?_
       intro v17 w17 O17 Y17 Q17 Q'17
       have T17:=Lib.hid ((T16.out.swap.step O17.out Q17.out Q'17.out).swap)
       have hz17:=Y17.out.size
       clear T16 Y16 LB16 O17 Q17 Q'17
       refine hK.out _ _ (HC.out _ Y17.out) (fun hHeld=>?_)
       clear hK K
       try simp only [zpt]
       refine wpAnyH_take (i:=16) (oi:=?oi22) (v:=v16) ?hi22 (by kernel_rfl) (by kernel_rfl) (by kernel_rfl) ?hQ22 ?hy22 hHeld ?rest22
       case hi22=>simp only [zge]; rfl
       case hQ22=>exact fun _ _ _ h=>h
       case hy22=>exact Or.inl ⟨by rfl,by intro w hSw; (try dsimp only at hSw); go_simp⟩
       try simp only [zpt]
       refine wpAnyH_take (i:=17) (oi:=?oi23) (v:=v17) ?hi23 (by kernel_rfl) (by kernel_rfl) (by kernel_rfl) ?hQ23 ?hy23 hHeld ?rest23
       case hi23=>simp only [zge]; rfl
       case hQ23=>exact fun _ _ _ h=>h
       case hy23=>exact Or.inl ⟨by rfl,by intro w hSw; (try dsimp only at hSw); go_simp⟩
       try simp only [zpt]
       refine wpAnyH_done (by kernel_rfl) ?_ _
       clear hHeld hx1 hx2
       go_wp2_with fail
       go_roundw
       case rel =>
        refine ⟨q + 1,by omega,by go_num,?_,Y17⟩
        unfold Hid
        rw [HMA.out,HMB.out]
        exact T17.out
       case measure=>simp [intOf]; omega
      refine AllReadyH.cons (o:=?o24) ?ho24 (fun K hK=>?_) AllReadyH.nil
      case ho24=>simp only [zge]; rfl
      go_simp
      have X18:=alloc_below w1 (.cells #[.int .u8 (xb.toNat:Int)] 5)
      have LB18:=Lib.hid (Lone.new T1.out xb)
      have T18:=Lib.hid (T1.out.keep X18)
      have Y18:=Lib.hid (Y1.out.trans (X18.mono hz1))
      have hz18:=Y18.out.size
      clear X18 T1 Y1
      refine hK.out _ _ (HC.out _ Y18.out) (fun hHeld=>?_)
      clear hK K
      obtain ⟨m18,hm18⟩:∃ m,m=w1.heap.size:=⟨_,rfl⟩
      rw [<- hm18] at LB18
      generalize w1.alloc (.cells #[.int .u8 (xb.toNat:Int)] 5)=w18 at *
      rw [<- hm18]
      clear hm18
      try simp only [zpt]
      refine wpAnyH_ready (rs:=[6]) (by kernel_rfl) (by simp) ?_
      refine AllReadyH.cons (o:=?o25) ?ho25 (fun K hK=>?_) AllReadyH.nil
      case ho25=>simp only [zge]; rfl
      go_simp
      have X19:=alloc_below w18 (.cells #[.int .u8 (xa.toNat:Int)] 5)
      have LA19:=Lib.hid (Lone.new T18.out xa)
      have T19:=Lib.hid (T18.out.keep X19)
      have LB19:=Lib.hid (LB18.out.keep X19)
      have Y19:=Lib.hid (Y18.out.trans (X19.mono hz18))
      have hz19:=Y19.out.size
      clear X19 T18 Y18 LB18
      refine hK.out _ _ (HC.out _ Y19.out) (fun hHeld=>?_)
      clear hK K
      obtain ⟨m19,hm19⟩:∃ m,m=w18.heap.size:=⟨_,rfl⟩
      rw [<- hm19] at LA19
      generalize w18.alloc (.cells #[.int .u8 (xa.toNat:Int)] 5)=w19 at *
      rw [<- hm19]
      clear hm19
      try simp only [zpt]
      refine wpAnyH_ready (rs:=[7]) (by kernel_rfl) (by simp) ?_
      refine AllReadyH.cons (o:=?o26) ?ho26 (fun K hK=>?_) AllReadyH.nil
      case ho26=>simp only [zge]; rfl
      refine step_app (by rfl) (.tmp 30) (.tmp 36) rfl rfl rfl LA19.out.rd T19.out.a (by omega) (by omega) hz19 Y19.out ?_
      intro v20 w20 O20 Y20 Q20 Q'20
      have T20:=Lib.hid ((T19.out.step O20.out Q20.out Q'20.out))
      have LB20:=Lib.hid ((LB19.out.step Q20.out Q'20.out))
      have hz20:=Y20.out.size
      clear T19 Y19 LA19 O20 Q20 Q'20 LB19
      refine hK.out _ _ (HC.out _ Y20.out) (fun hHeld=>?_)
      clear hK K
      try simp only [zpt]
      refine wpAnyH_ready (rs:=[15]) (by kernel_rfl) (by simp) ?_
      refine AllReadyH.cons (o:=?o27) ?ho27 (fun K hK=>?_) AllReadyH.nil
      case ho27=>simp only [zge]; rfl
      refine step_app (by rfl) (.tmp 38) (.tmp 44) rfl rfl rfl LB20.out.rd T20.out.b (by omega) (by omega) hz20 Y20.out ?_
      intro v21 w21 O21 Y21 Q21 Q'21
      have T21:=Lib.hid ((T20.out.swap.step O21.out Q21.out Q'21.out).swap)
      have hz21:=Y21.out.size
      clear T20 Y20 LB20 O21 Q21 Q'21
      refine hK.out _ _ (HC.out _ Y21.out) (fun hHeld=>?_)
      clear hK K
      try simp only [zpt]
      refine wpAnyH_take (i:=16) (oi:=?oi28) (v:=v20) ?hi28 (by kernel_rfl) (by kernel_rfl) (by kernel_rfl) ?hQ28 ?hy28 hHeld ?rest28
      case hi28=>simp only [zge]; rfl
      case hQ28=>exact fun _ _ _ h=>h
      case hy28=>exact Or.inl ⟨by rfl,by intro w hSw; (try dsimp only at hSw); go_simp⟩
      try simp only [zpt]
      refine wpAnyH_take (i:=17) (oi:=?oi29) (v:=v21) ?hi29 (by kernel_rfl) (by kernel_rfl) (by kernel_rfl) ?hQ29 ?hy29 hHeld ?rest29
      case hi29=>simp only [zge]; rfl
      case hQ29=>exact fun _ _ _ h=>h
      case hy29=>exact Or.inl ⟨by rfl,by intro w hSw; (try dsimp only at hSw); go_simp⟩
      try simp only [zpt]
      refine wpAnyH_done (by kernel_rfl) ?_ _
      clear hHeld hx1 hx2
      go_wp2_with fail
      go_roundw
      case rel =>
       refine ⟨q + 1,by omega,by go_num,?_,Y21⟩
       unfold Hid
       rw [HMA.out,HMB.out]
       exact T21.out
      case measure=>simp [intOf]; omega
     ·obtain rfl:q=64:=by omega
      rw [List.take_of_length_le (by rw [HKL.out]; omega)] at T0
      have RM:=Lib.hid ((HM.out.below HB.out).below Y0.out)
      have WR:=Lib.hid (HB.out.trans (Y0.out.mono (by omega)))
      have ZR:=Lib.hid (HZ.out.below Y0.out (by omega))
      have LA:Hid ((Sha.mask 0x36 KB).length=64):=by unfold Hid; rw [Sha.mask_length,HKL.out]
      have LB:Hid ((Sha.mask 0x5c KB).length=64):=by unfold Hid; rw [Sha.mask_length,HKL.out]
      clear HM HB Y0 HZ RK
      go_wp2_with (first | (at_builtin; refine onto_grown rfl _ _ rfl rfl rfl RM.out T0.out.a (by rw [LA.out]; omega) hy0 (Below.refl _ wr) ?_; intro v5 w5 O5 X5 Q5))
      obtain ⟨A5,c5,rfl,hr5,_⟩:=O5.out.value
      have e5:(Sha.mask 0x36 KB ++ m).length=64 + n':=by rw [List.length_append,LA.out,HML.out]
      rw [e5] at hr5
      rw [e5]
      have R5:=Lib.hid hr5
      have OB5:Hid (Ow w5 wl.heap.size vo (Sha.mask 0x5c KB)):=T0.out.b.kept Q5.out T0.out.apart.symm
      have W5:=Lib.hid (WR.out.trans (X5.out.mono (by omega)))
      have Z5:=Lib.hid (ZR.out.below X5.out (by omega))
      have hs5:=X5.out.size
      clear hr5 e5 O5 X5 Q5 T0 WR ZR RM
      refine (rsum_any R5.out (by omega)).mono ?_
      rintro e w6 ⟨D,rfl,hS,hX⟩
      have HS:=Lib.hid hS
      have HI:=Lib.hid hS.info
      have HLN:Hid ((List.replicate 32 (Value.int .u8 0)).length=D.length):=by unfold Hid; rw [hS.len]; rfl
      have H1:=Lib.hid hS.one
      have hs6:=hX.size
      have OB6:=Lib.hid (OB5.out.keep hX)
      have W6:=Lib.hid (W5.out.trans (hX.mono W5.out.size))
      have Z6:=Lib.hid (Z5.out.below hX (by omega))
      clear hS hX R5 W5 Z5 OB5
      go_upto_region 13 with (first
       | ((with_reducible refine storeGen_law rfl 27 (.tmp 10) (.tmp 49) rfl w6.heap.size rfl D rfl 27 (List.replicate 32 (.int .u8 0)) HI.out HLN.out H1.out w6.heap.size w6 ?_ ?_ (Nat.le_refl _) ?_)
          ·exact Blk.at_new _ _ 27 _ _ (by rfl) rfl
          ·exact (Below.refl _ _).alloc (Nat.le_refl _) _
          intro w7 B7 X7))
      have OB7:=Lib.hid (OB6.out.keep X7.out)
      have W7:=Lib.hid (W6.out.trans (X7.out.mono W6.out.size))
      have Z7:=Lib.hid (Z6.out.below X7.out (by omega))
      have R7:=Lib.hid (HS.out.rd B7.out)
      have hs7:=X7.out.size
      clear B7 X7 W6 Z6 OB6 HI HLN H1
      go_wp2_with (first | (at_builtin; refine onto_law rfl _ _ rfl rfl rfl R7.out OB7.out (by rw [LB.out]; omega) (by omega) (Below.refl _ w7) ?_; intro v8 w8 O8 X8))
      obtain ⟨A8,c8,rfl,hr8,_⟩:=O8.out.value
      have e8:(Sha.mask 0x5c KB ++ Sha.sum (Sha.mask 0x36 KB ++ m)).length=96:=by rw [List.length_append,LB.out,Sha.sum_length]
      rw [e8] at hr8
      rw [e8]
      have R8:=Lib.hid hr8
      have W8:=Lib.hid (W7.out.trans (X8.out.mono (by omega)))
      have Z8:=Lib.hid (Z7.out.below X8.out (by omega))
      have hs8:=X8.out.size
      clear hr8 e8 O8 X8 OB7 W7 Z7 R7
      refine (rsum_any R8.out (by omega)).mono ?_
      rintro e w9 ⟨E,rfl,hS,hX⟩
      have hE:Maced key m E:=by
       unfold Maced Sha.hmac
       rw [<- HKB.out]
       exact hS
      have HE:=Lib.hid hE
      have HI:=Lib.hid hS.info
      have HLN:Hid ((List.replicate 32 (Value.int .u8 0)).length=E.length):=by unfold Hid; rw [hS.len]; rfl
      have H1:=Lib.hid hS.one
      have W9:=Lib.hid (W8.out.trans (hX.mono W8.out.size))
      have Z9:=Lib.hid (Z8.out.below hX (by omega))
      clear hE hS hX R8 W8 Z8
      go_wp2_with (first
       | ((with_reducible refine storeGen_law rfl 27 (.tmp 4) (.tmp 53) rfl w.heap.size rfl E rfl 27 (List.replicate 32 (.int .u8 0)) HI.out HLN.out H1.out w.heap.size w Z9.out W9.out (Nat.le_refl _) ?_); intro w10 B10 W10))
      exact bodyPost_ret (results_cell_row rfl _ _ w.heap.size 27 E.toArray (0,0) _ rfl B10.out Tryd.underlying27 rfl (by rw [HI.out]; simp)) rfl ⟨E,rfl,HE.out,W10.out⟩
end Go.Proofs.YtajgjeialbgijaaDoor
