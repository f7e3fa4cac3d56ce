import Derived.Deep.MidRow
import Derived.Deep.WholeRow
import Derived.Deep.Cut
import Derived.Test.YtajgjeialbgijaaDoorSGsha1
namespace Go.Proofs.YtajgjeialbgijaaDoor
set_option linter.unusedVariables false
set_option linter.unusedSimpArgs false
set_option maxRecDepth 100000
open Go.RowKit
theorem step_load {P:Program} {ops:Array Oper} {op:Oper} {a:Act} {w:World} {K:Act->World->Prop} {Q:Exit->Act->World->Prop} {E:Prop} (hgd:op.guard=none) (ty:TypeId) (x:Operand) (ho:op.op = .load ty x)
  (b o:Nat) (hx:a.eval x = .pointer (some ⟨b,o,none⟩)) (cs:List Value) (d:TypeDesc) (hc:w.rangeAt b o cs)
  (hu:P.underlying ty=some d) (hd:d.isRow=true) (hi:(P.info? ty).map (·.size)=some cs.length)
  (h:K (a.put op.dst (.agg cs.toArray)) w):if Region.wanted op (yielded ops a.tmps)=true then op.wp P a w K Q else E:=by
 rw [if_pos (by simp [Region.wanted,hgd])]
 exact wp_load_mid ty x ho b o hx cs d hc hu hd hi h
theorem step_store {P:Program} {ops:Array Oper} {op:Oper} {a:Act} {w:World} {K:Act->World->Prop} {Q:Exit->Act->World->Prop} {E:Prop} (hgd:op.guard=none) (ty:TypeId) (x y:Operand) (ho:op.op = .store ty x y)
  (g off:Nat) (hx:a.eval x = .pointer (some ⟨g,off,none⟩)) (vs:List Value) (hy:a.eval y = .agg vs.toArray) (t:TypeId) (cs:List Value) (hb:Blk w g t cs) (hi:(P.info? ty).map (·.size)=some vs.length)
  (hfit:off + vs.length<=cs.length) (h1:∀ v ∈ vs,v.oneCell'=true)
  (h:K (a.put op.dst undef) (w.setRow g (cs.take off ++ vs ++ cs.drop (off + vs.length)).toArray)):if Region.wanted op (yielded ops a.tmps)=true then op.wp P a w K Q else E:=by
 rw [if_pos (by simp [Region.wanted,hgd])]
 unfold Oper.wp execOp
 simp only [ho,hx,hy,Instr.storeAt,Instr.sureAddr,Sem.run_bind,Sem.run_pure,Result.andThen_ok,run_storeVar_part w ty g off t cs vs hb hi hfit h1]
 exact h
theorem rng_sums {w:World} {g n:Nat} {hs:List Int} {F:List UInt8} {sc:List Value} (hb:Blk w g 113 (stC hs F n)) (h8:hs.length=8) (hsc:sc=hs.map wd):w.rangeAt g 0 sc:=by
 intro j v hv
 rw [hsc] at hv
 rw [hb.cell]
 exact stC_sums _ _ _ h8 j v hv
theorem copy_step {wr:World} {g b off n c a k:Nat} {M l2 bl:List UInt8} (hB:Blk wr g 113 (stC (Sha.absorb M) bl M.length)) (hl64:bl.length=64) (hr:Rd wr (some ⟨b,off,none⟩) n c l2) (hk:k=min n (64 - a)) (ha:a < 64) :
  ∃ w2,(Builtin.copy_ #[41,41] 3 #[.slice (some ⟨g,8 + a,none⟩) (64 - a) (64 - a),.slice (some ⟨b,off,none⟩) n c]).run Tryd.prog wr = .ok (.int .i64 (k:Int)) w2/\Blk w2 g 113 (stC (Sha.absorb M) (bl.take a ++ l2.take k ++ bl.drop (a + (l2.take k).length)) M.length)/\wr.grownBy w2 (some g):=by
 have hln:=hr.len
 have hxl:(l2.take k).length=k:=by rw [List.length_take]; omega
 have hcopy:=run_copy_row (P:=Tryd.prog) wr 41 41 3 5 g (8 + a) (64 - a) (64 - a) ⟨b,off,none⟩ n c (stC (Sha.absorb M) bl M.length).toArray 113 ((l2.take k).map cellOf) Tryd.underlying41 size5 hB (by rw [List.length_map,hxl]; exact hk)
  (fun j v hv=>by
   rw [add_plain]
   refine hr.cells j v ?_
   rw [List.map_take,List.getElem?_take] at hv
   split at hv
   ·exact hv
   ·cases hv) (by rw [List.length_map,hxl,List.size_toArray,stC_length _ bl _ (Sha.absorb_length M) hl64]; omega) (cells_u8 _)
 have e:=stC_newBytes (Sha.absorb M) bl (l2.take k) M.length a (Sha.absorb_length M) hl64 (by omega)
 simp only [] at hcopy
 rw [e] at hcopy
 refine ⟨_,?_,hB.row,only_setRow (only_refl wr _) (.inl rfl) _⟩
 rw [hcopy,List.length_map,hxl]
 rfl
set_option maxRecDepth 100000 in
set_option maxHeartbeats 4000000 in
theorem write_any {w:World} {g:Nat} {m l:List UInt8} {A:Option Addr} {n c:Nat} (hg:Gl w) (h2:2<=g) (hH:Holds w g m) (hr:Rd w A n c l) (hne:0 < n->∀ ad,A=some ad->ad.block ≠ g) (hb:m.length + l.length<=1099511627776) :
  Calls Tryd.prog 47 #[.pointer (some ⟨g,0,none⟩),.slice A n c] w fun e w'=>e = .returned (.tuple #[])/\Ready w' g (m ++ l)/\w.grownBy w' (some g):=by
 obtain ⟨hs,bl,hB,hl8,hl64,htk,hab⟩:=hH
 have HG:=Lib.hid hg
 have HR:=Lib.hid hr
 have HNE:=Lib.hid hne
 have cN:w.cell? ⟨g,72,none⟩=some (.int .u64 (m.length:Int)):=by rw [hB.cell]; exact stC_len hs bl _ hl8 hl64
 have HB:=Lib.hid hB
 have H8:=Lib.hid hl8
 have H64:=Lib.hid hl64
 have HTK:=Lib.hid htk
 have HAB:=Lib.hid hab
 clear hg hr hne hB hl8 hl64 htk hab
 by_cases h0:m.length=0
 ·have HM0:Hid (m=[]):=List.eq_nil_of_length_eq_zero h0
  have h0b:((m.length:Int) == 0)=true:=by simp; exact HM0.out
  clear h0
  obtain ⟨hc,hhc⟩:∃ hc,hc=Sha.H0.map wd:=⟨_,rfl⟩
  have HI:Hid ((Tryd.prog.info? 110).map (·.size)=some hc.length):=by unfold Hid; rw [hhc]; kernel_rfl
  have HL:Hid (∀ j v,hc[j]?=some v->w.cell? ⟨0,0 + j,none⟩=some v):=by unfold Hid; rw [hhc]; exact HG.out.first
  have HF:Hid (0 + hc.length<=(stC hs bl m.length).length):=by unfold Hid; rw [stC_length hs bl _ H8.out H64.out,hhc]; decide
  have H1:Hid (∀ v ∈ hc,v.oneCell'=true):=by unfold Hid; rw [hhc]; exact cells_wd _
  have HRow:Hid ((stC hs bl m.length).take 0 ++ hc ++ (stC hs bl m.length).drop (0 + hc.length)=stC Sha.H0 bl m.length):=by
   unfold Hid; rw [hhc]; exact stC_newSums hs Sha.H0 bl _ H8.out rfl
  clear hhc
  go_enter Tryd.func47,Tryd.ntmps47
  go_wp2_with (first
   | (with_reducible refine load_law rfl 110 (.global 0) rfl 0 0 rfl hc _ Tryd.underlying110 rfl HI.out HL.out ?_)
   | (with_reducible refine store_law rfl 110 (.tmp 16) (.tmp 14) rfl g 0 rfl hc rfl 113 (stC hs bl m.length) HB.out HI.out HF.out H1.out ?_))
  obtain ⟨w1,hw1⟩:∃ w1,w1=w.setRow g (List.take 0 (stC hs bl m.length) ++ hc ++ List.drop (0 + hc.length) (stC hs bl m.length)).toArray:=⟨_,rfl⟩
  have HRY:Hid (Ready w1 g m):=by
   refine ⟨bl,?_,H64.out,HTK.out⟩
   rw [hw1,HRow.out]
   have e:Sha.H0=Sha.absorb m:=by rw [HM0.out]; rfl
   rw [e]
   exact HB.out.row
  have HON:Hid (w.grownBy w1 (some g)):=by unfold Hid; rw [hw1]; exact only_setRow (only_refl w _) (.inl rfl) _
  have HRx:=Lib.hid (HR.out.grown HON.out HNE.out)
  rw [<- hw1]
  clear hw1 HI HL HF H1 HRow HB cN HTK HAB h0b HM0 HR
  simp only [Act.put]
  go_loopw [1] (fun v wr=>∃ (A:Option Addr) (n c:Nat) (l1 l2:List UInt8),v = .slice A n c/\Hid (l1 ++ l2=l)/\Hid (Rd wr A n c l2)/\Hid (0 < n->∀ ad,A=some ad->ad.block ≠ g)/\Hid (Ready wr g (m ++ l1))/\Hid (w.grownBy wr (some g))) (fun v _=>slen v)
  case atStart=>exact ⟨A,n,c,[],l,rfl,rfl,HRx,HNE,by unfold Hid; rw [List.append_nil]; exact HRY,HON⟩
  case round =>
   clear HRY HON HRx HNE
   obtain ⟨A,n,c,l1,l2,rfl,HL,HR,HNE,HRY,HON⟩:=hrel
   by_cases hn:0 < n
   ·obtain ⟨bl,hB,hl64,htk⟩:=HRY.out
    have hlen:l1.length + l2.length=l.length:=by rw [<- HL.out,List.length_append]
    have hcap:=HR.out.cap
    have hmax:=HR.out.max
    have hln:=HR.out.len
    unfold maxLen at hmax
    obtain ⟨b,off,rfl,hblt,hcell⟩:=HR.out.at_ hn
    obtain ⟨M,hM⟩:∃ M,M=m ++ l1:=⟨_,rfl⟩
    rw [<- hM] at hB htk
    have hMl:M.length=m.length + l1.length:=by rw [hM,List.length_append]
    obtain ⟨N,hN⟩:∃ N,N=M.length:=⟨_,rfl⟩
    obtain ⟨a,ha⟩:∃ a,a=M.length % 64:=⟨_,rfl⟩
    have ha64:a < 64:=by omega
    have hNb:N<=1099511627776:=by omega
    have hea:(N:Int) % 64=(a:Int):=by omega
    obtain ⟨k,hk⟩:∃ k,k=min n (64 - a):=⟨_,rfl⟩
    have hk1:k<=n:=by omega
    have hk2:a + k<=64:=by omega
    have hk0:0 < k:=by omega
    obtain ⟨w2,hcopy,hB2,hO2⟩:=copy_step hB hl64 HR.out hk ha64
    have cN:wr.cell? ⟨g,72,none⟩=some (.int .u64 (N:Int)):=by rw [hB.cell,hN]; exact stC_len _ bl _ (Sha.absorb_length M) hl64
    obtain ⟨x,hx⟩:∃ x,x=l2.take k:=⟨_,rfl⟩
    have hxl:x.length=k:=by rw [hx,List.length_take]; omega
    rw [<- hx] at hB2
    have hbl2:(bl.take a ++ x ++ bl.drop (a + x.length)).length=64:=by simp; omega
    have cN2:w2.cell? ⟨g,72,none⟩=some (.int .u64 (N:Int)):=by rw [hB2.cell,hN]; exact stC_len _ _ _ (Sha.absorb_length M) hbl2
    have fN2:w2.frozen? ⟨g,72,none⟩=false:=hB2.frozen 72
    have hsl:=slice_l (some ⟨b,off,none⟩) n c k hk1 w2
    have hat:=sliceAt_l 111 64 Tryd.underlying111 g 8 a ha64 wr
    obtain ⟨w3,hw3⟩:∃ w3,w3=w2.setCell ⟨g,72,none⟩ (.int .u64 ((N:Int) + (k:Int))):=⟨_,rfl⟩
    have HB3:Hid (Blk w3 g 113 (stC (Sha.absorb M) (bl.take (M.length % 64) ++ x ++ bl.drop (M.length % 64 + x.length)) (M ++ x).length)):=by
     have:=hB2.set_ 72 (.int .u64 (((M ++ x).length:Nat):Int))
     rw [stC_newLen _ _ _ _ (Sha.absorb_length M) hbl2] at this
     unfold Hid
     rw [<- ha,hw3]
     rw [List.length_append,hxl,<- hN] at this ⊢
     exact this
    have HO3:Hid (wr.grownBy w3 (some g)):=by unfold Hid; rw [hw3]; exact only_setCell hO2 (.inl rfl) _
    have HR3:Hid (Rd w3 (cutA (some ⟨b,off,none⟩) c k) (n - k) (c - k) (l2.drop k)):=by
     have h1:=(HR.out.grown HO3.out HNE.out).cut (k:=k) (e:=n) hk1 (Nat.le_refl _)
     rw [List.take_of_length_le (by rw [List.length_drop]; omega)] at h1
     exact h1
    have HN3:Hid (0 < n - k->∀ ad,cutA (some ⟨b,off,none⟩) c k=some ad->ad.block ≠ g):=fun _ ad had=>by
     obtain ⟨a0,e0,e1⟩:=cut_block had
     rw [<- e1]
     exact HNE.out hn a0 e0
    have HL3:Hid (l1 ++ x ++ l2.drop k=l):=by unfold Hid; rw [hx,List.append_assoc,List.take_append_drop,HL.out]
    have HM3:Hid (M ++ x=m ++ (l1 ++ x)):=by unfold Hid; rw [hM,List.append_assoc]
    have HON3:Hid (w.grownBy w3 (some g)):=only_trans HON.out HO3.out
    have HTK:=Lib.hid htk
    have H64':=Lib.hid hl64
    have HA:=Lib.hid ha
    have HX:=Lib.hid hxl
    have HW3:=Lib.hid hw3
    clear hw3 ha hxl hx hl64 htk hB2 hB hO2 hbl2 hM hMl hN hk hcell hln hlen HR HNE HL HRY hblt
    by_cases hf:a + k=64
    ·have hfb:((a:Int) + (k:Int) == 64)=true:=by simp; omega
     have HBF:Hid (Blk w3 g 113 (stC (Sha.absorb M) (M.drop (64 * (M.length / 64)) ++ x) (M ++ x).length)):=by
      have:=HB3.out
      rw [full_block H64'.out HTK.out (by rw [<- HA.out,HX.out]; omega)] at this
      exact this
     have HXM:Hid (M.length % 64 + x.length=64):=by unfold Hid; rw [<- HA.out,HX.out]; omega
     have HFL:Hid ((M.drop (64 * (M.length / 64)) ++ x).length=64):=by have:=HXM.out; unfold Hid; rw [List.length_append,List.length_drop]; omega
     obtain ⟨F,hF⟩:∃ F,F=M.drop (64 * (M.length / 64)) ++ x:=⟨_,rfl⟩
     rw [<- hF] at HBF HFL
     have HF:=Lib.hid hF
     obtain ⟨sc,hsc⟩:∃ sc,sc=(Sha.absorb M).map wd:=⟨_,rfl⟩
     obtain ⟨bc,hbc⟩:∃ bc,bc=F.map cellOf:=⟨_,rfl⟩
     have HI50:Hid ((Tryd.prog.info? 110).map (·.size)=some sc.length):=by unfold Hid; rw [hsc,List.length_map,Sha.absorb_length]; kernel_rfl
     have HI51:Hid ((Tryd.prog.info? 111).map (·.size)=some bc.length):=by unfold Hid; rw [hbc,List.length_map,HFL.out]; kernel_rfl
     have HS4:Hid (w3.drew.rangeAt g 0 sc):=by
      intro j v hv
      rw [hsc] at hv
      rw [HBF.out.drew.cell]
      exact stC_sums _ _ _ (Sha.absorb_length M) j v hv
     have HBk:Hid (w3.drew.rangeAt g 8 bc):=by
      intro j v hv
      rw [hbc] at hv
      rw [HBF.out.drew.cell]
      exact stC_block _ _ _ (Sha.absorb_length M) HFL.out j v hv
     have HWo:Hid (∀ W:World,Calls Tryd.prog 65 #[.agg bc.toArray] W fun e w'=>e = .returned (.agg ((Sha.sched F).map wd).toArray)/\Below W.heap.size W w'):=by
      unfold Hid
      intro W
      rw [hbc]
      exact words_any F W HFL.out
     have HMi:Hid (∀ W:World,Gl W->Calls Tryd.prog 64 #[.agg sc.toArray,.agg ((Sha.sched F).map wd).toArray] W fun e w'=>e = .returned (.agg ((Sha.comp (Sha.absorb M) F).map wd).toArray)/\Below W.heap.size W w'):=by
      unfold Hid
      intro W hG
      rw [hsc]
      exact mix_any (Sha.absorb M) (Sha.sched F) W hG (Sha.absorb_length M) (Sha.sched_length F HFL.out)
     obtain ⟨sw,hsw⟩:∃ sw,sw=(Sha.sched F).map wd:=⟨_,rfl⟩
     obtain ⟨rc,hrc⟩:∃ rc,rc=(Sha.comp (Sha.absorb M) F).map wd:=⟨_,rfl⟩
     rw [<- hsw,<- hrc] at HMi
     rw [<- hsw] at HWo
     have HSC:=Lib.hid hsc
     have HIR:Hid ((Tryd.prog.info? 110).map (·.size)=some rc.length):=by unfold Hid; rw [hrc,List.length_map,Sha.comp_length _ _ (Sha.absorb_length M)]; kernel_rfl
     have HFR:Hid (0 + rc.length<=(stC (Sha.absorb M) F (M ++ x).length).length):=by unfold Hid; rw [hrc,List.length_map,Sha.comp_length _ _ (Sha.absorb_length M),stC_length _ _ _ (Sha.absorb_length M) HFL.out]; omega
     have HR1:Hid (∀ v ∈ rc,v.oneCell'=true):=by unfold Hid; rw [hrc]; exact cells_wd _
     have HRow:Hid ((stC (Sha.absorb M) F (M ++ x).length).take 0 ++ rc ++ (stC (Sha.absorb M) F (M ++ x).length).drop (0 + rc.length)=stC (Sha.comp (Sha.absorb M) F) F (M ++ x).length):=by
      unfold Hid; rw [hrc]; exact stC_newSums _ _ _ _ (Sha.absorb_length M) (Sha.comp_length _ _ (Sha.absorb_length M))
     have HR4:=Lib.hid HR3.out.drew
     have HG4:Hid (Gl w3.drew):=(HG.out.only (only_drew HON3.out) h2)
     have HB4:=Lib.hid HBF.out.drew
     have HO4:=Lib.hid (only_drew HO3.out)
     clear hF hsc hbc hsw hrc hf
     clear HB3 HTK HO3 HON3 HBF H64'
     go_wp2_with fail
     rw [<- HW3.out]
     refine wp_region_any (by kernel_rfl) ?_
     change wpAny _ _ _ _ _ _ _ (World.drew _)
     clear HW3
     generalize w3.drew=w4 at *
     refine wpAny_take (i:=0) (oi:=?oi1a) (v:=.pointer (some ⟨g,0,none⟩)) ?hi1a (by kernel_rfl) (by kernel_rfl) (by kernel_rfl) ?hQ1a ?hy1a ?rest1a
     case hi1a=>simp only [zge]; rfl
     case hQ1a=>exact fun _ _ _ h=>h
     case hy1a=>exact Or.inl ⟨by rfl,by intro w; go_simp⟩
     try simp only [zpt]
     refine wpAny_take (i:=1) (oi:=?oi2a) (v:=.pointer (some ⟨g,0,none⟩)) ?hi2a (by kernel_rfl) (by kernel_rfl) (by kernel_rfl) ?hQ2a ?hy2a ?rest2a
     case hi2a=>simp only [zge]; rfl
     case hQ2a=>exact fun _ _ _ h=>h
     case hy2a=>exact Or.inl ⟨by rfl,by intro w; go_simp⟩
     try simp only [zpt]
     refine wpAny_take (i:=2) (oi:=?oi3a) (v:=.pointer (some ⟨g,0,none⟩)) ?hi3a (by kernel_rfl) (by kernel_rfl) (by kernel_rfl) ?hQ3a ?hy3a ?rest3a
     case hi3a=>simp only [zge]; rfl
     case hQ3a=>exact fun _ _ _ h=>h
     case hy3a=>exact Or.inl ⟨by rfl,by intro w; go_simp⟩
     try simp only [zpt]
     refine wpAny_take (i:=3) (oi:=?oi4a) (v:=.pointer (some ⟨g,0,none⟩)) ?hi4a (by kernel_rfl) (by kernel_rfl) (by kernel_rfl) ?hQ4a ?hy4a ?rest4a
     case hi4a=>simp only [zge]; rfl
     case hQ4a=>exact fun _ _ _ h=>h
     case hy4a=>exact Or.inl ⟨by rfl,by intro w; go_simp⟩
     try simp only [zpt]
     refine wpAny_take (i:=5) (oi:=?oi5a) (v:=.pointer (some ⟨g,0,none⟩)) ?hi5a (by kernel_rfl) (by kernel_rfl) (by kernel_rfl) ?hQ5a ?hy5a ?rest5a
     case hi5a=>simp only [zge]; rfl
     case hQ5a=>exact fun _ _ _ h=>h
     case hy5a=>exact Or.inl ⟨by rfl,by intro w; go_simp⟩
     try simp only [zpt]
     refine wpAny_take (i:=6) (oi:=?oi6a) (v:=.pointer (some ⟨g,0,none⟩)) ?hi6a (by kernel_rfl) (by kernel_rfl) (by kernel_rfl) ?hQ6a ?hy6a ?rest6a
     case hi6a=>simp only [zge]; rfl
     case hQ6a=>exact fun _ _ _ h=>h
     case hy6a=>exact Or.inl ⟨by rfl,by intro w; go_simp⟩
     try simp only [zpt]
     refine wpAny_take (i:=7) (oi:=?oi7a) (v:=.pointer (some ⟨g,8,none⟩)) ?hi7a (by kernel_rfl) (by kernel_rfl) (by kernel_rfl) ?hQ7a ?hy7a ?rest7a
     case hi7a=>simp only [zge]; rfl
     case hQ7a=>exact fun _ _ _ h=>h
     case hy7a=>exact Or.inl ⟨by rfl,by intro w; go_simp⟩
     try simp only [zpt]
     refine wpAny_ready (rs:=[4,8]) (by kernel_rfl) (by simp) ?_
     refine AllReady.cons (o:=?o8a) ?ho8a (fun K hK=>?_) ?more8a
     case ho8a=>simp only [zge]; rfl
     ·refine step_load rfl 110 (.tmp 52) rfl g 0 rfl sc _ HS4.out Tryd.underlying110 rfl HI50.out (hK _ _ ?_)
      clear hK K
      try simp only [zpt]
      refine wpAny_ready (rs:=[8]) (by kernel_rfl) (by simp) ?_
      refine AllReady.cons (o:=?o9a) ?ho9a (fun K hK=>?_) AllReady.nil
      case ho9a=>simp only [zge]; rfl
      refine step_load rfl 111 (.tmp 56) rfl g 8 rfl bc _ HBk.out Tryd.underlying111 rfl HI51.out (hK _ _ ?_)
      clear hK K
      try simp only [zpt]
      refine wpAny_ready (rs:=[9]) (by kernel_rfl) (by simp) ?_
      refine AllReady.cons (o:=?o10a) ?ho10a (fun K hK=>?_) AllReady.nil
      case ho10a=>simp only [zge]; rfl
      go_simp
      refine (HWo.out _).mono ?_
      rintro e w5 ⟨rfl,HX5⟩
      have HB5:=Lib.hid (HB4.out.below HX5 HB4.out.lt)
      have HG5:=Lib.hid (HG4.out.below HX5 HG4.out.size)
      have HS5:=Lib.hid (rng_sums HB5.out (Sha.absorb_length M) HSC.out)
      have O5:=Lib.hid (only_of_below HX5 (some g))
      clear HX5
      refine hK _ _ ?_
      clear hK K
      try simp only [zpt]
      refine wpAny_ready (rs:=[10]) (by kernel_rfl) (by simp) ?_
      refine AllReady.cons (o:=?o11a) ?ho11a (fun K hK=>?_) AllReady.nil
      case ho11a=>simp only [zge]; rfl
      go_simp
      refine (HMi.out _ HG5.out).mono ?_
      rintro e w6 ⟨rfl,HX6⟩
      have HB6:=Lib.hid (HB5.out.below HX6 HB5.out.lt)
      have O6:=Lib.hid (only_trans O5.out (only_of_below HX6 (some g)))
      clear HX6
      refine hK _ _ ?_
      clear hK K
      try simp only [zpt]
      refine wpAny_take (i:=11) (oi:=?oi12a) (v:=.pointer (some ⟨g,0,none⟩)) ?hi12a (by kernel_rfl) (by kernel_rfl) (by kernel_rfl) ?hQ12a ?hy12a ?rest12a
      case hi12a=>simp only [zge]; rfl
      case hQ12a=>exact fun _ _ _ h=>h
      case hy12a=>exact Or.inl ⟨by rfl,by intro w; go_simp⟩
      try simp only [zpt]
      refine wpAny_take (i:=12) (oi:=?oi13a) (v:=.pointer (some ⟨g,0,none⟩)) ?hi13a (by kernel_rfl) (by kernel_rfl) (by kernel_rfl) ?hQ13a ?hy13a ?rest13a
      case hi13a=>simp only [zge]; rfl
      case hQ13a=>exact fun _ _ _ h=>h
      case hy13a=>exact Or.inl ⟨by rfl,by intro w; go_simp⟩
      try simp only [zpt]
      refine wpAny_ready (rs:=[13]) (by kernel_rfl) (by simp) ?_
      refine AllReady.cons (o:=?o14a) ?ho14a (fun K hK=>?_) AllReady.nil
      case ho14a=>simp only [zge]; rfl
      refine step_store rfl 110 (.tmp 61) (.tmp 59) rfl g 0 rfl rc rfl 113 _ HB6.out HIR.out HFR.out HR1.out (hK _ _ ?_)
      clear hK K
      have HB7:=Lib.hid (HB6.out.row (cs':=(stC (Sha.absorb M) F (M ++ x).length).take 0 ++ rc ++ (stC (Sha.absorb M) F (M ++ x).length).drop (0 + rc.length)))
      have O7:=Lib.hid (only_setRow O6.out (.inl rfl) ((stC (Sha.absorb M) F (M ++ x).length).take 0 ++ rc ++ (stC (Sha.absorb M) F (M ++ x).length).drop (0 + rc.length)).toArray)
      generalize w6.setRow g _=w7 at *
      try simp only [Act.put]
      refine wpAny_done (by kernel_rfl) ?_ _
      have HRY7:Hid (Ready w7 g (m ++ (l1 ++ x))):=by
       unfold Hid
       rw [<- HM3.out]
       refine ready_full ?_ HXM.out
       have:=HB7.out
       rw [HRow.out,HF.out] at this
       exact this
      have HR7:=Lib.hid (HR4.out.grown O7.out HN3.out)
      have HON7:=Lib.hid (only_trans HON.out (only_trans HO4.out O7.out))
      clear HB4 HB5 HB6 HB7 O5 O6 O7 HS4 HBk HS5
      go_wp2_with fail
      go_roundw
      case rel=>exact ⟨_,_,_,l1 ++ x,l2.drop k,rfl,HL3,HR7,HN3,HRY7,HON7⟩
      case measure=>simp [slen]; omega
     case more8a =>
      refine AllReady.cons (o:=?o15a) ?ho15a (fun K hK=>?_) AllReady.nil
      case ho15a=>simp only [zge]; rfl
      refine step_load rfl 111 (.tmp 56) rfl g 8 rfl bc _ HBk.out Tryd.underlying111 rfl HI51.out (hK _ _ ?_)
      clear hK K
      try simp only [zpt]
      refine wpAny_ready (rs:=[4,9]) (by kernel_rfl) (by simp) ?_
      refine AllReady.cons (o:=?o16a) ?ho16a (fun K hK=>?_) ?more16a
      case ho16a=>simp only [zge]; rfl
      ·refine step_load rfl 110 (.tmp 52) rfl g 0 rfl sc _ HS4.out Tryd.underlying110 rfl HI50.out (hK _ _ ?_)
       clear hK K
       try simp only [zpt]
       refine wpAny_ready (rs:=[9]) (by kernel_rfl) (by simp) ?_
       refine AllReady.cons (o:=?o17a) ?ho17a (fun K hK=>?_) AllReady.nil
       case ho17a=>simp only [zge]; rfl
       go_simp
       refine (HWo.out _).mono ?_
       rintro e w5 ⟨rfl,HX5⟩
       have HB5:=Lib.hid (HB4.out.below HX5 HB4.out.lt)
       have HG5:=Lib.hid (HG4.out.below HX5 HG4.out.size)
       have HS5:=Lib.hid (rng_sums HB5.out (Sha.absorb_length M) HSC.out)
       have O5:=Lib.hid (only_of_below HX5 (some g))
       clear HX5
       refine hK _ _ ?_
       clear hK K
       try simp only [zpt]
       refine wpAny_ready (rs:=[10]) (by kernel_rfl) (by simp) ?_
       refine AllReady.cons (o:=?o18a) ?ho18a (fun K hK=>?_) AllReady.nil
       case ho18a=>simp only [zge]; rfl
       go_simp
       refine (HMi.out _ HG5.out).mono ?_
       rintro e w6 ⟨rfl,HX6⟩
       have HB6:=Lib.hid (HB5.out.below HX6 HB5.out.lt)
       have O6:=Lib.hid (only_trans O5.out (only_of_below HX6 (some g)))
       clear HX6
       refine hK _ _ ?_
       clear hK K
       try simp only [zpt]
       refine wpAny_take (i:=11) (oi:=?oi19a) (v:=.pointer (some ⟨g,0,none⟩)) ?hi19a (by kernel_rfl) (by kernel_rfl) (by kernel_rfl) ?hQ19a ?hy19a ?rest19a
       case hi19a=>simp only [zge]; rfl
       case hQ19a=>exact fun _ _ _ h=>h
       case hy19a=>exact Or.inl ⟨by rfl,by intro w; go_simp⟩
       try simp only [zpt]
       refine wpAny_take (i:=12) (oi:=?oi20a) (v:=.pointer (some ⟨g,0,none⟩)) ?hi20a (by kernel_rfl) (by kernel_rfl) (by kernel_rfl) ?hQ20a ?hy20a ?rest20a
       case hi20a=>simp only [zge]; rfl
       case hQ20a=>exact fun _ _ _ h=>h
       case hy20a=>exact Or.inl ⟨by rfl,by intro w; go_simp⟩
       try simp only [zpt]
       refine wpAny_ready (rs:=[13]) (by kernel_rfl) (by simp) ?_
       refine AllReady.cons (o:=?o21a) ?ho21a (fun K hK=>?_) AllReady.nil
       case ho21a=>simp only [zge]; rfl
       refine step_store rfl 110 (.tmp 61) (.tmp 59) rfl g 0 rfl rc rfl 113 _ HB6.out HIR.out HFR.out HR1.out (hK _ _ ?_)
       clear hK K
       have HB7:=Lib.hid (HB6.out.row (cs':=(stC (Sha.absorb M) F (M ++ x).length).take 0 ++ rc ++ (stC (Sha.absorb M) F (M ++ x).length).drop (0 + rc.length)))
       have O7:=Lib.hid (only_setRow O6.out (.inl rfl) ((stC (Sha.absorb M) F (M ++ x).length).take 0 ++ rc ++ (stC (Sha.absorb M) F (M ++ x).length).drop (0 + rc.length)).toArray)
       generalize w6.setRow g _=w7 at *
       try simp only [Act.put]
       refine wpAny_done (by kernel_rfl) ?_ _
       have HRY7:Hid (Ready w7 g (m ++ (l1 ++ x))):=by
        unfold Hid
        rw [<- HM3.out]
        refine ready_full ?_ HXM.out
        have:=HB7.out
        rw [HRow.out,HF.out] at this
        exact this
       have HR7:=Lib.hid (HR4.out.grown O7.out HN3.out)
       have HON7:=Lib.hid (only_trans HON.out (only_trans HO4.out O7.out))
       clear HB4 HB5 HB6 HB7 O5 O6 O7 HS4 HBk HS5
       go_wp2_with fail
       go_roundw
       case rel=>exact ⟨_,_,_,l1 ++ x,l2.drop k,rfl,HL3,HR7,HN3,HRY7,HON7⟩
       case measure=>simp [slen]; omega
      case more16a =>
       refine AllReady.cons (o:=?o22a) ?ho22a (fun K hK=>?_) AllReady.nil
       case ho22a=>simp only [zge]; rfl
       go_simp
       refine (HWo.out _).mono ?_
       rintro e w5 ⟨rfl,HX5⟩
       have HB5:=Lib.hid (HB4.out.below HX5 HB4.out.lt)
       have HG5:=Lib.hid (HG4.out.below HX5 HG4.out.size)
       have HS5:=Lib.hid (rng_sums HB5.out (Sha.absorb_length M) HSC.out)
       have O5:=Lib.hid (only_of_below HX5 (some g))
       clear HX5
       refine hK _ _ ?_
       clear hK K
       try simp only [zpt]
       refine wpAny_ready (rs:=[4]) (by kernel_rfl) (by simp) ?_
       refine AllReady.cons (o:=?o23a) ?ho23a (fun K hK=>?_) AllReady.nil
       case ho23a=>simp only [zge]; rfl
       refine step_load rfl 110 (.tmp 52) rfl g 0 rfl sc _ HS5.out Tryd.underlying110 rfl HI50.out (hK _ _ ?_)
       clear hK K
       try simp only [zpt]
       refine wpAny_ready (rs:=[10]) (by kernel_rfl) (by simp) ?_
       refine AllReady.cons (o:=?o24a) ?ho24a (fun K hK=>?_) AllReady.nil
       case ho24a=>simp only [zge]; rfl
       go_simp
       refine (HMi.out _ HG5.out).mono ?_
       rintro e w6 ⟨rfl,HX6⟩
       have HB6:=Lib.hid (HB5.out.below HX6 HB5.out.lt)
       have O6:=Lib.hid (only_trans O5.out (only_of_below HX6 (some g)))
       clear HX6
       refine hK _ _ ?_
       clear hK K
       try simp only [zpt]
       refine wpAny_take (i:=11) (oi:=?oi25a) (v:=.pointer (some ⟨g,0,none⟩)) ?hi25a (by kernel_rfl) (by kernel_rfl) (by kernel_rfl) ?hQ25a ?hy25a ?rest25a
       case hi25a=>simp only [zge]; rfl
       case hQ25a=>exact fun _ _ _ h=>h
       case hy25a=>exact Or.inl ⟨by rfl,by intro w; go_simp⟩
       try simp only [zpt]
       refine wpAny_take (i:=12) (oi:=?oi26a) (v:=.pointer (some ⟨g,0,none⟩)) ?hi26a (by kernel_rfl) (by kernel_rfl) (by kernel_rfl) ?hQ26a ?hy26a ?rest26a
       case hi26a=>simp only [zge]; rfl
       case hQ26a=>exact fun _ _ _ h=>h
       case hy26a=>exact Or.inl ⟨by rfl,by intro w; go_simp⟩
       try simp only [zpt]
       refine wpAny_ready (rs:=[13]) (by kernel_rfl) (by simp) ?_
       refine AllReady.cons (o:=?o27a) ?ho27a (fun K hK=>?_) AllReady.nil
       case ho27a=>simp only [zge]; rfl
       refine step_store rfl 110 (.tmp 61) (.tmp 59) rfl g 0 rfl rc rfl 113 _ HB6.out HIR.out HFR.out HR1.out (hK _ _ ?_)
       clear hK K
       have HB7:=Lib.hid (HB6.out.row (cs':=(stC (Sha.absorb M) F (M ++ x).length).take 0 ++ rc ++ (stC (Sha.absorb M) F (M ++ x).length).drop (0 + rc.length)))
       have O7:=Lib.hid (only_setRow O6.out (.inl rfl) ((stC (Sha.absorb M) F (M ++ x).length).take 0 ++ rc ++ (stC (Sha.absorb M) F (M ++ x).length).drop (0 + rc.length)).toArray)
       generalize w6.setRow g _=w7 at *
       try simp only [Act.put]
       refine wpAny_done (by kernel_rfl) ?_ _
       have HRY7:Hid (Ready w7 g (m ++ (l1 ++ x))):=by
        unfold Hid
        rw [<- HM3.out]
        refine ready_full ?_ HXM.out
        have:=HB7.out
        rw [HRow.out,HF.out] at this
        exact this
       have HR7:=Lib.hid (HR4.out.grown O7.out HN3.out)
       have HON7:=Lib.hid (only_trans HON.out (only_trans HO4.out O7.out))
       clear HB4 HB5 HB6 HB7 O5 O6 O7 HS4 HBk HS5
       go_wp2_with fail
       go_roundw
       case rel=>exact ⟨_,_,_,l1 ++ x,l2.drop k,rfl,HL3,HR7,HN3,HRY7,HON7⟩
       case measure=>simp [slen]; omega
    ·have hfb:((a:Int) + (k:Int) == 64)=false:=by simp; omega
     have HRY3:Hid (Ready w3 g (m ++ (l1 ++ x))):=by
      unfold Hid
      rw [<- HM3.out]
      exact ready_less HB3.out H64'.out HTK.out (by rw [<- HA.out,HX.out]; omega)
     clear hf
     go_wp2_with fail
     rw [<- HW3.out]
     go_roundw
     case rel=>exact ⟨_,_,_,l1 ++ x,l2.drop k,rfl,HL3,HR3,HN3,HRY3,HON3⟩
     case measure=>simp [slen]; omega
   ·have hl2:l2=[]:=List.eq_nil_of_length_eq_zero (by have:=HR.out.len; omega)
    have HRYe:Hid (Ready wr g (m ++ l)):=by
     have:=HL.out
     rw [hl2,List.append_nil] at this
     rw [<- this]
     exact HRY
    clear hl2
    go_wp2_with fail
    go_end0
    exact ⟨rfl,HRYe.out,HON.out⟩
 ·have h0b:((m.length:Int) == 0)=false:=by simp; exact List.ne_nil_of_length_pos (by omega)
  go_enter Tryd.func47,Tryd.ntmps47
  go_wp2_with fail
  have HRY:Hid (Ready w g m):=by
   have:=HAB.out (List.ne_nil_of_length_pos (by omega))
   subst this
   exact ⟨bl,HB.out,H64.out,HTK.out⟩
  have HON:=Lib.hid (only_refl w (some g))
  have HRx:=HR
  clear cN HB HTK HAB h0b h0 HR
  go_loopw [1] (fun v wr=>∃ (A:Option Addr) (n c:Nat) (l1 l2:List UInt8),v = .slice A n c/\Hid (l1 ++ l2=l)/\Hid (Rd wr A n c l2)/\Hid (0 < n->∀ ad,A=some ad->ad.block ≠ g)/\Hid (Ready wr g (m ++ l1))/\Hid (w.grownBy wr (some g))) (fun v _=>slen v)
  case atStart=>exact ⟨A,n,c,[],l,rfl,rfl,HRx,HNE,by unfold Hid; rw [List.append_nil]; exact HRY,HON⟩
  case round =>
   clear HRY HON HRx HNE
   obtain ⟨A,n,c,l1,l2,rfl,HL,HR,HNE,HRY,HON⟩:=hrel
   by_cases hn:0 < n
   ·obtain ⟨bl,hB,hl64,htk⟩:=HRY.out
    have hlen:l1.length + l2.length=l.length:=by rw [<- HL.out,List.length_append]
    have hcap:=HR.out.cap
    have hmax:=HR.out.max
    have hln:=HR.out.len
    unfold maxLen at hmax
    obtain ⟨b,off,rfl,hblt,hcell⟩:=HR.out.at_ hn
    obtain ⟨M,hM⟩:∃ M,M=m ++ l1:=⟨_,rfl⟩
    rw [<- hM] at hB htk
    have hMl:M.length=m.length + l1.length:=by rw [hM,List.length_append]
    obtain ⟨N,hN⟩:∃ N,N=M.length:=⟨_,rfl⟩
    obtain ⟨a,ha⟩:∃ a,a=M.length % 64:=⟨_,rfl⟩
    have ha64:a < 64:=by omega
    have hNb:N<=1099511627776:=by omega
    have hea:(N:Int) % 64=(a:Int):=by omega
    obtain ⟨k,hk⟩:∃ k,k=min n (64 - a):=⟨_,rfl⟩
    have hk1:k<=n:=by omega
    have hk2:a + k<=64:=by omega
    have hk0:0 < k:=by omega
    obtain ⟨w2,hcopy,hB2,hO2⟩:=copy_step hB hl64 HR.out hk ha64
    have cN:wr.cell? ⟨g,72,none⟩=some (.int .u64 (N:Int)):=by rw [hB.cell,hN]; exact stC_len _ bl _ (Sha.absorb_length M) hl64
    obtain ⟨x,hx⟩:∃ x,x=l2.take k:=⟨_,rfl⟩
    have hxl:x.length=k:=by rw [hx,List.length_take]; omega
    rw [<- hx] at hB2
    have hbl2:(bl.take a ++ x ++ bl.drop (a + x.length)).length=64:=by simp; omega
    have cN2:w2.cell? ⟨g,72,none⟩=some (.int .u64 (N:Int)):=by rw [hB2.cell,hN]; exact stC_len _ _ _ (Sha.absorb_length M) hbl2
    have fN2:w2.frozen? ⟨g,72,none⟩=false:=hB2.frozen 72
    have hsl:=slice_l (some ⟨b,off,none⟩) n c k hk1 w2
    have hat:=sliceAt_l 111 64 Tryd.underlying111 g 8 a ha64 wr
    obtain ⟨w3,hw3⟩:∃ w3,w3=w2.setCell ⟨g,72,none⟩ (.int .u64 ((N:Int) + (k:Int))):=⟨_,rfl⟩
    have HB3:Hid (Blk w3 g 113 (stC (Sha.absorb M) (bl.take (M.length % 64) ++ x ++ bl.drop (M.length % 64 + x.length)) (M ++ x).length)):=by
     have:=hB2.set_ 72 (.int .u64 (((M ++ x).length:Nat):Int))
     rw [stC_newLen _ _ _ _ (Sha.absorb_length M) hbl2] at this
     unfold Hid
     rw [<- ha,hw3]
     rw [List.length_append,hxl,<- hN] at this ⊢
     exact this
    have HO3:Hid (wr.grownBy w3 (some g)):=by unfold Hid; rw [hw3]; exact only_setCell hO2 (.inl rfl) _
    have HR3:Hid (Rd w3 (cutA (some ⟨b,off,none⟩) c k) (n - k) (c - k) (l2.drop k)):=by
     have h1:=(HR.out.grown HO3.out HNE.out).cut (k:=k) (e:=n) hk1 (Nat.le_refl _)
     rw [List.take_of_length_le (by rw [List.length_drop]; omega)] at h1
     exact h1
    have HN3:Hid (0 < n - k->∀ ad,cutA (some ⟨b,off,none⟩) c k=some ad->ad.block ≠ g):=fun _ ad had=>by
     obtain ⟨a0,e0,e1⟩:=cut_block had
     rw [<- e1]
     exact HNE.out hn a0 e0
    have HL3:Hid (l1 ++ x ++ l2.drop k=l):=by unfold Hid; rw [hx,List.append_assoc,List.take_append_drop,HL.out]
    have HM3:Hid (M ++ x=m ++ (l1 ++ x)):=by unfold Hid; rw [hM,List.append_assoc]
    have HON3:Hid (w.grownBy w3 (some g)):=only_trans HON.out HO3.out
    have HTK:=Lib.hid htk
    have H64':=Lib.hid hl64
    have HA:=Lib.hid ha
    have HX:=Lib.hid hxl
    have HW3:=Lib.hid hw3
    clear hw3 ha hxl hx hl64 htk hB2 hB hO2 hbl2 hM hMl hN hk hcell hln hlen HR HNE HL HRY hblt
    by_cases hf:a + k=64
    ·have hfb:((a:Int) + (k:Int) == 64)=true:=by simp; omega
     have HBF:Hid (Blk w3 g 113 (stC (Sha.absorb M) (M.drop (64 * (M.length / 64)) ++ x) (M ++ x).length)):=by
      have:=HB3.out
      rw [full_block H64'.out HTK.out (by rw [<- HA.out,HX.out]; omega)] at this
      exact this
     have HXM:Hid (M.length % 64 + x.length=64):=by unfold Hid; rw [<- HA.out,HX.out]; omega
     have HFL:Hid ((M.drop (64 * (M.length / 64)) ++ x).length=64):=by have:=HXM.out; unfold Hid; rw [List.length_append,List.length_drop]; omega
     obtain ⟨F,hF⟩:∃ F,F=M.drop (64 * (M.length / 64)) ++ x:=⟨_,rfl⟩
     rw [<- hF] at HBF HFL
     have HF:=Lib.hid hF
     obtain ⟨sc,hsc⟩:∃ sc,sc=(Sha.absorb M).map wd:=⟨_,rfl⟩
     obtain ⟨bc,hbc⟩:∃ bc,bc=F.map cellOf:=⟨_,rfl⟩
     have HI50:Hid ((Tryd.prog.info? 110).map (·.size)=some sc.length):=by unfold Hid; rw [hsc,List.length_map,Sha.absorb_length]; kernel_rfl
     have HI51:Hid ((Tryd.prog.info? 111).map (·.size)=some bc.length):=by unfold Hid; rw [hbc,List.length_map,HFL.out]; kernel_rfl
     have HS4:Hid (w3.drew.rangeAt g 0 sc):=by
      intro j v hv
      rw [hsc] at hv
      rw [HBF.out.drew.cell]
      exact stC_sums _ _ _ (Sha.absorb_length M) j v hv
     have HBk:Hid (w3.drew.rangeAt g 8 bc):=by
      intro j v hv
      rw [hbc] at hv
      rw [HBF.out.drew.cell]
      exact stC_block _ _ _ (Sha.absorb_length M) HFL.out j v hv
     have HWo:Hid (∀ W:World,Calls Tryd.prog 65 #[.agg bc.toArray] W fun e w'=>e = .returned (.agg ((Sha.sched F).map wd).toArray)/\Below W.heap.size W w'):=by
      unfold Hid
      intro W
      rw [hbc]
      exact words_any F W HFL.out
     have HMi:Hid (∀ W:World,Gl W->Calls Tryd.prog 64 #[.agg sc.toArray,.agg ((Sha.sched F).map wd).toArray] W fun e w'=>e = .returned (.agg ((Sha.comp (Sha.absorb M) F).map wd).toArray)/\Below W.heap.size W w'):=by
      unfold Hid
      intro W hG
      rw [hsc]
      exact mix_any (Sha.absorb M) (Sha.sched F) W hG (Sha.absorb_length M) (Sha.sched_length F HFL.out)
     obtain ⟨sw,hsw⟩:∃ sw,sw=(Sha.sched F).map wd:=⟨_,rfl⟩
     obtain ⟨rc,hrc⟩:∃ rc,rc=(Sha.comp (Sha.absorb M) F).map wd:=⟨_,rfl⟩
     rw [<- hsw,<- hrc] at HMi
     rw [<- hsw] at HWo
     have HSC:=Lib.hid hsc
     have HIR:Hid ((Tryd.prog.info? 110).map (·.size)=some rc.length):=by unfold Hid; rw [hrc,List.length_map,Sha.comp_length _ _ (Sha.absorb_length M)]; kernel_rfl
     have HFR:Hid (0 + rc.length<=(stC (Sha.absorb M) F (M ++ x).length).length):=by unfold Hid; rw [hrc,List.length_map,Sha.comp_length _ _ (Sha.absorb_length M),stC_length _ _ _ (Sha.absorb_length M) HFL.out]; omega
     have HR1:Hid (∀ v ∈ rc,v.oneCell'=true):=by unfold Hid; rw [hrc]; exact cells_wd _
     have HRow:Hid ((stC (Sha.absorb M) F (M ++ x).length).take 0 ++ rc ++ (stC (Sha.absorb M) F (M ++ x).length).drop (0 + rc.length)=stC (Sha.comp (Sha.absorb M) F) F (M ++ x).length):=by
      unfold Hid; rw [hrc]; exact stC_newSums _ _ _ _ (Sha.absorb_length M) (Sha.comp_length _ _ (Sha.absorb_length M))
     have HR4:=Lib.hid HR3.out.drew
     have HG4:Hid (Gl w3.drew):=(HG.out.only (only_drew HON3.out) h2)
     have HB4:=Lib.hid HBF.out.drew
     have HO4:=Lib.hid (only_drew HO3.out)
     clear hF hsc hbc hsw hrc hf
     clear HB3 HTK HO3 HON3 HBF H64'
     go_wp2_with fail
     rw [<- HW3.out]
     refine wp_region_any (by kernel_rfl) ?_
     change wpAny _ _ _ _ _ _ _ (World.drew _)
     clear HW3
     generalize w3.drew=w4 at *
     refine wpAny_take (i:=0) (oi:=?oi1b) (v:=.pointer (some ⟨g,0,none⟩)) ?hi1b (by kernel_rfl) (by kernel_rfl) (by kernel_rfl) ?hQ1b ?hy1b ?rest1b
     case hi1b=>simp only [zge]; rfl
     case hQ1b=>exact fun _ _ _ h=>h
     case hy1b=>exact Or.inl ⟨by rfl,by intro w; go_simp⟩
     try simp only [zpt]
     refine wpAny_take (i:=1) (oi:=?oi2b) (v:=.pointer (some ⟨g,0,none⟩)) ?hi2b (by kernel_rfl) (by kernel_rfl) (by kernel_rfl) ?hQ2b ?hy2b ?rest2b
     case hi2b=>simp only [zge]; rfl
     case hQ2b=>exact fun _ _ _ h=>h
     case hy2b=>exact Or.inl ⟨by rfl,by intro w; go_simp⟩
     try simp only [zpt]
     refine wpAny_take (i:=2) (oi:=?oi3b) (v:=.pointer (some ⟨g,0,none⟩)) ?hi3b (by kernel_rfl) (by kernel_rfl) (by kernel_rfl) ?hQ3b ?hy3b ?rest3b
     case hi3b=>simp only [zge]; rfl
     case hQ3b=>exact fun _ _ _ h=>h
     case hy3b=>exact Or.inl ⟨by rfl,by intro w; go_simp⟩
     try simp only [zpt]
     refine wpAny_take (i:=3) (oi:=?oi4b) (v:=.pointer (some ⟨g,0,none⟩)) ?hi4b (by kernel_rfl) (by kernel_rfl) (by kernel_rfl) ?hQ4b ?hy4b ?rest4b
     case hi4b=>simp only [zge]; rfl
     case hQ4b=>exact fun _ _ _ h=>h
     case hy4b=>exact Or.inl ⟨by rfl,by intro w; go_simp⟩
     try simp only [zpt]
     refine wpAny_take (i:=5) (oi:=?oi5b) (v:=.pointer (some ⟨g,0,none⟩)) ?hi5b (by kernel_rfl) (by kernel_rfl) (by kernel_rfl) ?hQ5b ?hy5b ?rest5b
     case hi5b=>simp only [zge]; rfl
     case hQ5b=>exact fun _ _ _ h=>h
     case hy5b=>exact Or.inl ⟨by rfl,by intro w; go_simp⟩
     try simp only [zpt]
     refine wpAny_take (i:=6) (oi:=?oi6b) (v:=.pointer (some ⟨g,0,none⟩)) ?hi6b (by kernel_rfl) (by kernel_rfl) (by kernel_rfl) ?hQ6b ?hy6b ?rest6b
     case hi6b=>simp only [zge]; rfl
     case hQ6b=>exact fun _ _ _ h=>h
     case hy6b=>exact Or.inl ⟨by rfl,by intro w; go_simp⟩
     try simp only [zpt]
     refine wpAny_take (i:=7) (oi:=?oi7b) (v:=.pointer (some ⟨g,8,none⟩)) ?hi7b (by kernel_rfl) (by kernel_rfl) (by kernel_rfl) ?hQ7b ?hy7b ?rest7b
     case hi7b=>simp only [zge]; rfl
     case hQ7b=>exact fun _ _ _ h=>h
     case hy7b=>exact Or.inl ⟨by rfl,by intro w; go_simp⟩
     try simp only [zpt]
     refine wpAny_ready (rs:=[4,8]) (by kernel_rfl) (by simp) ?_
     refine AllReady.cons (o:=?o8b) ?ho8b (fun K hK=>?_) ?more8b
     case ho8b=>simp only [zge]; rfl
     ·refine step_load rfl 110 (.tmp 52) rfl g 0 rfl sc _ HS4.out Tryd.underlying110 rfl HI50.out (hK _ _ ?_)
      clear hK K
      try simp only [zpt]
      refine wpAny_ready (rs:=[8]) (by kernel_rfl) (by simp) ?_
      refine AllReady.cons (o:=?o9b) ?ho9b (fun K hK=>?_) AllReady.nil
      case ho9b=>simp only [zge]; rfl
      refine step_load rfl 111 (.tmp 56) rfl g 8 rfl bc _ HBk.out Tryd.underlying111 rfl HI51.out (hK _ _ ?_)
      clear hK K
      try simp only [zpt]
      refine wpAny_ready (rs:=[9]) (by kernel_rfl) (by simp) ?_
      refine AllReady.cons (o:=?o10b) ?ho10b (fun K hK=>?_) AllReady.nil
      case ho10b=>simp only [zge]; rfl
      go_simp
      refine (HWo.out _).mono ?_
      rintro e w5 ⟨rfl,HX5⟩
      have HB5:=Lib.hid (HB4.out.below HX5 HB4.out.lt)
      have HG5:=Lib.hid (HG4.out.below HX5 HG4.out.size)
      have HS5:=Lib.hid (rng_sums HB5.out (Sha.absorb_length M) HSC.out)
      have O5:=Lib.hid (only_of_below HX5 (some g))
      clear HX5
      refine hK _ _ ?_
      clear hK K
      try simp only [zpt]
      refine wpAny_ready (rs:=[10]) (by kernel_rfl) (by simp) ?_
      refine AllReady.cons (o:=?o11b) ?ho11b (fun K hK=>?_) AllReady.nil
      case ho11b=>simp only [zge]; rfl
      go_simp
      refine (HMi.out _ HG5.out).mono ?_
      rintro e w6 ⟨rfl,HX6⟩
      have HB6:=Lib.hid (HB5.out.below HX6 HB5.out.lt)
      have O6:=Lib.hid (only_trans O5.out (only_of_below HX6 (some g)))
      clear HX6
      refine hK _ _ ?_
      clear hK K
      try simp only [zpt]
      refine wpAny_take (i:=11) (oi:=?oi12b) (v:=.pointer (some ⟨g,0,none⟩)) ?hi12b (by kernel_rfl) (by kernel_rfl) (by kernel_rfl) ?hQ12b ?hy12b ?rest12b
      case hi12b=>simp only [zge]; rfl
      case hQ12b=>exact fun _ _ _ h=>h
      case hy12b=>exact Or.inl ⟨by rfl,by intro w; go_simp⟩
      try simp only [zpt]
      refine wpAny_take (i:=12) (oi:=?oi13b) (v:=.pointer (some ⟨g,0,none⟩)) ?hi13b (by kernel_rfl) (by kernel_rfl) (by kernel_rfl) ?hQ13b ?hy13b ?rest13b
      case hi13b=>simp only [zge]; rfl
      case hQ13b=>exact fun _ _ _ h=>h
      case hy13b=>exact Or.inl ⟨by rfl,by intro w; go_simp⟩
      try simp only [zpt]
      refine wpAny_ready (rs:=[13]) (by kernel_rfl) (by simp) ?_
      refine AllReady.cons (o:=?o14b) ?ho14b (fun K hK=>?_) AllReady.nil
      case ho14b=>simp only [zge]; rfl
      refine step_store rfl 110 (.tmp 61) (.tmp 59) rfl g 0 rfl rc rfl 113 _ HB6.out HIR.out HFR.out HR1.out (hK _ _ ?_)
      clear hK K
      have HB7:=Lib.hid (HB6.out.row (cs':=(stC (Sha.absorb M) F (M ++ x).length).take 0 ++ rc ++ (stC (Sha.absorb M) F (M ++ x).length).drop (0 + rc.length)))
      have O7:=Lib.hid (only_setRow O6.out (.inl rfl) ((stC (Sha.absorb M) F (M ++ x).length).take 0 ++ rc ++ (stC (Sha.absorb M) F (M ++ x).length).drop (0 + rc.length)).toArray)
      generalize w6.setRow g _=w7 at *
      try simp only [Act.put]
      refine wpAny_done (by kernel_rfl) ?_ _
      have HRY7:Hid (Ready w7 g (m ++ (l1 ++ x))):=by
       unfold Hid
       rw [<- HM3.out]
       refine ready_full ?_ HXM.out
       have:=HB7.out
       rw [HRow.out,HF.out] at this
       exact this
      have HR7:=Lib.hid (HR4.out.grown O7.out HN3.out)
      have HON7:=Lib.hid (only_trans HON.out (only_trans HO4.out O7.out))
      clear HB4 HB5 HB6 HB7 O5 O6 O7 HS4 HBk HS5
      go_wp2_with fail
      go_roundw
      case rel=>exact ⟨_,_,_,l1 ++ x,l2.drop k,rfl,HL3,HR7,HN3,HRY7,HON7⟩
      case measure=>simp [slen]; omega
     case more8b =>
      refine AllReady.cons (o:=?o15b) ?ho15b (fun K hK=>?_) AllReady.nil
      case ho15b=>simp only [zge]; rfl
      refine step_load rfl 111 (.tmp 56) rfl g 8 rfl bc _ HBk.out Tryd.underlying111 rfl HI51.out (hK _ _ ?_)
      clear hK K
      try simp only [zpt]
      refine wpAny_ready (rs:=[4,9]) (by kernel_rfl) (by simp) ?_
      refine AllReady.cons (o:=?o16b) ?ho16b (fun K hK=>?_) ?more16b
      case ho16b=>simp only [zge]; rfl
      ·refine step_load rfl 110 (.tmp 52) rfl g 0 rfl sc _ HS4.out Tryd.underlying110 rfl HI50.out (hK _ _ ?_)
       clear hK K
       try simp only [zpt]
       refine wpAny_ready (rs:=[9]) (by kernel_rfl) (by simp) ?_
       refine AllReady.cons (o:=?o17b) ?ho17b (fun K hK=>?_) AllReady.nil
       case ho17b=>simp only [zge]; rfl
       go_simp
       refine (HWo.out _).mono ?_
       rintro e w5 ⟨rfl,HX5⟩
       have HB5:=Lib.hid (HB4.out.below HX5 HB4.out.lt)
       have HG5:=Lib.hid (HG4.out.below HX5 HG4.out.size)
       have HS5:=Lib.hid (rng_sums HB5.out (Sha.absorb_length M) HSC.out)
       have O5:=Lib.hid (only_of_below HX5 (some g))
       clear HX5
       refine hK _ _ ?_
       clear hK K
       try simp only [zpt]
       refine wpAny_ready (rs:=[10]) (by kernel_rfl) (by simp) ?_
       refine AllReady.cons (o:=?o18b) ?ho18b (fun K hK=>?_) AllReady.nil
       case ho18b=>simp only [zge]; rfl
       go_simp
       refine (HMi.out _ HG5.out).mono ?_
       rintro e w6 ⟨rfl,HX6⟩
       have HB6:=Lib.hid (HB5.out.below HX6 HB5.out.lt)
       have O6:=Lib.hid (only_trans O5.out (only_of_below HX6 (some g)))
       clear HX6
       refine hK _ _ ?_
       clear hK K
       try simp only [zpt]
       refine wpAny_take (i:=11) (oi:=?oi19b) (v:=.pointer (some ⟨g,0,none⟩)) ?hi19b (by kernel_rfl) (by kernel_rfl) (by kernel_rfl) ?hQ19b ?hy19b ?rest19b
       case hi19b=>simp only [zge]; rfl
       case hQ19b=>exact fun _ _ _ h=>h
       case hy19b=>exact Or.inl ⟨by rfl,by intro w; go_simp⟩
       try simp only [zpt]
       refine wpAny_take (i:=12) (oi:=?oi20b) (v:=.pointer (some ⟨g,0,none⟩)) ?hi20b (by kernel_rfl) (by kernel_rfl) (by kernel_rfl) ?hQ20b ?hy20b ?rest20b
       case hi20b=>simp only [zge]; rfl
       case hQ20b=>exact fun _ _ _ h=>h
       case hy20b=>exact Or.inl ⟨by rfl,by intro w; go_simp⟩
       try simp only [zpt]
       refine wpAny_ready (rs:=[13]) (by kernel_rfl) (by simp) ?_
       refine AllReady.cons (o:=?o21b) ?ho21b (fun K hK=>?_) AllReady.nil
       case ho21b=>simp only [zge]; rfl
       refine step_store rfl 110 (.tmp 61) (.tmp 59) rfl g 0 rfl rc rfl 113 _ HB6.out HIR.out HFR.out HR1.out (hK _ _ ?_)
       clear hK K
       have HB7:=Lib.hid (HB6.out.row (cs':=(stC (Sha.absorb M) F (M ++ x).length).take 0 ++ rc ++ (stC (Sha.absorb M) F (M ++ x).length).drop (0 + rc.length)))
       have O7:=Lib.hid (only_setRow O6.out (.inl rfl) ((stC (Sha.absorb M) F (M ++ x).length).take 0 ++ rc ++ (stC (Sha.absorb M) F (M ++ x).length).drop (0 + rc.length)).toArray)
       generalize w6.setRow g _=w7 at *
       try simp only [Act.put]
       refine wpAny_done (by kernel_rfl) ?_ _
       have HRY7:Hid (Ready w7 g (m ++ (l1 ++ x))):=by
        unfold Hid
        rw [<- HM3.out]
        refine ready_full ?_ HXM.out
        have:=HB7.out
        rw [HRow.out,HF.out] at this
        exact this
       have HR7:=Lib.hid (HR4.out.grown O7.out HN3.out)
       have HON7:=Lib.hid (only_trans HON.out (only_trans HO4.out O7.out))
       clear HB4 HB5 HB6 HB7 O5 O6 O7 HS4 HBk HS5
       go_wp2_with fail
       go_roundw
       case rel=>exact ⟨_,_,_,l1 ++ x,l2.drop k,rfl,HL3,HR7,HN3,HRY7,HON7⟩
       case measure=>simp [slen]; omega
      case more16b =>
       refine AllReady.cons (o:=?o22b) ?ho22b (fun K hK=>?_) AllReady.nil
       case ho22b=>simp only [zge]; rfl
       go_simp
       refine (HWo.out _).mono ?_
       rintro e w5 ⟨rfl,HX5⟩
       have HB5:=Lib.hid (HB4.out.below HX5 HB4.out.lt)
       have HG5:=Lib.hid (HG4.out.below HX5 HG4.out.size)
       have HS5:=Lib.hid (rng_sums HB5.out (Sha.absorb_length M) HSC.out)
       have O5:=Lib.hid (only_of_below HX5 (some g))
       clear HX5
       refine hK _ _ ?_
       clear hK K
       try simp only [zpt]
       refine wpAny_ready (rs:=[4]) (by kernel_rfl) (by simp) ?_
       refine AllReady.cons (o:=?o23b) ?ho23b (fun K hK=>?_) AllReady.nil
       case ho23b=>simp only [zge]; rfl
       refine step_load rfl 110 (.tmp 52) rfl g 0 rfl sc _ HS5.out Tryd.underlying110 rfl HI50.out (hK _ _ ?_)
       clear hK K
       try simp only [zpt]
       refine wpAny_ready (rs:=[10]) (by kernel_rfl) (by simp) ?_
       refine AllReady.cons (o:=?o24b) ?ho24b (fun K hK=>?_) AllReady.nil
       case ho24b=>simp only [zge]; rfl
       go_simp
       refine (HMi.out _ HG5.out).mono ?_
       rintro e w6 ⟨rfl,HX6⟩
       have HB6:=Lib.hid (HB5.out.below HX6 HB5.out.lt)
       have O6:=Lib.hid (only_trans O5.out (only_of_below HX6 (some g)))
       clear HX6
       refine hK _ _ ?_
       clear hK K
       try simp only [zpt]
       refine wpAny_take (i:=11) (oi:=?oi25b) (v:=.pointer (some ⟨g,0,none⟩)) ?hi25b (by kernel_rfl) (by kernel_rfl) (by kernel_rfl) ?hQ25b ?hy25b ?rest25b
       case hi25b=>simp only [zge]; rfl
       case hQ25b=>exact fun _ _ _ h=>h
       case hy25b=>exact Or.inl ⟨by rfl,by intro w; go_simp⟩
       try simp only [zpt]
       refine wpAny_take (i:=12) (oi:=?oi26b) (v:=.pointer (some ⟨g,0,none⟩)) ?hi26b (by kernel_rfl) (by kernel_rfl) (by kernel_rfl) ?hQ26b ?hy26b ?rest26b
       case hi26b=>simp only [zge]; rfl
       case hQ26b=>exact fun _ _ _ h=>h
       case hy26b=>exact Or.inl ⟨by rfl,by intro w; go_simp⟩
       try simp only [zpt]
       refine wpAny_ready (rs:=[13]) (by kernel_rfl) (by simp) ?_
       refine AllReady.cons (o:=?o27b) ?ho27b (fun K hK=>?_) AllReady.nil
       case ho27b=>simp only [zge]; rfl
       refine step_store rfl 110 (.tmp 61) (.tmp 59) rfl g 0 rfl rc rfl 113 _ HB6.out HIR.out HFR.out HR1.out (hK _ _ ?_)
       clear hK K
       have HB7:=Lib.hid (HB6.out.row (cs':=(stC (Sha.absorb M) F (M ++ x).length).take 0 ++ rc ++ (stC (Sha.absorb M) F (M ++ x).length).drop (0 + rc.length)))
       have O7:=Lib.hid (only_setRow O6.out (.inl rfl) ((stC (Sha.absorb M) F (M ++ x).length).take 0 ++ rc ++ (stC (Sha.absorb M) F (M ++ x).length).drop (0 + rc.length)).toArray)
       generalize w6.setRow g _=w7 at *
       try simp only [Act.put]
       refine wpAny_done (by kernel_rfl) ?_ _
       have HRY7:Hid (Ready w7 g (m ++ (l1 ++ x))):=by
        unfold Hid
        rw [<- HM3.out]
        refine ready_full ?_ HXM.out
        have:=HB7.out
        rw [HRow.out,HF.out] at this
        exact this
       have HR7:=Lib.hid (HR4.out.grown O7.out HN3.out)
       have HON7:=Lib.hid (only_trans HON.out (only_trans HO4.out O7.out))
       clear HB4 HB5 HB6 HB7 O5 O6 O7 HS4 HBk HS5
       go_wp2_with fail
       go_roundw
       case rel=>exact ⟨_,_,_,l1 ++ x,l2.drop k,rfl,HL3,HR7,HN3,HRY7,HON7⟩
       case measure=>simp [slen]; omega
    ·have hfb:((a:Int) + (k:Int) == 64)=false:=by simp; omega
     have HRY3:Hid (Ready w3 g (m ++ (l1 ++ x))):=by
      unfold Hid
      rw [<- HM3.out]
      exact ready_less HB3.out H64'.out HTK.out (by rw [<- HA.out,HX.out]; omega)
     clear hf
     go_wp2_with fail
     rw [<- HW3.out]
     go_roundw
     case rel=>exact ⟨_,_,_,l1 ++ x,l2.drop k,rfl,HL3,HR3,HN3,HRY3,HON3⟩
     case measure=>simp [slen]; omega
   ·have hl2:l2=[]:=List.eq_nil_of_length_eq_zero (by have:=HR.out.len; omega)
    have HRYe:Hid (Ready wr g (m ++ l)):=by
     have:=HL.out
     rw [hl2,List.append_nil] at this
     rw [<- this]
     exact HRY
    clear hl2
    go_wp2_with fail
    go_end0
    exact ⟨rfl,HRYe.out,HON.out⟩
end Go.Proofs.YtajgjeialbgijaaDoor
namespace Go.Proofs.YtajgjeialbgijaaDoor
set_option linter.unusedVariables false
set_option linter.unusedSimpArgs false
set_option maxRecDepth 100000
open Go.RowKit
theorem stC_one (hs:List Int) (bl:List UInt8) (n:Nat):∀ v ∈ stC hs bl n,v.oneCell'=true:=by
 intro v hv
 unfold stC at hv
 rw [List.mem_append,List.mem_append] at hv
 rcases hv with hv | hv | hv
 ·exact cells_wd hs v hv
 ·exact cells_u8 bl v hv
 ·simp at hv
  subst hv
  rfl
theorem holds_new (w:World) (g:Nat) (a:Array Value) (ha:a=(stC (List.replicate 8 0) (List.replicate 64 0) 0).toArray) (hg:g=w.heap.size):Holds (w.alloc (.cells a 113)) g [] :=
 ⟨_,_,Blk.at_new w g 113 _ a ha hg,rfl,rfl,rfl,fun h=>absurd rfl h⟩
theorem zero54:∀ w,(zeroValue 113).run Tryd.prog w = .ok (.agg (stC (List.replicate 8 0) (List.replicate 64 0) 0).toArray) w:=(zero_of_info (n:=73) (by kernel_rfl)).1
set_option maxRecDepth 100000 in
set_option maxHeartbeats 400000 in
theorem new_any (w:World):Calls Tryd.prog 46 #[] w fun e w'=>e = .returned (.pointer (some ⟨w.heap.size,0,none⟩))/\Holds w' w.heap.size []/\Below w.heap.size w w':=by
 have hz:=zero54
 obtain ⟨Z,hZ⟩:∃ Z,Z=stC (List.replicate 8 0) (List.replicate 64 0) 0:=⟨_,rfl⟩
 rw [<- hZ] at hz
 have HZ:=Lib.hid hZ
 clear hZ
 go_enter Tryd.func46,Tryd.ntmps46
 go_wp2_with fail
 go_ret
 exact ⟨rfl,holds_new w _ _ (by rw [HZ.out]) rfl,(Below.refl _ _).alloc (Nat.le_refl _) _⟩
set_option maxRecDepth 100000 in
set_option maxHeartbeats 400000 in
theorem copy_any {w:World} {g:Nat} {m:List UInt8} (h:Holds w g m):Calls Tryd.prog 68 #[.pointer (some ⟨g,0,none⟩)] w fun e w'=>e = .returned (.pointer (some ⟨w.heap.size,0,none⟩))/\Holds w' w.heap.size m/\Below w.heap.size w w':=by
 obtain ⟨hs,bl,hB,h8,h64,htk,hab⟩:=h
 obtain ⟨C,hC⟩:∃ C,C=stC hs bl m.length:=⟨_,rfl⟩
 rw [<- hC] at hB
 have HI:Hid ((Tryd.prog.info? 113).map (·.size)=some C.length):=by unfold Hid; rw [hC,stC_length _ _ _ h8 h64]; kernel_rfl
 have HB:=Lib.hid hB
 have HC:=Lib.hid hC
 have H8:=Lib.hid h8
 have H64:=Lib.hid h64
 have HTK:=Lib.hid htk
 have HAB:=Lib.hid hab
 clear hB hC h8 h64 htk hab
 have hz:=zero54
 obtain ⟨Z,hZ⟩:∃ Z,Z=stC (List.replicate 8 0) (List.replicate 64 0) 0:=⟨_,rfl⟩
 rw [<- hZ] at hz
 have HZL:Hid (Z.length=C.length):=by unfold Hid; rw [hZ,HC.out,stC_length _ _ _ H8.out H64.out]; rfl
 have H1:Hid (∀ v ∈ C,v.oneCell'=true):=by unfold Hid; rw [HC.out]; exact stC_one hs bl _
 have HN:=Lib.hid (Blk.new w 113 Z)
 clear hZ
 go_enter Tryd.func68,Tryd.ntmps68
 go_wp2_with (first
  | (with_reducible refine load_law rfl 113 (.tmp 7) rfl g 0 rfl C _ Tryd.underlying113 rfl HI.out HB.out.cells ?_)
  | (with_reducible refine storeAll_law rfl 113 (.tmp 3) (.tmp 8) rfl w.heap.size rfl C rfl 113 Z HN.out HI.out HZL.out H1.out ?_))
 go_ret
 refine ⟨rfl,⟨hs,bl,?_,H8.out,H64.out,HTK.out,HAB.out⟩,below_setRow ((Below.refl _ _).alloc (Nat.le_refl _) _) (Nat.le_refl _) _⟩
 rw [<- HC.out]
 exact HN.out.row
end Go.Proofs.YtajgjeialbgijaaDoor
namespace Go.Proofs.YtajgjeialbgijaaDoor
set_option linter.unusedVariables false
set_option linter.unusedSimpArgs false
set_option maxRecDepth 100000
open Go.RowKit
theorem build_law {P:Program} {ops:Array Oper} {rest:List Oper} {o:Oper} {a:Act} {w:World} {Q:Exit->Act->World->Prop} (hgd:o.guard=none) (t:TypeId) (parts:Array (Nat × Operand)) (ho:o.op = .build t parts) (vs:List Value)
  (hb:P.built t (parts.map fun (i,x)=>(i,a.eval x)).toList=some vs.toArray) (h:wpList P ops Q rest (a.put o.dst (.agg vs.toArray)) w):wpList P ops Q (o :: rest) a w :=
 wpList_build hgd t parts ho (by rw [hb]; rfl) (by rw [hb]; exact h)
theorem storeGen_law {P:Program} {ops:Array Oper} {rest:List Oper} {o:Oper} {a:Act} {w:World} {Q:Exit->Act->World->Prop} (hgd:o.guard=none) (ty:TypeId) (x y:Operand) (ho:o.op = .store ty x y)
  (g:Nat) (hx:a.eval x = .pointer (some ⟨g,0,none⟩)) (vs:List Value) (hy:a.eval y = .agg vs.toArray) (t:TypeId) (cs:List Value) (hi:(P.info? ty).map (·.size)=some vs.length)
  (hfit:cs.length=vs.length) (h1:∀ v ∈ vs,v.oneCell'=true) (B:Nat) (w0:World) (hb:Blk w g t cs) (hbel:Below B w0 w) (hBg:B<=g)
  (hk:∀ w',Hid (Blk w' g t vs)->Hid (Below B w0 w')->wpList P ops Q rest (a.put o.dst undef) w'):wpList P ops Q (o :: rest) a w :=
 storeAll_law hgd ty x y ho g hx vs hy t cs hb hi hfit h1 (hk _ hb.row (below_setRow hbel hBg _))
def markB:List UInt8:=128 :: List.replicate 63 0
theorem size_at (T k:Nat) (h:k < 8):cellOf ((Sha.size8 T).getD k 0) = .int .u8 ((T:Int) / 2 ^ (8 * (7 - k)) % 256):=by
 unfold cellOf Sha.size8
 rw [List.getD_eq_getElem?_getD,List.getElem?_map,List.getElem?_range h]
 simp
theorem size_set (T k:Nat) (h:k < 8):(((Sha.size8 T).take k).map cellOf ++ List.replicate (8 - k) (Value.int .u8 0)).set k (cellOf ((Sha.size8 T).getD k 0))=((Sha.size8 T).take (k + 1)).map cellOf ++ List.replicate (8 - (k + 1)) (.int .u8 0):=by
 have hl:=Sha.size8_length T
 rw [List.set_append_right _ _ (by simp [hl]; omega),show 8 - k=(8 - (k + 1)) + 1 by omega,List.replicate_succ]
 simp only [List.length_map,List.length_take,hl,Nat.min_eq_left (Nat.le_of_lt h),Nat.sub_self,List.set_cons_zero]
 rw [show (Sha.size8 T).take (k + 1)=(Sha.size8 T).take k ++ [(Sha.size8 T)[k]] from List.take_succ_eq_append_getElem (by omega),List.map_append,List.append_assoc]
 simp [List.getD_eq_getElem?_getD,hl,h]
 rfl
theorem mark_tail (n u:Nat) (hu:u=64 - (n + 8) % 64):markB.take u ++ Sha.size8 (n * 8)=Sha.tail n:=by
 unfold markB Sha.tail
 obtain ⟨v,rfl⟩:∃ v,u=v + 1:=⟨u - 1,by omega⟩
 rw [List.take_succ_cons,List.take_replicate,show min v 63=63 - (n + 8) % 64 by omega]
set_option maxRecDepth 100000 in
set_option maxHeartbeats 1000000 in
theorem finish_any {w:World} {g:Nat} {m:List UInt8} (hg:Gl w) (h2:2<=g) (hH:Holds w g m) (hb:m.length<=549755813888) :
  Calls Tryd.prog 66 #[.pointer (some ⟨g,0,none⟩)] w fun e w'=>e = .returned (.tuple #[])/\Ready w' g (m ++ Sha.tail m.length)/\w.grownBy w' (some g):=by
 have HG:=Lib.hid hg
 have HH:=Lib.hid hH
 have hglt:=hH.lt
 obtain ⟨N,hN⟩:∃ N,N=m.length:=⟨_,rfl⟩
 have cN:w.cell? ⟨g,72,none⟩=some (.int .u64 (N:Int)):=by
  obtain ⟨hs,bl,hB,h8,h64,_⟩:=hH
  rw [hB.cell,hN]
  exact stC_len hs bl _ h8 h64
 have hNb:N<=549755813888:=by omega
 have HN:=Lib.hid hN
 clear hN hg hH hb
 obtain ⟨MB,hMB⟩:∃ MB,MB=markB.map cellOf:=⟨_,rfl⟩
 have HBu:Hid (Tryd.prog.built 111 [(0,.int .u8 128)]=some MB.toArray):=by unfold Hid; rw [hMB]; kernel_rfl
 have HZ:=Lib.hid (Blk.new w 111 (List.replicate 64 (.int .u8 0)))
 have HI:Hid ((Tryd.prog.info? 111).map (·.size)=some MB.length):=by unfold Hid; rw [hMB]; kernel_rfl
 have HL:Hid ((List.replicate 64 (Value.int .u8 0)).length=MB.length):=by unfold Hid; rw [hMB]; rfl
 have H1:Hid (∀ v ∈ MB,v.oneCell'=true):=by unfold Hid; rw [hMB]; exact cells_u8 _
 have HMB:=Lib.hid hMB
 clear hMB
 go_enter Tryd.func66,Tryd.ntmps66
 go_upto_region 2 with (fail)
 refine wp_region_lit ?_
 refine build_law rfl 111 #[(0,.const (.int .u8 128))] rfl MB (by simp only [List.map_toArray,List.map_cons,List.map_nil]; exact HBu.out) ?_
 simp only [zpt]
 go_upto_region 3 with (first
  | ((with_reducible refine storeGen_law rfl 111 (.tmp 4) (.tmp 18) rfl w.heap.size rfl MB rfl 111 (List.replicate 64 (.int .u8 0)) HI.out HL.out H1.out w.heap.size w ?_ ?_ (Nat.le_refl _) ?_)
     ·exact HZ.out
     ·exact (Below.refl _ _).alloc (Nat.le_refl _) _
     intro w1 B1 W1))
 obtain ⟨u,hu⟩:∃ u,u=64 - (N + 8) % 64:=⟨_,rfl⟩
 have eu:64 - ((N:Int) + 8) % 64=(u:Int):=by omega
 have hu1:u<=64:=by omega
 have hu2:1<=u:=by omega
 have HU:=Lib.hid hu
 clear hu
 have hsl:=sliceAt_h 111 64 Tryd.underlying111 w.heap.size 0 u hu1 w1
 have HR1:Hid (Rd w1 (some ⟨w.heap.size,0,none⟩) u 64 (markB.take u)) :=
  Rd.of_block B1.out (by rw [List.length_take]; simp [markB]; omega) hu1 (by unfold maxLen; omega) (fun j hj=>by
   rw [HMB.out,Nat.zero_add,List.getElem?_map]
   have hj':j < markB.length:=by simp [markB]; omega
   simp [List.getD_eq_getElem?_getD,List.getElem?_take,hj,List.getElem?_eq_getElem hj'])
 have HH1:Hid (Holds w1 g m):=HH.out.keep (W1.out.block g hglt)
 have HG1:=Lib.hid (HG.out.below W1.out HG.out.size)
 clear HZ HI HL H1 HBu HMB cN HH
 go_wp2_with fail
 refine (write_any HG1.out h2 HH1.out HR1.out (fun _ ad had=>by injection had with had; subst had; simp; omega) (by rw [<- HN.out,List.length_take]; omega)).mono ?_
 rintro e w2 ⟨rfl,R2,O2⟩
 have HRY2:=Lib.hid R2
 have HO2:=Lib.hid O2
 have HS2:Hid (w1.heap.size<=w2.heap.size):=O2.size
 clear R2 O2 hsl
 go_wp2_with fail
 obtain ⟨T,hT⟩:∃ T:Nat,(T:Int)=(N:Int) * 8:=⟨N * 8,by simp⟩
 rw [<- hT]
 have hTb:T < 18446744073709551616:=by omega
 have HT:Hid (T=m.length * 8):=by unfold Hid; rw [<- HN.out]; omega
 clear hT
 go_loopw [26] (fun i wr=>∃ k:Nat,k<=8/\i = .int .i64 k/\Hid (Blk wr w2.heap.size 137 (((Sha.size8 T).take k).map cellOf ++ List.replicate (8 - k) (.int .u8 0)))/\Hid (Below w2.heap.size w2 wr)) (fun i _=>8 - (intOf i).toNat)
 case atStart=>exact ⟨0,by omega,rfl,Blk.at_new _ _ 137 _ _ (by rfl) rfl,(Below.refl _ _).alloc (Nat.le_refl _) _⟩
 case round =>
  obtain ⟨k,hk,rfl,BK,BW⟩:=hrel
  by_cases hlt:k < 8
  ·have c0:wr.cell? ⟨w2.heap.size,k,none⟩=some (.int .u8 0):=by
    rw [BK.out.cell,List.getElem?_append_right (by simp [Sha.size8]; omega)]
    simp only [List.length_map,List.length_take,Sha.size8_length,Nat.min_eq_left hk,Nat.sub_self]
    exact List.getElem?_replicate_of_lt (by omega)
   have f0:wr.frozen? ⟨w2.heap.size,k,none⟩=false:=BK.out.frozen k
   go_wp2_with fail
   go_roundw
   case rel=>exact ⟨k + 1,by omega,by go_num,by
    have:=BK.out.set_ k (cellOf ((Sha.size8 T).getD k 0))
    rw [size_set T k hlt,size_at T k hlt] at this
    exact this,BW.out.setCell (Nat.le_refl _) _⟩
   case measure=>simp [intOf]; omega
  ·obtain rfl:k=8:=by omega
   have HR3:Hid (Rd wr (some ⟨w2.heap.size,0,none⟩) 8 8 (Sha.size8 T)) :=
    Rd.of_block BK.out (Sha.size8_length T) (Nat.le_refl _) (by unfold maxLen; omega) (fun j hj=>by
     have hj':j < (Sha.size8 T).length:=by rw [Sha.size8_length]; exact hj
     rw [Nat.zero_add,List.take_of_length_le (by rw [Sha.size8_length]; omega),List.getElem?_append_left (by simpa using hj'),List.getElem?_map,List.getElem?_eq_getElem hj']
     simp [List.getD_eq_getElem?_getD,List.getElem?_eq_getElem hj'])
   have hg2:g < w2.heap.size:=by have h1:=HS2.out; have h3:=W1.out.size; omega
   have HH3:Hid (Holds wr g (m ++ markB.take u)):=HRY2.out.holds.keep (BW.out.block g hg2)
   have HG3:Hid (Gl wr):=((HG1.out.only HO2.out h2).below BW.out (HG1.out.only HO2.out h2).size)
   have hlen:(markB.take u).length=u:=by rw [List.length_take]; simp [markB]; omega
   have HLN:=Lib.hid hlen
   clear hlen BK HRY2
   go_wp2_with fail
   refine (write_any HG3.out h2 HH3.out HR3.out (fun _ ad had=>by injection had with had; subst had; simp; omega) (by rw [List.length_append,HLN.out,Sha.size8_length,<- HN.out]; omega)).mono ?_
   rintro e w3 ⟨rfl,R3,O3⟩
   have HRY3:=Lib.hid R3
   have HO3:=Lib.hid O3
   clear R3 O3
   go_wp2_with fail
   go_end0
   refine ⟨rfl,?_,only_trans (only_trans (only_of_below W1.out _) HO2.out) (only_trans (only_of_below BW.out _) HO3.out)⟩
   rw [<- mark_tail m.length u (by rw [<- HN.out]; exact HU.out),<- HT.out,<- List.append_assoc]
   exact HRY3.out
end Go.Proofs.YtajgjeialbgijaaDoor
namespace Go.Proofs.YtajgjeialbgijaaDoor
set_option linter.unusedVariables false
set_option linter.unusedSimpArgs false
set_option maxRecDepth 100000
open Go.RowKit
def sumC (l:List Int):List Value:=(Sha.flat l).map cellOf ++ List.replicate (32 - 4 * l.length) (.int .u8 0)
theorem sumC_at (l:List Int) (j:Nat) (h1:4 * l.length<=j) (h2:j < 32):(sumC l)[j]?=some (.int .u8 0):=by
 unfold sumC
 rw [List.getElem?_append_right (by simp [Sha.flat_length]; omega)]
 exact List.getElem?_replicate_of_lt (by simp [Sha.flat_length]; omega)
theorem flat_append:∀ (l:List Int) (x:Int),Sha.flat (l ++ [x])=Sha.flat l ++ Sha.bytesOf x
 | [],x=>rfl
 | y :: l,x=>by simp only [List.cons_append,Sha.flat,flat_append l x]
theorem cell_by8 (x:Int):cellOf (Sha.by8 x) = .int .u8 (x % 256):=by
 unfold cellOf Sha.by8
 congr 1
 simp
 omega
theorem sumC_set (l:List Int) (x:Int) (k:Nat) (hk:l.length=k) (h:k < 8) :
  ((((sumC l).set (4 * k) (cellOf (Sha.by8 (x / 16777216)))).set (4 * k + 1) (cellOf (Sha.by8 (x / 65536)))).set (4 * k + 2) (cellOf (Sha.by8 (x / 256)))).set (4 * k + 3) (cellOf (Sha.by8 x))=sumC (l ++ [x]):=by
 unfold sumC
 rw [flat_append,hk,show 32 - 4 * k=(32 - 4 * (k + 1)) + 4 by omega,List.length_append,hk,List.length_singleton]
 have hl:((Sha.flat l).map cellOf).length=4 * k:=by simp [Sha.flat_length,hk]
 rw [List.set_append_right _ _ (by omega),List.set_append_right _ _ (by omega),List.set_append_right _ _ (by omega),List.set_append_right _ _ (by omega)]
 rw [hl,Nat.sub_self,show 4 * k + 1 - 4 * k=1 by omega,show 4 * k + 2 - 4 * k=2 by omega,show 4 * k + 3 - 4 * k=3 by omega]
 simp [List.replicate_succ,Sha.bytesOf]
set_option maxRecDepth 100000 in
set_option maxHeartbeats 1000000 in
theorem sum_any {w:World} {g:Nat} {m:List UInt8} (hg:Gl w) (hH:Holds w g m) (hb:m.length<=549755813888) :
  Calls Tryd.prog 48 #[.pointer (some ⟨g,0,none⟩)] w fun e w'=>e = .returned (.agg ((Sha.sum m).map cellOf).toArray)/\Below w.heap.size w w':=by
 have HG:=Lib.hid hg
 have hsz:=hg.size
 obtain ⟨hs,bl,hB,h8,h64,htk,hab⟩:=hH
 have hglt:=hB.lt
 obtain ⟨C,hC⟩:∃ C,C=stC hs bl m.length:=⟨_,rfl⟩
 rw [<- hC] at hB
 have hz:=zero54
 obtain ⟨Z,hZ⟩:∃ Z,Z=stC (List.replicate 8 0) (List.replicate 64 0) 0:=⟨_,rfl⟩
 rw [<- hZ] at hz
 have HI:Hid ((Tryd.prog.info? 113).map (·.size)=some C.length):=by unfold Hid; rw [hC,stC_length _ _ _ h8 h64]; kernel_rfl
 have HZL:Hid (Z.length=C.length):=by unfold Hid; rw [hZ,hC,stC_length _ _ _ h8 h64]; rfl
 have H1:Hid (∀ v ∈ C,v.oneCell'=true):=by unfold Hid; rw [hC]; exact stC_one hs bl _
 have HB:=Lib.hid hB
 have HC:=Lib.hid hC
 have H8:=Lib.hid h8
 have H64:=Lib.hid h64
 have HTK:=Lib.hid htk
 have HAB:=Lib.hid hab
 clear hB hC h8 h64 htk hab hZ hg
 go_enter Tryd.func48,Tryd.ntmps48
 go_wp2_with (first
  | ((with_reducible refine load_law rfl 113 (.tmp 11) rfl g 0 rfl C _ Tryd.underlying113 rfl HI.out ?_ ?_); exact (HB.out.alloc _).cells)
  | ((with_reducible refine storeGen_law rfl 113 (.tmp 3) (.tmp 12) rfl (w.heap.size + 1) rfl C rfl 113 Z HI.out HZL.out H1.out (w.heap.size + 1) (w.alloc (.cells (List.replicate 32 (.int .u8 0)).toArray 27)) ?_ ?_ (Nat.le_refl _) ?_)
     ·exact Blk.at_new _ _ 113 _ _ rfl (by simp)
     ·exact (Below.refl _ _).alloc (by simp) _
     intro w1 B1 W1))
 have hw1:=W1.out.size
 simp at hw1
 have W1':Hid (Below w.heap.size w w1):=(((Below.refl _ _).alloc (Nat.le_refl _) _).trans (W1.out.mono (by simp)))
 have HR30:Hid (Blk w1 w.heap.size 27 (List.replicate 32 (.int .u8 0))):=(Blk.new w 27 _).below W1.out (by omega)
 have HG1:=Lib.hid (HG.out.below W1'.out HG.out.size)
 have HH1:Hid (Holds w1 (w.heap.size + 1) m):=⟨hs,bl,by rw [<- HC.out]; exact B1.out,H8.out,H64.out,HTK.out,HAB.out⟩
 clear HB HC H8 H64 HTK HAB B1 hz HI HZL H1 W1
 refine (finish_any HG1.out (by omega) HH1.out hb).mono ?_
 rintro e w2 ⟨rfl,R2,O2⟩
 obtain ⟨bl2,hB2,hl2,_⟩:=R2
 obtain ⟨S,hS⟩:∃ S,S=Sha.absorb (m ++ Sha.tail m.length):=⟨_,rfl⟩
 rw [<- hS] at hB2
 have hS8:S.length=8:=by rw [hS]; exact Sha.absorb_length _
 have HSum:Hid (Sha.sum m=Sha.flat S):=by unfold Hid Sha.sum; rw [hS]
 obtain ⟨sc,hsc⟩:∃ sc,sc=S.map wd:=⟨_,rfl⟩
 have HR2:Hid (Blk w2 w.heap.size 27 (List.replicate 32 (.int .u8 0))):=(O2.block _ HR30.out.lt (by simp)).trans HR30.out
 have W2:Hid (Below w.heap.size w w2):=below_of_only W1'.out O2 (by omega) (by omega)
 have hw2:=O2.size
 have hI50:(Tryd.prog.info? 110).map (·.size)=some sc.length:=by rw [hsc,List.length_map,hS8]; kernel_rfl
 have HI50:=Lib.hid hI50
 have HS8:=Lib.hid hS8
 have HSC:=Lib.hid hsc
 have HCS:Hid (∀ (o:Obj) j v,sc[j]?=some v->(w2.alloc o).cell? ⟨w.heap.size + 1,0 + j,none⟩=some v):=fun o j v hv=>by
  rw [hsc] at hv
  rw [(hB2.alloc o).cell]
  exact stC_sums S _ _ hS8 j v hv
 clear hI50 hS8 hS hsc hB2 O2 HR30 HH1 HG1 W1'
 go_wp2_with (first
  | ((with_reducible refine load_law rfl 110 (.tmp 14) rfl (w.heap.size + 1) 0 rfl sc _ Tryd.underlying110 rfl HI50.out ?_ ?_); exact HCS.out _))
 clear HCS
 go_loopw [16] (fun i wr=>∃ k:Nat,k<=8/\i = .int .i64 k/\Hid (Blk wr w2.heap.size 27 (sumC (S.take k)))/\Hid (Below w2.heap.size w2 wr)) (fun i _=>8 - (intOf i).toNat)
 case atStart=>exact ⟨0,by omega,rfl,Blk.at_new _ _ 27 _ _ (by rfl) rfl,(Below.refl _ _).alloc (Nat.le_refl _) _⟩
 case round =>
  obtain ⟨k,hk,rfl,BK,BW⟩:=hrel
  by_cases hlt:k < 8
  ·obtain ⟨x,hx⟩:∃ x,x=S.getD k 0:=⟨_,rfl⟩
   have hix:=run_index_one (P:=Tryd.prog) wr 110 102 8 _ Tryd.underlying110 Tryd.underlying102 rfl (by kernel_rfl) sc k hlt (.int .u32 x) (by rw [HSC.out,hx]; exact wd_at S k (by rw [HS8.out]; exact hlt))
   have hlk:(S.take k).length=k:=by rw [List.length_take,HS8.out]; omega
   have c0:wr.cell? ⟨w2.heap.size,4 * k,none⟩=some (.int .u8 0):=by rw [BK.out.cell]; exact sumC_at _ _ (by omega) (by omega)
   have c1:wr.cell? ⟨w2.heap.size,4 * k + 1,none⟩=some (.int .u8 0):=by rw [BK.out.cell]; exact sumC_at _ _ (by omega) (by omega)
   have c2:wr.cell? ⟨w2.heap.size,4 * k + 2,none⟩=some (.int .u8 0):=by rw [BK.out.cell]; exact sumC_at _ _ (by omega) (by omega)
   have c3:wr.cell? ⟨w2.heap.size,4 * k + 3,none⟩=some (.int .u8 0):=by rw [BK.out.cell]; exact sumC_at _ _ (by omega) (by omega)
   have f0:wr.frozen? ⟨w2.heap.size,4 * k,none⟩=false:=BK.out.frozen _
   have f1:wr.frozen? ⟨w2.heap.size,4 * k + 1,none⟩=false:=BK.out.frozen _
   have f2:wr.frozen? ⟨w2.heap.size,4 * k + 2,none⟩=false:=BK.out.frozen _
   have f3:wr.frozen? ⟨w2.heap.size,4 * k + 3,none⟩=false:=BK.out.frozen _
   have HBN:Hid (Blk ((((wr.setCell ⟨w2.heap.size,4 * k,none⟩ (.int .u8 (x / 16777216 % 256))).setCell ⟨w2.heap.size,4 * k + 1,none⟩ (.int .u8 (x / 65536 % 256))).setCell ⟨w2.heap.size,4 * k + 2,none⟩ (.int .u8 (x / 256 % 256))).setCell ⟨w2.heap.size,4 * k + 3,none⟩ (.int .u8 (x % 256))) w2.heap.size 27 (sumC (S.take (k + 1)))):=by
    have:=(((BK.out.set_ (4 * k) (cellOf (Sha.by8 (x / 16777216)))).set_ (4 * k + 1) (cellOf (Sha.by8 (x / 65536)))).set_ (4 * k + 2) (cellOf (Sha.by8 (x / 256)))).set_ (4 * k + 3) (cellOf (Sha.by8 x))
    rw [sumC_set _ x k hlk hlt] at this
    simp only [cell_by8] at this
    have e:S.take (k + 1)=S.take k ++ [x]:=by
     rw [List.take_succ_eq_append_getElem (by rw [HS8.out]; exact hlt),hx]
     simp [List.getD_eq_getElem?_getD,HS8.out,hlt]
    rw [e]
    exact this
   clear hx hlk
   go_wp2_with fail
   go_roundw
   case rel=>exact ⟨k + 1,by omega,by go_num,HBN,(((BW.out.setCell (Nat.le_refl _) _).setCell (Nat.le_refl _) _).setCell (Nat.le_refl _) _).setCell (Nat.le_refl _) _⟩
   case measure=>simp [intOf]; omega
  ·obtain rfl:k=8:=by omega
   obtain ⟨D,hD⟩:∃ D,D=(Sha.flat S).map cellOf:=⟨_,rfl⟩
   have hBD:Blk wr w2.heap.size 27 D:=by
    have:=BK.out
    rw [List.take_of_length_le (by rw [HS8.out]; omega)] at this
    unfold sumC at this
    rw [HS8.out] at this
    simpa [hD] using this
   have hDl:D.length=32:=by rw [hD,List.length_map,Sha.flat_length,HS8.out]
   have HI30:Hid ((Tryd.prog.info? 27).map (·.size)=some D.length):=by unfold Hid; rw [hDl]; kernel_rfl
   have HZ3:Hid ((List.replicate 32 (Value.int .u8 0)).length=D.length):=by unfold Hid; rw [hDl]; rfl
   have H13:Hid (∀ v ∈ D,v.oneCell'=true):=by unfold Hid; rw [hD]; exact cells_u8 _
   have HBD:=Lib.hid hBD
   have HD:=Lib.hid hD
   have HR3:Hid (Blk wr w.heap.size 27 (List.replicate 32 (.int .u8 0))):=HR2.out.below BW.out (by omega)
   have W3:Hid (Below w.heap.size w wr):=W2.out.trans (BW.out.mono (by omega))
   clear hBD hDl hD BK
   go_wp2_with (first
    | ((with_reducible refine load_law rfl 27 (.tmp 4) rfl w2.heap.size 0 rfl D _ Tryd.underlying27 rfl HI30.out HBD.out.cells ?_))
    | ((with_reducible refine storeGen_law rfl 27 (.tmp 2) (.tmp 47) rfl w.heap.size rfl D rfl 27 (List.replicate 32 (.int .u8 0)) HI30.out HZ3.out H13.out w.heap.size w HR3.out W3.out (Nat.le_refl _) ?_); intro w4 B4 W4))
   refine bodyPost_ret (results_cell_row rfl _ _ w.heap.size 27 D.toArray (0,0) _ rfl B4.out Tryd.underlying27 rfl (by rw [HI30.out]; simp)) rfl ⟨?_,W4.out⟩
   rw [HSum.out,HD.out]
end Go.Proofs.YtajgjeialbgijaaDoor
namespace Go.Proofs.YtajgjeialbgijaaDoor
set_option linter.unusedVariables false
set_option linter.unusedSimpArgs false
set_option maxRecDepth 100000
open Go.RowKit
theorem flat_take (ps:List (List UInt8)) (k:Nat) (h:k < ps.length):(ps.take (k + 1)).flatten=(ps.take k).flatten ++ ps.getD k []:=by
 rw [List.take_succ_eq_append_getElem h,List.flatten_append,List.getD_eq_getElem?_getD,List.getElem?_eq_getElem h]
 simp only [List.flatten_cons,List.flatten_nil,List.append_nil,Option.getD_some]
theorem flat_len_take (ps:List (List UInt8)) (k:Nat):(ps.take k).flatten.length<=ps.flatten.length:=by
 have:=congrArg (fun l=>l.flatten.length) (List.take_append_drop k ps)
 simp only [List.flatten_append,List.length_append] at this
 omega
theorem new_ex (w:World):Calls Tryd.prog 46 #[] w fun e w'=>∃ g,e = .returned (.pointer (some ⟨g,0,none⟩))/\w.heap.size<=g/\Holds w' g []/\Below w.heap.size w w' :=
 (new_any w).mono fun _ _ ⟨h1,h2,h3⟩=>⟨_,h1,Nat.le_refl _,h2,h3⟩
theorem copy_ex {w:World} {g:Nat} {m:List UInt8} (h:Holds w g m):Calls Tryd.prog 68 #[.pointer (some ⟨g,0,none⟩)] w fun e w'=>∃ g',e = .returned (.pointer (some ⟨g',0,none⟩))/\w.heap.size<=g'/\Holds w' g' m/\Below w.heap.size w w' :=
 (copy_any h).mono fun _ _ ⟨h1,h2,h3⟩=>⟨_,h1,Nat.le_refl _,h2,h3⟩
def Summed (m:List UInt8) (D:List Value):Prop:=D=(Sha.sum m).map cellOf
theorem Summed.len {m:List UInt8} {D:List Value} (h:Summed m D):D.length=32:=by rw [h,List.length_map,Sha.sum_length]
theorem Summed.one {m:List UInt8} {D:List Value} (h:Summed m D):∀ v ∈ D,v.oneCell'=true:=by rw [h]; exact cells_u8 _
theorem Summed.info {m:List UInt8} {D:List Value} (h:Summed m D):(Tryd.prog.info? 27).map (·.size)=some D.length:=by rw [h.len]; kernel_rfl
theorem sum_ex {w:World} {g:Nat} {m:List UInt8} (hg:Gl w) (hH:Holds w g m) (hb:m.length<=549755813888) :
  Calls Tryd.prog 48 #[.pointer (some ⟨g,0,none⟩)] w fun e w'=>∃ D,e = .returned (.agg D.toArray)/\Summed m D/\Below w.heap.size w w' :=
 (sum_any hg hH hb).mono fun _ _ ⟨h1,h2⟩=>⟨_,h1,rfl,h2⟩
set_option maxRecDepth 100000 in
set_option maxHeartbeats 1000000 in
theorem shaSum_any {w:World} {A:Option Addr} {n c:Nat} {ps:List (List UInt8)} (hg:Gl w) (hr:RdP w A n ps) (hn:n<=1000000) (hb:ps.flatten.length<=549755813888) :
  Calls Tryd.prog 33 #[.slice A n c] w fun e w'=>∃ D,e = .returned (.agg D.toArray)/\Summed ps.flatten D/\Below w.heap.size w w':=by
 have HG:=Lib.hid hg
 have hsz:=hg.size
 have HR:=Lib.hid hr
 clear hg hr
 go_enter Tryd.func33,Tryd.ntmps33
 go_wp2_with fail
 refine (new_ex _).mono ?_
 rintro e w1 ⟨gs,rfl,hgs,hH1,hW1⟩
 have hw1:=hW1.size
 simp at hw1 hgs
 have W1:Hid (Below w.heap.size w w1):=((Below.refl _ _).alloc (Nat.le_refl _) _).trans (hW1.mono (by simp))
 have HR30:Hid (Blk w1 w.heap.size 27 (List.replicate 32 (.int .u8 0))):=(Blk.new w 27 _).below hW1 (by simp)
 have HH1:Hid (Holds w1 gs []):=hH1
 have HP:Hid (RdP w1 A n ps):=HR.out.below W1.out
 have HG1:=Lib.hid (HG.out.below W1.out HG.out.size)
 clear hH1 hW1
 go_wp2_with fail
 go_loopw [9] (fun i wr=>∃ k:Nat,k<=n/\i = .int .i64 k/\Hid (Holds wr gs (ps.take k).flatten)/\Hid (w1.grownBy wr (some gs))) (fun i _=>n - (intOf i).toNat)
 case atStart=>exact ⟨0,by omega,rfl,HH1,only_refl _ _⟩
 case round =>
  clear HH1
  obtain ⟨k,hk,rfl,HH,HO⟩:=hrel
  have HGr:=Lib.hid (HG1.out.only HO.out (by omega))
  by_cases hlt:k < n
  ·obtain ⟨b,off,A',n',c',rfl,hblt,hcell,hrd⟩:=HR.out.at_ k hlt
   have c0:wr.cell? ⟨b,off + k,none⟩=some (.slice A' n' c'):=by
    have h1:=W1.out.cell (p:=⟨b,off + k,none⟩) hblt
    have h2:wr.heap[b]?=w1.heap[b]?:=HO.out.block b (by omega) (by simp; omega)
    rw [World.cell?_of_block (a:=⟨b,off + k,none⟩) h2,h1,hcell]
   have HRd:Hid (Rd wr A' n' c' (ps.getD k [])):=(hrd.below W1.out).grown HO.out (hrd.apart (by omega))
   have HAp:=Lib.hid (hrd.apart (g:=gs) (by omega))
   have HF:=Lib.hid (flat_take ps k (by rw [HR.out.len]; exact hlt))
   have hfl:=flat_len_take ps (k + 1)
   rw [HF.out,List.length_append] at hfl
   have HFl:=Lib.hid hfl
   clear hfl hcell hrd
   go_wp2_with fail
   refine (write_any HGr.out (by omega) HH.out HRd.out HAp.out (by have:=HFl.out; omega)).mono ?_
   rintro e w2 ⟨rfl,R2,O2⟩
   have HH2:Hid (Holds w2 gs (ps.take (k + 1)).flatten):=by unfold Hid; rw [HF.out]; exact R2.holds
   have HO2:=Lib.hid (only_trans HO.out O2)
   clear R2 O2
   go_wp2_with fail
   go_roundw
   case rel=>exact ⟨k + 1,by omega,by go_num,HH2,HO2⟩
   case measure=>simp [intOf]; omega
  ·have hkn:k=n:=by omega
   have HH2:Hid (Holds wr gs ps.flatten):=by
    have:=HH.out
    rw [List.take_of_length_le (by rw [HR.out.len]; omega)] at this
    exact this
   have hwr:=HO.out.size
   have HRr:Hid (Blk wr w.heap.size 27 (List.replicate 32 (.int .u8 0))):=(HO.out.block _ HR30.out.lt (by simp; omega)).trans HR30.out
   have Wr:Hid (Below w.heap.size w wr):=below_of_only W1.out HO.out (by omega) (by omega)
   clear hkn HH HR30
   go_wp2_with fail
   refine (sum_ex HGr.out HH2.out hb).mono ?_
   rintro e w2 ⟨D,rfl,hS,hW2⟩
   have HS:=Lib.hid hS
   have HI:=Lib.hid hS.info
   have HL:Hid ((List.replicate 32 (Value.int .u8 0)).length=D.length):=by unfold Hid; rw [hS.len]; rfl
   have H1:=Lib.hid hS.one
   have HR2:Hid (Blk w2 w.heap.size 27 (List.replicate 32 (.int .u8 0))):=HRr.out.below hW2 HRr.out.lt
   have W2:Hid (Below w.heap.size w w2):=Wr.out.trans (hW2.mono (by omega))
   clear hS hW2 HRr Wr
   go_wp2_with (first
    | ((with_reducible refine storeGen_law rfl 27 (.tmp 2) (.tmp 18) rfl w.heap.size rfl D rfl 27 (List.replicate 32 (.int .u8 0)) HI.out HL.out H1.out w.heap.size w HR2.out W2.out (Nat.le_refl _) ?_); intro w4 B4 W4))
   exact bodyPost_ret (results_cell_row rfl _ _ w.heap.size 27 D.toArray (0,0) _ rfl B4.out Tryd.underlying27 rfl (by rw [HI.out]; simp)) rfl ⟨D,rfl,HS.out,W4.out⟩
end Go.Proofs.YtajgjeialbgijaaDoor
