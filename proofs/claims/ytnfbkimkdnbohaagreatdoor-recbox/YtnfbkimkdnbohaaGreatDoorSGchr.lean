import Derived.Test.YtnfbkimkdnbohaaGreatDoorSGcha
set_option linter.unusedVariables false
set_option linter.unusedSimpArgs false
set_option maxRecDepth 100000
set_option maxHeartbeats 8000000
namespace Go.Proofs.YtnfbkimkdnbohaaGreatDoor
open Go.RowKit
theorem infoW:(Tryz.prog.info? 61).map (fun i=>(i.zero,i.size,i.bytes))=some (some (.int .u32 0),1,4):=by kernel_rfl
def OwW (w:World) (base:Nat) (v:Value) (l:List Int):Prop:=w.ownsRow base 61 1 v l.length (l.map wd)
theorem OwW.empty (w:World) (B:Nat):OwW w B (.slice none 0 0) []:=World.ownsRow_nil w B 61 1
theorem OwW.keep {w w':World} {base:Nat} {v:Value} {l:List Int} (h:OwW w base v l) (hk:Below w.heap.size w w'):OwW w' base v l:=by
 refine ⟨h.1,?_⟩
 rcases h.2 with ⟨rfl,h2⟩ | ⟨g,cap,cur,rfl,hb,hg,h3⟩
 ·exact .inl ⟨rfl,h2⟩
 ·refine .inr ⟨g,cap,cur,rfl,hb,?_,h3⟩
  rw [hk.block g ?_]
  ·exact hg
  ·rcases Nat.lt_or_ge g w.heap.size with hlt | hge
   ·exact hlt
   ·rw [Array.getElem?_eq_none hge] at hg; cases hg
theorem OwW.lit (w:World) (B:Nat) (l:List Int) (a:Array Value) (n:Nat) (ha:a=(l.map wd).toArray) (hn:l.length=n) (hm:n<=1000000) (hB:B<=w.heap.size):OwW (w.alloc (.cells a 61)) B (.slice (some ⟨w.heap.size,0,none⟩) n n) l:=by
 subst ha
 subst hn
 exact ⟨by simp,.inr ⟨w.heap.size,l.length,_,rfl,hB,heap_alloc_new w _,Nat.le_refl _,by unfold maxLen; omega,by simp,by rw [Nat.mul_one]; exact List.take_of_length_le (by simp)⟩⟩
theorem OwW.blk {w:World} {base:Nat} {v:Value} {l:List Int} (h:OwW w base v l) (h0:0 < l.length):∃ g c ex,v = .slice (some ⟨g,0,none⟩) l.length c/\base<=g/\Blk w g 61 (l.map wd ++ ex)/\l.length<=c/\c<=maxLen:=by
 rcases h.2 with ⟨rfl,hn⟩ | ⟨g,cap,cur,rfl,hb,hg,hnc,hcm,hcs,htake⟩
 ·omega
 ·refine ⟨g,cap,cur.toList.drop l.length,rfl,hb,?_,hnc,hcm⟩
  have e:l.map wd ++ cur.toList.drop l.length=cur.toList:=by
   rw [<- htake,Nat.mul_one,List.take_append_drop]
  rw [e]
  unfold Blk
  rw [Array.toArray_toList]
  exact hg
theorem word_at {w:World} {g j:Nat} {t:TypeId} {l:List Int} {ex:List Value} (hB:Blk w g t (l.map wd ++ ex)) (hj:j < l.length):w.cell? ⟨g,j,none⟩=some (.int .u32 (l.getD j 0)):=by
 rw [hB.cell,List.getElem?_append_left (by simpa using hj)]
 simp [wd,List.getD_eq_getElem?_getD,List.getElem?_eq_getElem hj]
theorem word_put {w:World} {g j:Nat} {t:TypeId} {l:List Int} {ex:List Value} (hB:Blk w g t (l.map wd ++ ex)) (hj:j < l.length) (x:Int):Blk (w.setCell ⟨g,j,none⟩ (.int .u32 x)) g t ((l.set j x).map wd ++ ex):=by
 have:=hB.set_ j (wd x)
 rw [List.set_append_left _ _ (by simpa using hj),<- List.map_set] at this
 exact this
theorem run_ontoW {wr:World} {B:Nat} {v:Value} {l:List Int} (hown:OwW wr B v l) (ty:TypeId) {q m c:Nat} {t:TypeId} {news:List Int} {ex:List Value} (hb:Blk wr q t (news.map wd ++ ex)) (hm:news.length=m) (hlen:l.length + m<=1000000000) (hB:B<=wr.heap.size) :
  ∃ v' w',(Builtin.append_ #[100,100] ty #[v,.slice (some ⟨q,0,none⟩) m c]).run Tryz.prog wr = .ok v' w'/\OwW w' B v' (l ++ news)/\wr.grownBy w' v.ownBlock:=by
 obtain ⟨i0,hi,hz0,hz1,hz2⟩:=info_parts infoW
 have hl:(news.map wd).length=m * i0.size:=by rw [hz1]; simpa using hm
 have hnews:∀ j u,(news.map wd)[j]?=some u->wr.cell? ((⟨q,0,none⟩:Addr).add j)=some u:=fun j u hu=>by
  have hj:j < news.length:=by simpa using (List.getElem?_eq_some_iff.1 hu).1
  rw [add_plain,Nat.zero_add,hb.cell,List.getElem?_append_left (by simpa using hj)]
  exact hu
 have h63:l.length + m<=maxLen:=by unfold maxLen; omega
 have hown':wr.ownsRow B 61 i0.size v l.length (l.map wd):=by rw [hz1]; exact hown
 obtain ⟨v',w',hrun,h2,h3,h4⟩:=run_append_own (P:=Tryz.prog) wr B 100 ty 61 i0 (.int .u32 0) i0.size i0.bytes Tryz.underlying100 hi hz0 rfl rfl (by rw [hz1]; rfl) (by rw [hz1]; omega) v l.length (l.map wd) hown' ⟨q,0,none⟩ m c (news.map wd) hl hnews (cells_wd news) h63 (by rw [hz2]; omega) hB
 refine ⟨v',w',hrun,?_,h3⟩
 unfold OwW
 rw [hz1] at h2
 simpa [hm] using h2
theorem step_ontoW {ops:Array Oper} {o:Oper} {a:Act} {K:Act->World->Prop} {Q:Exit->Act->World->Prop} {E:Prop} {wr w0:World} {B:Nat} {v:Value} {l:List Int} (hgd:Region.wanted o (yielded ops a.tmps)=true) (s x:Operand)
  (ho:o.op = .call { callee:=.builtin .append,args:=#[s,x],argTypes:=#[100,100] }) (hs:a.eval s=v) {q m c:Nat} {t:TypeId} {news:List Int} {ex:List Value} (hx:a.eval x = .slice (some ⟨q,0,none⟩) m c) (hb:Blk wr q t (news.map wd ++ ex)) (hm:news.length=m) (hown:OwW wr B v l)
  (hlen:l.length + m<=1000000000) (hB:B<=wr.heap.size) (hbel:Below B w0 wr)
  (h:∀ v' w',Hid (OwW w' B v' (l ++ news))->Hid (Below B w0 w')->Hid (wr.grownBy w' v.ownBlock)->K (a.put o.dst v') w'):if Region.wanted o (yielded ops a.tmps)=true then o.wp Tryz.prog a wr K Q else E:=by
 rw [if_pos hgd]
 obtain ⟨v',w',hrun,h2,h3⟩:=run_ontoW hown o.type (c:=c) hb hm hlen hB
 unfold Oper.wp execOp
 simp only [ho,resolve,invoke,builtin,Sem.run_bind,Sem.run_pure,Result.andThen_ok,List.map_toArray,List.map_cons,List.map_nil,hs,hx,hrun]
 exact h v' w' h2 (hbel.grown h3 hB fun k hk=>(World.ownsRow.lt hown k hk).1) h3
theorem ontoWords_law {ops:Array Oper} {rest:List Oper} {o:Oper} {a:Act} {Q:Exit->Act->World->Prop} {wr w0:World} {B:Nat} {v:Value} {l:List Int} (hgd:o.guard=none) (s x:Operand)
  (ho:o.op = .call { callee:=.builtin .append,args:=#[s,x],argTypes:=#[100,100] }) (hs:a.eval s=v) {q m c:Nat} {t:TypeId} {news:List Int} {ex:List Value} (hx:a.eval x = .slice (some ⟨q,0,none⟩) m c) (hb:Blk wr q t (news.map wd ++ ex)) (hm:news.length=m) (hown:OwW wr B v l)
  (hlen:l.length + m<=1000000000) (hB:B<=wr.heap.size) (hbel:Below B w0 wr)
  (h:∀ v' w',Hid (OwW w' B v' (l ++ news))->Hid (Below B w0 w')->Hid (wr.grownBy w' v.ownBlock)->wpList Tryz.prog ops Q rest (a.put o.dst v') w'):wpList Tryz.prog ops Q (o :: rest) a wr :=
 wpList_step fun K hK=>step_ontoW (by simp [Region.wanted,hgd]) s x ho hs hx hb hm hown hlen hB hbel (fun v' w' h2 h3 h4=>hK _ _ (h v' w' h2 h3 h4))
open Go.RowKit
def rowC (p:List UInt8) (n:Nat):List Value:=p.map cellOf ++ List.replicate (n - p.length) (.int .u8 0)
theorem rowC_at (p:List UInt8) (n k:Nat) (hk:p.length=k) (h:k < n):(rowC p n)[k]?=some (.int .u8 0):=by
 unfold rowC
 rw [List.getElem?_append_right (by simp; omega)]
 simp only [List.length_map,hk,Nat.sub_self]
 exact List.getElem?_replicate_of_lt (by omega)
theorem rowC_set (p:List UInt8) (n k:Nat) (y:UInt8) (hk:p.length=k) (h:k < n):(rowC p n).set k (cellOf y)=rowC (p ++ [y]) n:=by
 unfold rowC
 obtain ⟨j,hj⟩:∃ j,n - k=j + 1:=⟨n - k - 1,by omega⟩
 have hj':n - (p ++ [y]).length=j:=by simp; omega
 rw [hj',hk,hj,List.set_append_right _ _ (by simp; omega)]
 simp [List.replicate_succ,hk]
theorem rowC_full (p:List UInt8) (n:Nat) (h:p.length=n):rowC p n=p.map cellOf:=by unfold rowC; rw [h]; simp
theorem bytesL_at (z:Int):∀ j:Nat,j < 4->(Cha.bytesL z).take (j + 1)=(Cha.bytesL z).take j ++ [Sha.by8 (z / 2 ^ (8 * j))]
 | 0,_=>by simp [Cha.bytesL]
 | 1,_=>by simp [Cha.bytesL]
 | 2,_=>by simp [Cha.bytesL]
 | 3,_=>by simp [Cha.bytesL]
theorem rblock_any (key nonce:List UInt8) (ctr:Int) (w:World) (hk:key.length=32) (hn:nonce.length=12) :
  Calls Tryz.prog 106 #[.agg (key.map cellOf).toArray,.int .u32 ctr,.agg (nonce.map cellOf).toArray] w fun e w'=>e = .returned (.agg ((Cha.block key ctr nonce).map cellOf).toArray)/\Below w.heap.size w w':=by
 obtain ⟨kc,hkc⟩:=zx (key.map cellOf)
 obtain ⟨nc,hnc⟩:=zx (nonce.map cellOf)
 rw [<- hkc,<- hnc]
 have HK:=qh hkc
 have HN:=qh hnc
 have LK:=qh hk
 have LN:=qh hn
 clear hkc hnc hk hn
 go_enter Tryz.func106,Tryz.ntmps106
 go_upto_region 1 with (fail)
 obtain ⟨w0,hw0⟩:=zx (((w.alloc (Obj.cells kc.toArray 45)).alloc (Obj.cells nc.toArray 88)).alloc (Obj.cells (List.replicate 64 (.int .u8 0)).toArray 120))
 have B0:Hid (Blk w0 w.heap.size 45 kc):=by unfold Hid; rw [hw0]; exact ((Blk.new w 45 kc).alloc _).alloc _
 have B1:Hid (Blk w0 (w.heap.size + 1) 88 nc):=by unfold Hid; rw [hw0]; exact (Blk.at_new _ _ 88 _ _ rfl (by simp)).alloc _
 have B2:Hid (Blk w0 (w.heap.size + 1 + 1) 120 (List.replicate 64 (.int .u8 0))):=by unfold Hid; rw [hw0]; exact Blk.at_new _ _ 120 _ _ rfl (by simp)
 have W0:Hid (Below w.heap.size w w0):=by unfold Hid; rw [hw0]; exact (((Below.refl _ _).alloc (Nat.le_refl _) _).alloc (by simp) _).alloc (by simp <;> omega) _
 have hs0:w.heap.size + 3<=w0.heap.size:=by rw [hw0]; simp
 change Code.wp _ _ _ _ (((w.alloc (Obj.cells kc.toArray 45)).alloc (Obj.cells nc.toArray 88)).alloc (Obj.cells (List.replicate 64 (.int .u8 0)).toArray 120))
 rw [<- hw0]
 clear hw0
 have S1:=qh (OwW.lit w0 w0.heap.size Cha.consts #[.int .u32 1634760805,.int .u32 857760878,.int .u32 2036477234,.int .u32 1797285236] 4 rfl rfl (by omega) (Nat.le_refl _))
 have X1:Hid (Below w0.heap.size w0 (w0.alloc (.cells #[.int .u32 1634760805,.int .u32 857760878,.int .u32 2036477234,.int .u32 1797285236] 61))):=(Below.refl _ _).alloc (Nat.le_refl _) _
 go_wp2_with fail
 go_loopw [7,8] (fun v i wr=>∃ (k:Nat) (l:List Int),k<=8/\i = .int .i64 k/\Hid (l.length=4 + k)/\Hid (l=Cha.consts ++ (List.range k).map (Cha.word key))/\Hid (OwW wr w0.heap.size v l)/\Hid (Below w0.heap.size w0 wr)) (fun _ i _=>8 - (intOf i).toNat)
 case atStart=>exact ⟨0,Cha.consts,by omega,rfl,rfl,rfl,S1,X1⟩
 case round =>
  clear S1 X1
  obtain ⟨vs,rfl⟩:=zx (u7)
  obtain ⟨k,l,hk,rfl,LL,HE,OS,BW⟩:=hrel
  have hsr:=BW.out.size
  have C0:=qh (B0.out.below BW.out (by omega))
  have C1:=qh (B1.out.below BW.out (by omega))
  by_cases hlt:k < 8
  ·have hlb:decide ((k:Int) < 8)=true:=by simp; omega
   have hsl:∀ W,(Instr.sliceAt 45 (.pointer (some ⟨w.heap.size,0,none⟩)) (some (.int .i64 (4 * (k:Int)))) none none).run Tryz.prog W = .ok (.slice (some ⟨w.heap.size,4 * k,none⟩) (32 - 4 * k) (32 - 4 * k)) W:=fun W=>by
    have:=sliceAt_l 45 32 Tryz.underlying45 w.heap.size 0 (4 * k) (by omega) W
    rw [show ((4 * k:Nat):Int)=4 * (k:Int) by omega,Nat.zero_add] at this
    exact this
   have HR:Hid (Rd wr (some ⟨w.heap.size,4 * k,none⟩) (32 - 4 * k) (32 - 4 * k) (key.drop (4 * k))):=block_drop C0.out HK.out LK.out (by omega) (by omega)
   obtain ⟨x,hx⟩:=zx (Cha.word key k)
   have HX:=qh hx
   have hcall:=qh (rlow_any HR.out (by omega))
   rw [word_drop,<- hx] at hcall
   clear hx
   go_wp2_with fail
   refine hcall.out.mono ?_
   rintro e w2 ⟨rfl,hX,hH⟩
   have O2:=qh (OS.out.keep hX)
   have W2:=qh (BW.out.trans (hX.mono hsr))
   have hs2:=hX.size
   have N3:Hid (Blk (w2.alloc (.cells #[.int .u32 x] 61)) w2.heap.size 61 ([x].map wd ++ [])):=Blk.at_new _ _ 61 _ _ rfl rfl
   have X3:Hid (Below w2.heap.size w2 (w2.alloc (.cells #[.int .u32 x] 61))):=(Below.refl _ _).alloc (Nat.le_refl _) _
   clear hX hH hcall hsl HR OS BW
   go_wp2_with (first | (at_builtin; refine ontoWords_law rfl (.tmp 26) _ rfl rfl rfl N3.out rfl (O2.out.keep X3.out) (by rw [LL.out]; omega) (by have:=X3.out.size; omega) (W2.out.trans (X3.out.mono (by omega))) ?_; intro v4 w4 O4 W4 _))
   go_roundw
   case rel =>
    refine ⟨k + 1,l ++ [x],by omega,by go_num,?_,?_,O4,W4⟩
    ·unfold Hid; rw [List.length_append,LL.out]; simp <;> omega
    ·unfold Hid; rw [List.range_succ,List.map_append,<- List.append_assoc,<- HE.out,HX.out]; rfl
   case measure=>simp [intOf]; omega
  ·obtain rfl:k=8:=by omega
   rw [show ((8:Nat):Int)=8 from rfl]
   go_upto_region 6 with (fail)
   have K1:Hid (Blk wr.drew (w.heap.size + 1) 88 nc):=C1.out.drew
   have O1:Hid (OwW wr.drew w0.heap.size vs l):=OS.out.keep ((Below.refl wr.heap.size wr).drew)
   have Y1:Hid (Below w0.heap.size w0 wr.drew):=BW.out.drew
   have hy1:w0.heap.size<=wr.drew.heap.size:=hsr
   obtain ⟨x0,hx0⟩:=zx (Cha.word nonce 0)
   obtain ⟨x1,hx1⟩:=zx (Cha.word nonce 1)
   obtain ⟨x2,hx2⟩:=zx (Cha.word nonce 2)
   have HF:Hid (l ++ [ctr,x0,x1,x2]=Cha.first key ctr nonce):=by unfold Hid Cha.first; rw [HE.out,hx0,hx1,hx2]; simp [List.range_succ]
   have LOW:Hid (∀ (W:World) (j:Nat),j < 3->Blk W (w.heap.size + 1) 88 nc->Calls Tryz.prog 126 #[.slice (some ⟨w.heap.size + 1,4 * j,none⟩) (12 - 4 * j) (12 - 4 * j)] W fun e w'=>e = .returned (.int .u32 (Cha.word nonce j))/\Below W.heap.size W w'/\w'.heap=W.heap):=fun W j hj hB=>by
    have:=rlow_any (block_drop hB HN.out LN.out (k:=4 * j) (by omega) (by omega)) (by omega)
    rw [word_drop] at this
    exact this
   have L0:=qh (LOW.out wr.drew 0 (by omega) K1.out)
   rw [<- hx0] at L0
   have HX1:=qh hx1
   have HX2:=qh hx2
   clear hx0 hx1 hx2 HE OS BW C0 C1
   refine wp_region_any (by kernel_rfl) ?_
   change wpAny _ _ _ _ _ _ _ (World.drew _)
   generalize wr.drew=w1 at *
   refine ztk 0 (vs) ?_
   try simp only [zpt]
   refine ztk 1 (.int .u32 ctr) ?_
   try simp only [zpt]
   refine ztk 2 (.slice (some ⟨w.heap.size + 1,0,none⟩) 12 12) ?_
   try simp only [zpt]
   refine ztk 4 (.slice (some ⟨w.heap.size + 1,4,none⟩) 8 8) ?_
   try simp only [zpt]
   refine ztk 6 (.slice (some ⟨w.heap.size + 1,8,none⟩) 4 4) ?_
   try simp only [zpt]
   refine zrd 3 fun K hK=>?_
   go_simp
   refine L0.out.mono ?_
   rintro r w2 ⟨rfl,hX,hH⟩
   have K2:=qh (K1.out.same hH)
   have O2:=qh (O1.out.keep hX)
   have Y2:=qh (Y1.out.trans (hX.mono hy1))
   have hy2:=Y2.out.size
   have L1:=qh (LOW.out w2 1 (by omega) K2.out)
   rw [<- HX1.out] at L1
   clear hX hH L0 K1 O1 Y1
   refine hK _ _ ?_; clear hK K; try simp only [zpt]
   refine zrd 5 fun K hK=>?_
   go_simp
   refine L1.out.mono ?_
   rintro r w3 ⟨rfl,hX,hH⟩
   have K3:=qh (K2.out.same hH)
   have O3:=qh (O2.out.keep hX)
   have Y3:=qh (Y2.out.trans (hX.mono hy2))
   have hy3:=Y3.out.size
   have L2:=qh (LOW.out w3 2 (by omega) K3.out)
   rw [<- HX2.out] at L2
   clear hX hH L1 K2 O2 Y2
   refine hK _ _ ?_; clear hK K; try simp only [zpt]
   refine zrd 7 fun K hK=>?_
   go_simp
   refine L2.out.mono ?_
   rintro r w4 ⟨rfl,hX,hH⟩
   have K4:=qh (K3.out.same hH)
   have O4:=qh (O3.out.keep hX)
   have Y4:=qh (Y3.out.trans (hX.mono hy3))
   have hy4:=Y4.out.size
   clear hX hH L2 K3 O3 Y3
   refine hK _ _ ?_; clear hK K; try simp only [zpt]
   refine zrd 8 fun K hK=>?_
   go_simp
   have X5:=(Below.refl w4.heap.size w4).alloc (Nat.le_refl _) (.cells #[.int .u32 ctr,.int .u32 x0,.int .u32 x1,.int .u32 x2] 61)
   have N5:Hid (Blk (w4.alloc (.cells #[.int .u32 ctr,.int .u32 x0,.int .u32 x1,.int .u32 x2] 61)) w4.heap.size 61 ([ctr,x0,x1,x2].map wd ++ [])):=Blk.at_new _ _ 61 _ _ rfl rfl
   have O5:=qh (O4.out.keep X5)
   have Y5:=qh (Y4.out.trans (X5.mono hy4))
   have hy5:=Y5.out.size
   clear X5 O4 Y4 K4
   refine hK _ _ ?_
   clear hK K
   generalize w4.alloc (.cells #[.int .u32 ctr,.int .u32 x0,.int .u32 x1,.int .u32 x2] 61)=w5 at *
   try simp only [zpt]
   refine zrd 9 fun K hK=>?_
   refine step_ontoW (by rfl) (.tmp 33) (.tmp 41) rfl rfl rfl N5.out rfl O5.out (by rw [LL.out]; omega) hy5 Y5.out ?_
   intro v6 w6 O6 Y6 _
   rw [HF.out] at O6
   have hy6:=Y6.out.size
   clear N5 O5 Y5
   refine hK _ _ ?_; clear hK K; try simp only [zpt]
   refine ztk 10 (v6) ?_
   try simp only [zpt]
   refine wpAny_done (by kernel_rfl) ?_ _
   clear HF LOW LL HX1 HX2
   obtain ⟨f,hf⟩:=zx (Cha.first key ctr nonce)
   rw [<- hf] at O6
   have LF:Hid (f.length=16):=by unfold Hid; rw [hf]; exact Cha.first_length key ctr nonce
   have HFE:=qh hf
   clear hf
   obtain ⟨g7,c7,ex7,rfl,hg7,S6,hc7,hm7⟩:=O6.out.blk (by rw [LF.out]; omega)
   rw [LF.out] at hc7
   rw [LF.out]
   have S6':=qh S6
   have hl7:=S6.lt
   clear O6 S6
   go_upto_region 8 with (first | (at_builtin; refine ontoWords_law rfl (.const (.slice none 0 0)) _ rfl rfl rfl S6'.out LF.out (OwW.empty _ w6.heap.size) (by simp) (Nat.le_refl _) (Below.refl _ _) ?_; intro v8 w8 O8 X8 _))
   rw [List.nil_append] at O8
   obtain ⟨g9,c9,ex9,rfl,hg9,S8,hc9,hm9⟩:=O8.out.blk (by rw [LF.out]; omega)
   rw [LF.out] at hc9
   rw [LF.out]
   have R8:Hid (Blk w8 g9 61 ((Cha.rounds 0 f).map wd ++ ex9)):=S8
   have F8:=qh (S6'.out.below X8.out hl7)
   have Z8:=qh (B2.out.below (Y6.out.trans (X8.out.mono hy6)) (by omega))
   have W8:=qh (W0.out.trans ((Y6.out.trans (X8.out.mono hy6)).mono (by omega)))
   have hl9:=S8.lt
   have hs8:=X8.out.size
   clear O8 S8 X8 S6' Y6 B0 B1 B2 W0
   have R8':Hid (Blk w8 g9 61 ((Cha.sr 0 f).map wd ++ ex9)):=R8
   clear R8
   go_wp2_with fail
   go_loopw [10] (fun v wr=>∃ i:Nat,i<=20/\v = .int .i64 i/\Hid (Blk wr g9 61 ((Cha.sr i f).map wd ++ ex9))/\Hid (Blk wr g7 61 (f.map wd ++ ex7))/\Hid (Blk wr (w.heap.size + 1 + 1) 120 (List.replicate 64 (.int .u8 0)))/\Hid (Below w.heap.size w wr)) (fun v _=>20 - (intOf v).toNat)
   case atStart=>exact ⟨0,by omega,rfl,R8',F8,Z8,W8⟩
   case round =>
    clear R8' F8 Z8 W8
    obtain ⟨i,hi,rfl,RR,FF,ZZ,WW⟩:=hrel
    by_cases hil:i < 20
    ·have hlb:decide ((i:Int) < 20)=true:=by simp; omega
     obtain ⟨n,hnn⟩:=zx (Cha.sr i f)
     have LNN:Hid (n.length=16):=by unfold Hid; rw [hnn,Cha.sr_length,LF.out]
     rw [<- hnn] at RR
     have HNN:=qh hnn
     obtain ⟨e,hee⟩:=zx (i % 2)
     have he1:e<=1:=by omega
     have HEE:=qh hee
     have hie:(i:Int) % 2=(e:Int):=by omega
     clear hnn hee
     have R0:Hid (Blk wr g9 61 ((Cha.qs e 0 n).map wd ++ ex9)):=RR
     clear RR
     go_wp2_with fail
     go_loopw [11] (fun v wr=>∃ k:Nat,k<=4/\v = .int .i64 k/\Hid (Blk wr g9 61 ((Cha.qs e k n).map wd ++ ex9))/\Hid (Blk wr g7 61 (f.map wd ++ ex7))/\Hid (Blk wr (w.heap.size + 1 + 1) 120 (List.replicate 64 (.int .u8 0)))/\Hid (Below w.heap.size w wr)) (fun v _=>4 - (intOf v).toNat)
     case atStart=>exact ⟨0,by omega,rfl,R0,FF,ZZ,WW⟩
     case round =>
      clear R0 FF ZZ WW
      obtain ⟨k,hk,rfl,RR,FF,ZZ,WW⟩:=hrel
      obtain ⟨wi,rfl⟩:=zx (wr)
      by_cases hlt:k < 4
      ·have hkb:decide ((k:Int) < 4)=true:=by simp; omega
       go_upto_if 55 with (fail)
       go_cut [12] from 49 to 107 (fun v wx=>Hid (v = .int .i64 (e:Int))/\Hid (wx=wi))
       case first =>
        by_cases h1:e=1
        ·have hq:((e:Int) == 1)=true:=by simp; omega
         go_wp2_with fail
         go_meet
         case rel=>exact ⟨by unfold Hid; rw [h1]; rfl,rfl⟩
        ·have hq:((e:Int) == 1)=false:=by simp; omega
         go_wp2_with fail
         go_meet
         case rel=>exact ⟨by unfold Hid; rw [show e=0 by omega]; rfl,rfl⟩
       case rest =>
        obtain ⟨h1,h2⟩:=hcut
        have h1':=h1.out
        have h2':=h2.out
        subst h2'
        subst h1'
        clear h1 h2
        obtain ⟨wi,rfl⟩:=zx (wc)
        obtain ⟨jb,hjb⟩:=zx (Cha.pb k e)
        obtain ⟨jc,hjc⟩:=zx (Cha.pc k e)
        obtain ⟨jd,hjd⟩:=zx (Cha.pd k e)
        have eb:(4:Int) + ((k:Int) + (e:Int)) % 4=(jb:Int):=by rw [hjb]; unfold Cha.pb; omega
        have ec:(8:Int) + ((k:Int) + 2 * (e:Int)) % 4=(jc:Int):=by rw [hjc]; unfold Cha.pc; omega
        have ed:(12:Int) + ((k:Int) + 3 * (e:Int)) % 4=(jd:Int):=by rw [hjd]; unfold Cha.pd; omega
        have HJB:=qh hjb
        have HJC:=qh hjc
        have HJD:=qh hjd
        have pl:=Cha.places k e hlt
        rw [<- hjb,<- hjc,<- hjd] at pl
        obtain ⟨p0,p1,p2,p3⟩:=pl
        clear hjb hjc hjd
        go_upto_region 18 with (fail)
        clear eb ec ed
        obtain ⟨m,hm⟩:=zx (Cha.qs e k n)
        rw [<- hm] at RR
        have LM:Hid (m.length=16):=by unfold Hid; rw [hm,Cha.qs_length,LNN.out]
        have HM:=qh hm
        clear hm
        have ca:wi.drew.cell? ⟨g9,k,none⟩=some (.int .u32 (m.getD k 0)):=word_at RR.out.drew (by rw [LM.out]; exact p0)
        have cb:wi.drew.cell? ⟨g9,jb,none⟩=some (.int .u32 (m.getD jb 0)):=word_at RR.out.drew (by rw [LM.out]; exact p1)
        have cc:wi.drew.cell? ⟨g9,jc,none⟩=some (.int .u32 (m.getD jc 0)):=word_at RR.out.drew (by rw [LM.out]; exact p2)
        have cd:wi.drew.cell? ⟨g9,jd,none⟩=some (.int .u32 (m.getD jd 0)):=word_at RR.out.drew (by rw [LM.out]; exact p3)
        obtain ⟨xa,hxa⟩:=zx (m.getD k 0)
        obtain ⟨xb,hxb⟩:=zx (m.getD jb 0)
        obtain ⟨xc,hxc⟩:=zx (m.getD jc 0)
        obtain ⟨xd,hxd⟩:=zx (m.getD jd 0)
        rw [<- hxa] at ca
        rw [<- hxb] at cb
        rw [<- hxc] at cc
        rw [<- hxd] at cd
        have HQ:Hid (Cha.qs e (k + 1) n=Cha.put4 m k e (Cha.qr xa xb xc xd)):=by unfold Hid; rw [hxa,hxb,hxc,hxd,Cha.qs,<- HM.out,Cha.q4,HJB.out,HJC.out,HJD.out]
        clear hxa hxb hxc hxd
        have ba:(k:Int) < 16:=by omega
        have bb:(jb:Int) < 16:=by omega
        have bc:(jc:Int) < 16:=by omega
        have bd:(jd:Int) < 16:=by omega
        obtain ⟨m3,hm3⟩:=zx (m)
        have B3:Hid (Blk wi.drew g9 61 (m3.map wd ++ ex9)):=by rw [hm3]; exact RR.out.drew
        have F3:Hid (Blk wi.drew g7 61 (f.map wd ++ ex7)):=FF.out.drew
        have Z3:Hid (Blk wi.drew (w.heap.size + 1 + 1) 120 (List.replicate 64 (.int .u8 0))):=ZZ.out.drew
        have W3:Hid (Below w.heap.size w wi.drew):=WW.out.drew
        have L3:Hid (m3.length=16):=by rw [hm3]; exact LM
        have H3:=qh hm3
        clear hm3 RR FF ZZ WW
        refine wp_region_any (by kernel_rfl) ?_
        change wpAny _ _ _ _ _ _ _ (World.drew _)
        generalize wi.drew=w3 at *
        refine ztk 0 (.slice (some ⟨g9,0,none⟩) 16 c9) ?_
        try simp only [zpt]
        refine ztk 1 (.int .i64 (k:Int)) ?_
        try simp only [zpt]
        refine ztk 2 (.slice (some ⟨g9,0,none⟩) 16 c9) ?_
        try simp only [zpt]
        refine ztk 3 (.int .i64 (jb:Int)) ?_
        try simp only [zpt]
        refine ztk 4 (.slice (some ⟨g9,0,none⟩) 16 c9) ?_
        try simp only [zpt]
        refine ztk 5 (.int .i64 (jc:Int)) ?_
        try simp only [zpt]
        refine ztk 6 (.slice (some ⟨g9,0,none⟩) 16 c9) ?_
        try simp only [zpt]
        refine ztk 7 (.int .i64 (jd:Int)) ?_
        try simp only [zpt]
        refine ztk 8 (.slice (some ⟨g9,0,none⟩) 16 c9) ?_
        try simp only [zpt]
        refine ztk 9 (.int .i64 (k:Int)) ?_
        try simp only [zpt]
        refine ztk 10 (.pointer (some ⟨g9,k,none⟩)) ?_
        try simp only [zpt]
        refine ztk 12 (.slice (some ⟨g9,0,none⟩) 16 c9) ?_
        try simp only [zpt]
        refine ztk 13 (.int .i64 (jb:Int)) ?_
        try simp only [zpt]
        refine ztk 14 (.pointer (some ⟨g9,jb,none⟩)) ?_
        try simp only [zpt]
        refine ztk 16 (.slice (some ⟨g9,0,none⟩) 16 c9) ?_
        try simp only [zpt]
        refine ztk 17 (.int .i64 (jc:Int)) ?_
        try simp only [zpt]
        refine ztk 18 (.pointer (some ⟨g9,jc,none⟩)) ?_
        try simp only [zpt]
        refine ztk 20 (.slice (some ⟨g9,0,none⟩) 16 c9) ?_
        try simp only [zpt]
        refine ztk 21 (.int .i64 (jd:Int)) ?_
        try simp only [zpt]
        refine ztk 22 (.pointer (some ⟨g9,jd,none⟩)) ?_
        try simp only [zpt]
        refine reads4 (i1:=11) (i2:=15) (i3:=19) (i4:=23) (o1:=?p32) (o2:=?q32) (o3:=?r32) (o4:=?s32) (v1:=.int .u32 xa) (v2:=.int .u32 xb) (v3:=.int .u32 xc) (v4:=.int .u32 xd) ?a32 ?b32 ?c32 ?d32 (by kernel_rfl) (by kernel_rfl) (by kernel_rfl) (by decide) ?e32 ?f32 ?g32 ?h32 ?rest32
        case a32=>simp only [zge]; rfl
        case b32=>simp only [zge]; rfl
        case c32=>simp only [zge]; rfl
        case d32=>simp only [zge]; rfl
        case e32=>exact ⟨by rfl,by go_simp⟩
        case f32=>exact ⟨by rfl,by go_simp⟩
        case g32=>exact ⟨by rfl,by go_simp⟩
        case h32=>exact ⟨by rfl,by go_simp⟩
        try simp only [zpt]
        refine zrd 24 fun K hK=>?_
        go_simp
        refine (rquarter_any xa xb xc xd w3).mono ?_
        rintro r w4 ⟨rfl,hX⟩
        have B4:=qh (B3.out.below hX B3.out.lt)
        have F4:=qh (F3.out.below hX F3.out.lt)
        have Z4:=qh (Z3.out.below hX Z3.out.lt)
        have W4:=qt W3 hX
        have L4:=L3
        obtain ⟨m4,hm4⟩:=zx (m3)
        rw [<- hm4] at B4 L4
        have H4:=qh hm4
        clear hm4 hX B3 F3 Z3 W3 ca cb cc cd
        refine hK _ _ ?_
        clear hK K
        obtain ⟨⟨qa,qb,qc,qd⟩,hq⟩:=zx (Cha.qr xa xb xc xd)
        rw [<- hq] at HQ
        rw [<- hq]
        clear hq
        change wpAny _ _ _ _ _ _ _ _
        unfold four
        dsimp only
        try simp only [zpt]
        refine ztk 25 (.tuple #[.int .u32 qa,.int .u32 qb,.int .u32 qc,.int .u32 qd]) ?_
        try simp only [zpt]
        refine ztk 26 (.int .u32 qa) ?_
        try simp only [zpt]
        refine ztk 27 (.int .u32 qb) ?_
        try simp only [zpt]
        refine ztk 28 (.int .u32 qc) ?_
        try simp only [zpt]
        refine ztk 29 (.int .u32 qd) ?_
        try simp only [zpt]
        refine ztk 30 (.pointer (some ⟨g9,k,none⟩)) ?_
        try simp only [zpt]
        refine zrd 31 fun K hK=>?_
        have c0:w4.cell? ⟨g9,k,none⟩=some (.int .u32 (m4.getD k 0)):=word_at B4.out (by rw [L4.out]; omega)
        have f0:w4.frozen? ⟨g9,k,none⟩=false:=B4.out.frozen _
        go_simp
        refine hK _ _ ?_
        clear hK K c0 f0
        obtain ⟨m5,hm5⟩:=zx (m4.set k qa)
        have B5:Hid (Blk (w4.setCell ⟨g9,k,none⟩ (.int .u32 qa)) g9 61 (m5.map wd ++ ex9)):=by rw [hm5]; exact word_put B4.out (by rw [L4.out]; omega) _
        have L5:Hid (m5.length=16):=by unfold Hid; rw [hm5,List.length_set,L4.out]
        have F5:=qh (F4.out.far (p:=⟨g9,k,none⟩) (by simp <;> omega) (.int .u32 qa))
        have Z5:=qh (Z4.out.far (p:=⟨g9,k,none⟩) (by simp <;> omega) (.int .u32 qa))
        have W5:=qh (W4.out.setCell (p:=⟨g9,k,none⟩) (by simp <;> omega) (.int .u32 qa))
        have H5:=qh hm5
        generalize w4.setCell ⟨g9,k,none⟩ (.int .u32 qa)=w5 at *
        clear hm5 B4 F4 Z4 W4
        try simp only [zpt]
        refine ztk 32 (.pointer (some ⟨g9,jb,none⟩)) ?_
        try simp only [zpt]
        refine zrd 33 fun K hK=>?_
        have c0:w5.cell? ⟨g9,jb,none⟩=some (.int .u32 (m5.getD jb 0)):=word_at B5.out (by rw [L5.out]; omega)
        have f0:w5.frozen? ⟨g9,jb,none⟩=false:=B5.out.frozen _
        go_simp
        refine hK _ _ ?_
        clear hK K c0 f0
        obtain ⟨m6,hm6⟩:=zx (m5.set jb qb)
        have B6:Hid (Blk (w5.setCell ⟨g9,jb,none⟩ (.int .u32 qb)) g9 61 (m6.map wd ++ ex9)):=by rw [hm6]; exact word_put B5.out (by rw [L5.out]; omega) _
        have L6:Hid (m6.length=16):=by unfold Hid; rw [hm6,List.length_set,L5.out]
        have F6:=qh (F5.out.far (p:=⟨g9,jb,none⟩) (by simp <;> omega) (.int .u32 qb))
        have Z6:=qh (Z5.out.far (p:=⟨g9,jb,none⟩) (by simp <;> omega) (.int .u32 qb))
        have W6:=qh (W5.out.setCell (p:=⟨g9,jb,none⟩) (by simp <;> omega) (.int .u32 qb))
        have H6:=qh hm6
        generalize w5.setCell ⟨g9,jb,none⟩ (.int .u32 qb)=w6 at *
        clear hm6 B5 F5 Z5 W5
        try simp only [zpt]
        refine ztk 34 (.pointer (some ⟨g9,jc,none⟩)) ?_
        try simp only [zpt]
        refine zrd 35 fun K hK=>?_
        have c0:w6.cell? ⟨g9,jc,none⟩=some (.int .u32 (m6.getD jc 0)):=word_at B6.out (by rw [L6.out]; omega)
        have f0:w6.frozen? ⟨g9,jc,none⟩=false:=B6.out.frozen _
        go_simp
        refine hK _ _ ?_
        clear hK K c0 f0
        obtain ⟨m7,hm7⟩:=zx (m6.set jc qc)
        have B7:Hid (Blk (w6.setCell ⟨g9,jc,none⟩ (.int .u32 qc)) g9 61 (m7.map wd ++ ex9)):=by rw [hm7]; exact word_put B6.out (by rw [L6.out]; omega) _
        have L7:Hid (m7.length=16):=by unfold Hid; rw [hm7,List.length_set,L6.out]
        have F7:=qh (F6.out.far (p:=⟨g9,jc,none⟩) (by simp <;> omega) (.int .u32 qc))
        have Z7:=qh (Z6.out.far (p:=⟨g9,jc,none⟩) (by simp <;> omega) (.int .u32 qc))
        have W7:=qh (W6.out.setCell (p:=⟨g9,jc,none⟩) (by simp <;> omega) (.int .u32 qc))
        have H7:=qh hm7
        generalize w6.setCell ⟨g9,jc,none⟩ (.int .u32 qc)=w7 at *
        clear hm7 B6 F6 Z6 W6
        try simp only [zpt]
        refine ztk 36 (.pointer (some ⟨g9,jd,none⟩)) ?_
        try simp only [zpt]
        refine zrd 37 fun K hK=>?_
        have c0:w7.cell? ⟨g9,jd,none⟩=some (.int .u32 (m7.getD jd 0)):=word_at B7.out (by rw [L7.out]; omega)
        have f0:w7.frozen? ⟨g9,jd,none⟩=false:=B7.out.frozen _
        go_simp
        refine hK _ _ ?_
        clear hK K c0 f0
        obtain ⟨m8,hm8⟩:=zx (m7.set jd qd)
        have B8:Hid (Blk (w7.setCell ⟨g9,jd,none⟩ (.int .u32 qd)) g9 61 (m8.map wd ++ ex9)):=by rw [hm8]; exact word_put B7.out (by rw [L7.out]; omega) _
        have L8:Hid (m8.length=16):=by unfold Hid; rw [hm8,List.length_set,L7.out]
        have F8:=qh (F7.out.far (p:=⟨g9,jd,none⟩) (by simp <;> omega) (.int .u32 qd))
        have Z8:=qh (Z7.out.far (p:=⟨g9,jd,none⟩) (by simp <;> omega) (.int .u32 qd))
        have W8:=qh (W7.out.setCell (p:=⟨g9,jd,none⟩) (by simp <;> omega) (.int .u32 qd))
        have H8:=qh hm8
        generalize w7.setCell ⟨g9,jd,none⟩ (.int .u32 qd)=w8 at *
        clear hm8 B7 F7 Z7 W7
        try simp only [zpt]
        refine wpAny_done (by kernel_rfl) ?_ _
        have HFN:Hid (m8=Cha.qs e (k + 1) n):=by
         unfold Hid
         rw [HQ.out,H8.out,H7.out,H6.out,H5.out,H4.out,H3.out]
         unfold Cha.put4
         rw [<- HJB.out,<- HJC.out,<- HJD.out]
        clear HQ H3 H4 H5 H6 H7 H8 L3 L4 L5 L6 L7
        rw [HFN.out] at B8
        go_wp2_with fail
        go_roundw
        case rel=>exact ⟨k + 1,by omega,by go_num,B8,F8,Z8,W8⟩
        case measure=>simp [intOf]; omega
      ·obtain rfl:k=4:=by omega
       rw [show ((4:Nat):Int)=4 from rfl]
       have R4:Hid (Blk wi g9 61 ((Cha.sr (i + 1) f).map wd ++ ex9)):=by
        unfold Hid
        rw [Cha.sr,<- HNN.out,<- HEE.out]
        exact RR.out
       clear RR
       go_wp2_with fail
       go_roundw
       case rel=>exact ⟨i + 1,by omega,by go_num,R4,FF,ZZ,WW⟩
       case measure=>simp [intOf]; omega
    ·obtain rfl:i=20:=by omega
     rw [show ((20:Nat):Int)=20 from rfl]
     obtain ⟨m,hm⟩:=zx (Cha.rounds 10 f)
     have RM:Hid (Blk wr g9 61 (m.map wd ++ ex9)):=by rw [hm,<- Cha.sr_even 10 f]; exact RR
     have LM:Hid (m.length=16):=by unfold Hid; rw [hm,Cha.rounds_length,LF.out]
     obtain ⟨S,hS⟩:=zx (Sha.adds m f)
     have LS:Hid (S.length=16):=by unfold Hid; rw [hS,Sha.adds_length _ _ (by rw [LM.out,LF.out]),LM.out]
     have HBL:Hid (Cha.block key ctr nonce=Cha.flatL S):=by unfold Hid Cha.block; rw [<- HFE.out,<- hm,hS]
     have HGS:Hid (∀ j,j < 16->S.getD j 0=Sha.add (m.getD j 0) (f.getD j 0)):=fun j hj=>by rw [hS]; exact Cha.adds_get m f j (by rw [LM.out]; exact hj) (by rw [LF.out]; exact hj)
     clear hS hm RR
     obtain ⟨wo,rfl⟩:=zx (wr)
     have lt9:=RM.out.lt
     have lt7:=FF.out.lt
     go_wp2_with fail
     go_loopw [18] (fun v wr=>∃ k:Nat,k<=16/\v = .int .i64 k/\Hid (Blk wr wo.heap.size 120 (rowC (Cha.flatL (S.take k)) 64))/\Hid (Below wo.heap.size wo wr)) (fun v _=>16 - (intOf v).toNat)
     case atStart=>exact ⟨0,by omega,rfl,Blk.at_new _ _ 120 _ _ (by rfl) rfl,(Below.refl _ _).alloc (Nat.le_refl _) _⟩
     case round =>
      obtain ⟨k,hk,rfl,BK,BW⟩:=hrel
      by_cases hlt:k < 16
      ·have hkb:decide ((k:Int) < 16)=true:=by simp; omega
       obtain ⟨x,hx⟩:=zx (m.getD k 0)
       obtain ⟨y,hy⟩:=zx (f.getD k 0)
       have c9':wr.drew.cell? ⟨g9,k,none⟩=some (.int .u32 x):=by rw [hx]; exact word_at (RM.out.below BW.out lt9).drew (by rw [LM.out]; exact hlt)
       have c7':wr.drew.cell? ⟨g7,k,none⟩=some (.int .u32 y):=by rw [hy]; exact word_at (FF.out.below BW.out lt7).drew (by rw [LF.out]; exact hlt)
       obtain ⟨z,hz⟩:=zx (Sha.add x y)
       have HZ:Hid (S.getD k 0=z):=by unfold Hid; rw [HGS.out k hlt,<- hx,<- hy,hz]
       have hz1:IntKind.u32.wrap (x + y)=z:=hz.symm
       have bk:(k:Int) < 16:=by omega
       have BK2:Hid (Blk wr.drew wo.heap.size 120 (rowC (Cha.flatL (S.take k)) 64)):=BK.out.drew
       have BW2:Hid (Below wo.heap.size wo wr.drew):=BW.out.drew
       clear hx hy hz BK BW
       go_upto_region 23 with (fail)
       refine wp_region_still_lit (by kernel_rfl) (by kernel_rfl) ?_
       have hD:({ wr with drawn:=wr.drawn + 1 }:World)=wr.drew:=rfl
       rw [hD]
       clear hD
       generalize wr.drew=w3 at *
       repeat still_step
       refine wpStill_nil ?_
       clear c9' c7'
       try rw [hz1]
       clear hz1
       have L0:Hid ((Cha.flatL (S.take k)).length=4 * k):=by unfold Hid; rw [Cha.flatL_length,List.length_take,LS.out]; omega
       obtain ⟨p0,hp0⟩:=zx (Cha.flatL (S.take k))
       rw [<- hp0] at BK2 L0
       have HP0:=qh hp0
       clear hp0
       go_wp2_with fail
       go_loopw [20] (fun v wr=>∃ j:Nat,j<=4/\v = .int .i64 j/\Hid (Blk wr wo.heap.size 120 (rowC (p0 ++ (Cha.bytesL z).take j) 64))/\Hid (Below wo.heap.size wo wr)) (fun v _=>4 - (intOf v).toNat)
       case atStart=>exact ⟨0,by omega,rfl,by unfold Hid; rw [List.take_zero,List.append_nil]; exact BK2.out,BW2⟩
       case round =>
        clear BK2 BW2
        obtain ⟨j,hj,rfl,BK,BW⟩:=hrel
        by_cases hjl:j < 4
        ·have hjb:decide ((j:Int) < 4)=true:=by simp; omega
         have hpl:(p0 ++ (Cha.bytesL z).take j).length=4 * k + j:=by rw [List.length_append,L0.out,List.length_take]; simp [Cha.bytesL]; omega
         have c0:wr.cell? ⟨wo.heap.size,4 * k + j,none⟩=some (.int .u8 0):=by rw [BK.out.cell]; exact rowC_at _ _ _ hpl (by omega)
         have f0:wr.frozen? ⟨wo.heap.size,4 * k + j,none⟩=false:=BK.out.frozen _
         have bj:4 * (k:Int) + (j:Int) < 64:=by omega
         have HPL:=qh hpl
         clear hpl
         go_upto_region 26 with (fail)
         have BN:Hid (Blk (wr.setCell ⟨wo.heap.size,4 * k + j,none⟩ (.int .u8 (z / 2 ^ (8 * j) % 256))) wo.heap.size 120 (rowC (p0 ++ (Cha.bytesL z).take (j + 1)) 64)):=by
          have:=BK.out.set_ (4 * k + j) (cellOf (Sha.by8 (z / 2 ^ (8 * j))))
          rw [rowC_set _ 64 _ _ HPL.out (by omega),byte8,List.append_assoc,<- bytesL_at z j hjl] at this
          exact this
         clear c0 f0 BK HPL
         go_wp2_with fail
         go_roundw
         case rel=>exact ⟨j + 1,by omega,by go_num,BN,BW.out.setCell (Nat.le_refl _) _⟩
         case measure=>simp [intOf]; omega
        ·obtain rfl:j=4:=by omega
         rw [show ((4:Nat):Int)=4 from rfl]
         have BN:Hid (Blk wr wo.heap.size 120 (rowC (Cha.flatL (S.take (k + 1))) 64)):=by
          have h:=BK.out
          have e:S.take (k + 1)=S.take k ++ [z]:=by
           rw [List.take_succ_eq_append_getElem (by rw [LS.out]; exact hlt),<- HZ.out]
           simp [List.getD_eq_getElem?_getD,LS.out,hlt]
          unfold Hid
          rw [e,Cha.flatL_snoc,<- HP0.out]
          rw [List.take_of_length_le (by simp [Cha.bytesL])] at h
          exact h
         clear BK
         go_wp2_with fail
         go_roundw
         case rel=>exact ⟨k + 1,by omega,by go_num,BN,BW⟩
         case measure=>simp [intOf]; omega
      ·obtain rfl:k=16:=by omega
       obtain ⟨D,hD⟩:=zx ((Cha.block key ctr nonce).map cellOf)
       have hBD:Blk wr wo.heap.size 120 D:=by
        have:=BK.out
        rw [List.take_of_length_le (by rw [LS.out]; omega),<- HBL.out,rowC_full _ 64 (Cha.block_length key ctr nonce),<- hD] at this
        exact this
       have hDl:D.length=64:=by rw [hD,List.length_map,Cha.block_length]
       have ID:Hid ((Tryz.prog.info? 120).map (·.size)=some D.length):=by unfold Hid; rw [hDl]; kernel_rfl
       have LD:Hid ((List.replicate 64 (Value.int .u8 0)).length=D.length):=by unfold Hid; rw [hDl]; rfl
       have OD:Hid (∀ v ∈ D,v.oneCell'=true):=by unfold Hid; rw [hD]; exact cells_u8 _
       have HBD:=qh hBD
       have HD:=qh hD
       have ZR:=qh (ZZ.out.below BW.out (by have:=ZZ.out.lt; omega))
       have WR:=qt WW BW.out
       clear hBD hDl hD BK
       go_wp2_with (first
        | ((with_reducible refine load_law rfl 120 (.tmp 17) rfl wo.heap.size 0 rfl D _ Tryz.underlying120 rfl ID.out HBD.out.cells ?_))
        | ((with_reducible refine storeGen_law rfl 120 (.tmp 6) (.tmp 136) rfl (w.heap.size + 1 + 1) rfl D rfl 120 (List.replicate 64 (.int .u8 0)) ID.out LD.out OD.out w.heap.size w ZR.out WR.out (by omega) ?_); intro w7 B7 W7))
       exact bodyPost_ret (results_cell_row rfl _ _ (w.heap.size + 1 + 1) 120 D.toArray (0,0) _ rfl B7.out Tryz.underlying120 rfl (by rw [ID.out]; simp)) rfl ⟨by rw [HD.out],W7.out⟩
open Go.RowKit
def strm (key:List UInt8) (ctr:Int) (nonce:List UInt8) (a m:Nat):List UInt8:=(List.range' a (m - a)).map (Cha.stream key ctr nonce)
theorem strm_nil (key:List UInt8) (ctr:Int) (nonce:List UInt8) (a:Nat):strm key ctr nonce a a=[]:=by simp [strm]
theorem strm_length (key:List UInt8) (ctr:Int) (nonce:List UInt8) (a m:Nat):(strm key ctr nonce a m).length=m - a:=by simp [strm]
theorem strm_cons (key:List UInt8) (ctr:Int) (nonce:List UInt8) (a m:Nat) (h:a < m):strm key ctr nonce a m=Cha.stream key ctr nonce a :: strm key ctr nonce (a + 1) m:=by
 unfold strm
 rw [show m - a=(m - (a + 1)) + 1 by omega,List.range'_succ,List.map_cons]
theorem take_map (l:List UInt8) (f:Nat->UInt8) (k e:Nat) (hl:l.length=64) (he:e<=64) (hf:∀ i,i < 64->f (k + i)=l.getD i 0):l.take e=(List.range' k e).map f:=by
 apply List.ext_getElem
 ·simp [hl]; omega
 ·intro i h1 h2
  have hi:i < e:=by simpa using h2
  rw [List.getElem_take,List.getElem_map,List.getElem_range',Nat.one_mul,hf i (by omega)]
  simp [List.getD_eq_getElem?_getD,List.getElem?_eq_getElem (show i < l.length by omega)]
theorem stream_at (key:List UInt8) (ctr:Int) (nonce:List UInt8) (k i j:Nat) (h1:(k + i) / 64=j) (h2:(k + i) % 64=i):Cha.stream key ctr nonce (k + i)=(Cha.block key (Cha.ctrAt ctr j) nonce).getD i 0:=by
 unfold Cha.stream
 rw [h1,h2]
theorem strm_block (key:List UInt8) (ctr:Int) (nonce:List UInt8) (k e:Nat) (hk:k % 64=0) (he:e<=64):(Cha.block key (Cha.ctrAt ctr (k / 64)) nonce).take e=strm key ctr nonce k (k + e):=by
 unfold strm
 rw [Nat.add_sub_cancel_left]
 exact take_map _ _ k e (Cha.block_length key (Cha.ctrAt ctr (k / 64)) nonce) he (fun i hi=>stream_at key ctr nonce k i (k / 64) (by omega) (by omega))
theorem block_rd {w:World} {g:Nat} {t:TypeId} {l:List UInt8} {E:List Value} (hb:Blk w g t E) (hE:E=l.map cellOf) (hl:l.length=64) (e:Nat) (he:e<=64):Rd w (some ⟨g,0,none⟩) e 64 (l.take e):=by
 subst hE
 exact Rd.of_block hb (by rw [List.length_take,hl]; omega) he (by unfold maxLen; omega) (fun j hj=>by
  rw [Nat.zero_add]
  simp [cellOf,List.getD_eq_getElem?_getD,List.getElem?_take,hj,List.getElem?_eq_getElem (show j < l.length by omega)])
theorem Ow.more {w:World} {B B':Nat} {v:Value} {l:List UInt8} (h:Ow w B v l) (hB:B'<=B):Ow w B' v l:=by
 refine ⟨h.1,?_⟩
 rcases h.2 with ⟨rfl,h2⟩ | ⟨g,cap,cur,rfl,hb,hg,h3⟩
 ·exact .inl ⟨rfl,h2⟩
 ·exact .inr ⟨g,cap,cur,rfl,Nat.le_trans hB hb,hg,h3⟩
theorem Ow.set_at {w:World} {B g n c k:Nat} {l:List UInt8} (h:Ow w B (.slice (some ⟨g,0,none⟩) n c) l) (hk:k < l.length) (y:UInt8):Ow (w.setCell ⟨g,k,none⟩ (cellOf y)) B (.slice (some ⟨g,0,none⟩) n c) (l.set k y):=by
 have h1:=h.1
 rcases h.2 with ⟨h',_⟩ | ⟨g',cap',cur,h',hb,hg,hnc,hcm,hcs,htake⟩
 ·simp at h'
 ·simp only [Value.slice.injEq,Option.some.injEq,Addr.mk.injEq,and_true,true_and] at h'
  obtain ⟨rfl,rfl,rfl⟩:=h'
  have hB:Blk w g 5 cur.toList:=by unfold Blk; rw [Array.toArray_toList]; exact hg
  have hB':=hB.set_ k (cellOf y)
  refine ⟨by simp,.inr ⟨g,c,(cur.toList.set k (cellOf y)).toArray,?_,hb,hB',?_,hcm,?_,?_⟩⟩
  ·rw [List.length_set]
  ·rw [List.length_set]; exact hnc
  ·simpa using hcs
  ·rw [List.length_set,List.map_set,<- htake]
   simp [List.take_set]
theorem rxor_own (key nonce:List UInt8) (ctr:Int) {w:World} {A:Option Addr} {n c:Nat} {b:List UInt8} (hr:Rd w A n c b) (hn:n<=100000) (hk:key.length=32) (hnn:nonce.length=12) (h0:0<=ctr) (h1:ctr < 4294967296) :
  Calls Tryz.prog 83 #[.agg (key.map cellOf).toArray,.int .u32 ctr,.agg (nonce.map cellOf).toArray,.slice A n c] w fun e w'=>∃ A' c',e = .returned (.slice A' n c')/\Rd w' A' n c' (Cha.xor key ctr nonce b)/\Below w.heap.size w w'/\Ow w' w.heap.size (.slice A' n c') (Cha.xor key ctr nonce b):=by
 have HBL:=qh (fun W x=>rblock_any key nonce x W hk hnn)
 have HR:=qh hr
 have HL:=qh hr.len
 have HC0:=qh (ctr_zero ctr h0 h1)
 obtain ⟨kc,hkc⟩:=zx (key.map cellOf)
 obtain ⟨nc,hnc⟩:=zx (nonce.map cellOf)
 rw [<- hkc,<- hnc] at HBL
 rw [<- hkc,<- hnc]
 have hkl:kc.length=32:=by rw [hkc,List.length_map,hk]
 have hnl:nc.length=12:=by rw [hnc,List.length_map,hnn]
 have IK:Hid ((Tryz.prog.info? 45).map (·.size)=some kc.length):=by unfold Hid; rw [hkl]; kernel_rfl
 have IN:Hid ((Tryz.prog.info? 88).map (·.size)=some nc.length):=by unfold Hid; rw [hnl]; kernel_rfl
 clear hkc hnc hk hnn hkl hnl hr h0 h1
 go_enter Tryz.func83,Tryz.ntmps83
 go_upto_region 1 with (fail)
 obtain ⟨w0,hw0⟩:=zx ((w.alloc (Obj.cells kc.toArray 45)).alloc (Obj.cells nc.toArray 88))
 have B0:Hid (Blk w0 w.heap.size 45 kc):=by unfold Hid; rw [hw0]; exact (Blk.new w 45 kc).alloc _
 have B1:Hid (Blk w0 (w.heap.size + 1) 88 nc):=by unfold Hid; rw [hw0]; exact Blk.at_new _ _ 88 _ _ rfl (by simp)
 have W0:Hid (Below w.heap.size w w0):=by unfold Hid; rw [hw0]; exact ((Below.refl _ _).alloc (Nat.le_refl _) _).alloc (by simp) _
 have hs0:w.heap.size + 2<=w0.heap.size:=by rw [hw0]; simp
 change Code.wp _ _ _ _ ((w.alloc (Obj.cells kc.toArray 45)).alloc (Obj.cells nc.toArray 88))
 rw [<- hw0]
 clear hw0
 go_wp2_with fail
 go_loopw [1,9,10] (fun cv v i wr=>∃ (k M:Nat) (A':Option Addr) (c':Nat),k<=n/\M=min n (64 * ((k + 63) / 64))/\i = .int .i64 k/\cv = .int .u32 (Cha.ctrAt ctr ((k + 63) / 64))/\v = .slice A' M c'/\Hid (Ow wr w0.heap.size v (Cha.xorTo key ctr nonce b k ++ strm key ctr nonce k M))/\Hid (Below w0.heap.size w0 wr)) (fun _ _ i _=>n - (intOf i).toNat)
 case atStart=>exact ⟨0,0,none,0,by omega,by simp,rfl,by rw [show (0 + 63) / 64=0 from rfl,HC0.out],rfl,by unfold Hid; rw [strm_nil]; exact Ow.empty _ _,Below.refl _ _⟩
 case round =>
  obtain ⟨k,M,A',c',hk,hM,rfl,rfl,rfl,OX,BW⟩:=hrel
  have hsr:=BW.out.size
  obtain ⟨wi,rfl⟩:=zx (wr)
  by_cases hlt:k < n
  ·have hlb:decide ((k:Int) < (n:Int))=true:=by simp; omega
   have hlb':decide (k < n)=true:=by simp; omega
   obtain ⟨q,hq⟩:=zx (k % 64)
   have hqe:(k:Int) % 64=(q:Int):=by omega
   have hq64:q < 64:=by omega
   have HQ:=qh hq
   have HM:=qh hM
   clear hq hM
   go_upto_if 20 with (fail)
   obtain ⟨N,hN⟩:=zx (min n (64 * (k / 64 + 1)))
   have hkN:k < N:=by omega
   have hNn:N<=n:=by omega
   have HN:=qh hN
   clear hN
   go_cut [1,9,11] from 12 to 44 (fun cv v _ wx=>∃ (A2:Option Addr) (c2:Nat),Hid (cv = .int .u32 (Cha.ctrAt ctr (k / 64 + 1)))/\Hid (v = .slice A2 N c2)/\Hid (Ow wx w0.heap.size v (Cha.xorTo key ctr nonce b k ++ strm key ctr nonce k N))/\Hid (Below w0.heap.size w0 wx))
   case first =>
    by_cases hz:q=0
    ·have hqz:((q:Int) == 0)=true:=by simp; omega
     have ek:(k + 63) / 64=k / 64:=by have:=HQ.out; omega
     obtain rfl:M=k:=by have:=HM.out; have:=HQ.out; omega
     rw [ek]
     rw [strm_nil,List.append_nil] at OX
     have C0:=qh (B0.out.below BW.out (by omega))
     have C1:=qh (B1.out.below BW.out (by omega))
     have hcall:=qh (HBL.out wi (Cha.ctrAt ctr (M / 64)))
     go_wp2_with (first
      | ((with_reducible refine load_law rfl 45 (.tmp 4) rfl w.heap.size 0 rfl kc _ Tryz.underlying45 rfl IK.out C0.out.cells ?_))
      | ((with_reducible refine load_law rfl 88 (.tmp 6) rfl (w.heap.size + 1) 0 rfl nc _ Tryz.underlying88 rfl IN.out C1.out.cells ?_)))
     refine hcall.out.mono ?_
     rintro e w2 ⟨rfl,hX⟩
     obtain ⟨E,hE⟩:=zx ((Cha.block key (Cha.ctrAt ctr (M / 64)) nonce).map cellOf)
     rw [<- hE]
     have hEl:E.length=64:=by rw [hE,List.length_map,Cha.block_length]
     have IE:Hid ((Tryz.prog.info? 120).map (·.size)=some E.length):=by unfold Hid; rw [hEl]; kernel_rfl
     have LE:Hid ((List.replicate 64 (Value.int .u8 0)).length=E.length):=by unfold Hid; rw [hEl]; rfl
     have OE:Hid (∀ v ∈ E,v.oneCell'=true):=by unfold Hid; rw [hE]; exact cells_u8 _
     have HE:=qh hE
     have O2:=qh (OX.out.keep hX)
     have Y2:=qh (BW.out.trans (hX.mono hsr))
     have hs2:=hX.size
     clear hX hE hEl hcall C0 C1 OX BW
     go_upto_region 7 with (first
      | ((with_reducible refine storeGen_law rfl 120 (.tmp 11) (.tmp 24) rfl w2.heap.size rfl E rfl 120 (List.replicate 64 (.int .u8 0)) IE.out LE.out OE.out w2.heap.size w2 ?_ ?_ (Nat.le_refl _) ?_)
         ·exact Blk.at_new _ _ 120 _ _ (by rfl) rfl
         ·exact (Below.refl _ _).alloc (Nat.le_refl _) _
         intro w3 E3 X3))
     obtain ⟨e,he,hee⟩:∃ e:Nat,e=min 64 (n - M)/\M + e=N:=⟨_,rfl,by have:=HN.out; have:=HQ.out; omega⟩
     have heq:min (64:Int) ((n:Int) - (M:Int))=(e:Int):=by omega
     have heq2:(if (n:Int) - (M:Int) < 64 then (n:Int) - (M:Int) else 64)=(e:Int):=by split <;> omega
     have RE:Hid (Rd w3 (some ⟨w2.heap.size,0,none⟩) e 64 (strm key ctr nonce M N)):=by
      unfold Hid
      rw [<- hee,<- strm_block key ctr nonce M e (by rw [<- HQ.out]; exact hz) (by omega)]
      exact block_rd E3.out HE.out (Cha.block_length key (Cha.ctrAt ctr (M / 64)) nonce) e (by omega)
     clear he
     have hsl:=fun W=>sliceAt_h 120 64 Tryz.underlying120 w2.heap.size 0 e (by omega) W
     have O3:=qh (O2.out.keep X3.out)
     have Y3:=qh (Y2.out.trans (X3.out.mono (by omega)))
     have hs3:=X3.out.size
     clear E3 X3 O2 Y2 IE LE OE HE
     go_wp2_with (first | (at_builtin; refine onto_law rfl (.tmp 25) _ rfl rfl rfl RE.out O3.out (by rw [Cha.xorTo_length]; omega) (by omega) Y3.out ?_; intro v4 w4 O4 Y4))
     clear hsl heq heq2
     obtain ⟨A4,c4,rfl,_,_⟩:=O4.out.value
     have e4:(Cha.xorTo key ctr nonce b M ++ strm key ctr nonce M N).length=N:=by rw [List.length_append,Cha.xorTo_length,strm_length]; omega
     rw [e4] at O4
     rw [e4]
     go_meet
     case rel=>exact ⟨A4,c4,by unfold Hid; rw [ctr_succ],rfl,O4,Y4⟩
    ·have hqz:((q:Int) == 0)=false:=by simp; omega
     have ek:(k + 63) / 64=k / 64 + 1:=by have:=HQ.out; omega
     obtain rfl:M=N:=by have h1:=HM.out; have h2:=HN.out; rw [ek] at h1; omega
     rw [ek]
     go_wp2_with fail
     go_meet
     case rel=>exact ⟨A',c',rfl,rfl,OX,BW⟩
   case rest =>
    obtain ⟨A2,c2,h1,h2,O2,Y2⟩:=hcut
    have h1':=h1.out
    have h2':=h2.out
    subst h1'
    subst h2'
    clear h1 h2 OX BW
    obtain ⟨wi,rfl⟩:=zx (wc)
    have hsw:=Y2.out.size
    rw [strm_cons key ctr nonce k N hkN] at O2
    obtain ⟨s,hs⟩:=zx (Cha.stream key ctr nonce k)
    obtain ⟨x,hx⟩:=zx (b.getD k 0)
    have HXS:Hid (Cha.xorTo key ctr nonce b (k + 1)=Cha.xorTo key ctr nonce b k ++ [s ^^^ x]):=by unfold Hid; rw [Cha.xorTo_succ,<- hs,<- hx,UInt8.xor_comm]
    rw [<- hs] at O2
    have LX:Hid ((Cha.xorTo key ctr nonce b k).length=k):=Cha.xorTo_length _ _ _ _ _
    have LR:Hid ((strm key ctr nonce (k + 1) N).length=N - (k + 1)):=strm_length _ _ _ _ _
    obtain ⟨X,hXX⟩:=zx (Cha.xorTo key ctr nonce b k)
    obtain ⟨R,hRR⟩:=zx (strm key ctr nonce (k + 1) N)
    rw [<- hXX,<- hRR] at O2
    rw [<- hXX] at LX HXS
    rw [<- hRR] at LR
    have HRR:=qh hRR
    have el:(X ++ s :: R).length=N:=by rw [List.length_append,List.length_cons,LX.out,LR.out]; omega
    obtain ⟨g,c3,cur,heq,hgb,hB,hlc,hcm,hcells⟩:=own_blk O2.out (by rw [el]; omega)
    rw [el] at heq
    obtain ⟨rfl,rfl⟩:A2=some ⟨g,0,none⟩/\c2=c3:=by simpa using heq
    have cs:wi.drew.cell? ⟨g,k,none⟩=some (.int .u8 (s.toNat:Int)):=by
     rw [hB.drew.cell,hcells k (by rw [el]; exact hkN)]
     have:(X ++ s :: R).getD k 0=s:=by rw [List.getD_eq_getElem?_getD,List.getElem?_append_right (by rw [LX.out]; omega),LX.out]; simp
     rw [this]
     rfl
    have fs:wi.drew.frozen? ⟨g,k,none⟩=false:=hB.drew.frozen k
    obtain ⟨bb,off,hA,hbl,hcell⟩:=HR.out.at_ (by omega)
    subst hA
    have e0:wi.drew.cell? ⟨bb,off + k,none⟩=some (.int .u8 (x.toNat:Int)):=by
     rw [hx]
     exact ((W0.out.trans (Y2.out.mono (by omega))).drew.cell (p:=⟨bb,off + k,none⟩) hbl).trans (hcell k hlt)
    have hxs:=xor_cell s x
    have hOS:(X ++ s :: R).set k (s ^^^ x)=X ++ [s ^^^ x] ++ R:=by rw [List.set_append_right _ _ (by rw [LX.out]; omega),LX.out,Nat.sub_self]; simp
    have O3:Hid (Ow wi.drew w0.heap.size (.slice (some ⟨g,0,none⟩) N c2) (X ++ s :: R)):=O2.out.keep ((Below.refl wi.heap.size wi).drew)
    have Y3:Hid (Below w0.heap.size w0 wi.drew):=Y2.out.drew
    have EL:=qh el
    have HOS:=qh hOS
    have bk:(k:Int) < (n:Int):=by omega
    have bN:(k:Int) < (N:Int):=by omega
    have bN':k < N:=hkN
    clear hs hx hXX hRR el heq hB hcells hcell hOS O2 Y2
    go_upto_region 9 with (fail)
    refine wp_region_still_tail 10 (by kernel_rfl) (by kernel_rfl) ?_
    simp only [List.take_succ_cons,List.take_zero,List.drop_succ_cons,List.drop_zero]
    have hD:({ wi with drawn:=wi.drawn + 1 }:World)=wi.drew:=rfl
    rw [hD]
    clear hD
    generalize wi.drew=w3 at *
    repeat still_step
    refine wpStill_nil ?_
    go_upto_region 4 with (fail)
    have hcv:(Value.int IntKind.u8 ((s.toNat ^^^ x.toNat:Nat):Int))=cellOf (s ^^^ x):=by unfold cellOf; rw [UInt8.toNat_xor]
    rw [hcv]
    clear hcv hxs cs fs e0
    have O4:Hid (Ow (w3.setCell ⟨g,k,none⟩ (cellOf (s ^^^ x))) w0.heap.size (.slice (some ⟨g,0,none⟩) N c2) (Cha.xorTo key ctr nonce b (k + 1) ++ strm key ctr nonce (k + 1) N)):=by
     have h:=O3.out.set_at (k:=k) (by rw [EL.out]; exact hkN) (s ^^^ x)
     rw [HOS.out,<- HXS.out,HRR.out] at h
     exact h
    have Y4:=qh (Y3.out.setCell (p:=⟨g,k,none⟩) hgb (cellOf (s ^^^ x)))
    have HNE:Hid (N=min n (64 * ((k + 1 + 63) / 64))):=by unfold Hid; rw [show (k + 1 + 63) / 64=k / 64 + 1 by omega]; exact HN.out
    have HCE:Hid (Cha.ctrAt ctr (k / 64 + 1)=Cha.ctrAt ctr ((k + 1 + 63) / 64)):=by unfold Hid; rw [show (k + 1 + 63) / 64=k / 64 + 1 by omega]
    clear O3 Y3
    go_wp2_with fail
    go_roundw
    case rel=>exact ⟨k + 1,N,some ⟨g,0,none⟩,c2,by omega,HNE.out,by go_num,by rw [HCE.out],rfl,O4,Y4⟩
    case measure=>simp [intOf]; omega
  ·obtain rfl:k=n:=by omega
   have hlb:decide ((k:Int) < (k:Int))=false:=by simp
   obtain rfl:M=k:=by omega
   have hOW:=OX.out
   rw [strm_nil,List.append_nil] at hOW
   obtain ⟨A5,c5,heq,hr5,_⟩:=hOW.value
   rw [Cha.xorTo_length] at heq hr5
   obtain ⟨rfl,rfl⟩:A'=A5/\c'=c5:=by simpa using heq
   have HXE:Cha.xorTo key ctr nonce b M=Cha.xor key ctr nonce b:=by unfold Cha.xor; rw [HL.out]
   rw [HXE] at hr5
   rw [HXE] at hOW
   have HOO:=qh (Ow.more hOW W0.out.size)
   have HRR:=qh hr5
   have WR:=qh (W0.out.trans (BW.out.mono (by omega)))
   clear hOW heq hr5 HXE OX BW hM
   go_wp2_with fail
   go_ret
   exact ⟨_,_,rfl,HRR.out,WR.out,HOO.out⟩
theorem rxor_any (key nonce:List UInt8) (ctr:Int) {w:World} {A:Option Addr} {n c:Nat} {b:List UInt8} (hr:Rd w A n c b) (hn:n<=100000) (hk:key.length=32) (hnn:nonce.length=12) (h0:0<=ctr) (h1:ctr < 4294967296) :
  Calls Tryz.prog 83 #[.agg (key.map cellOf).toArray,.int .u32 ctr,.agg (nonce.map cellOf).toArray,.slice A n c] w fun e w'=>∃ A' c',e = .returned (.slice A' n c')/\Rd w' A' n c' (Cha.xor key ctr nonce b)/\Below w.heap.size w w' :=
 (rxor_own key nonce ctr hr hn hk hnn h0 h1).mono fun _ _ ⟨A',c',h1,h2,h3,_⟩=>⟨A',c',h1,h2,h3⟩
end Go.Proofs.YtnfbkimkdnbohaaGreatDoor
