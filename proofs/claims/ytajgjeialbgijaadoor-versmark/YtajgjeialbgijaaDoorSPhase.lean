import Derived.Orders
import Derived.Test.YtajgjeialbgijaaDoorSGsha1
import Derived.Test.YtajgjeialbgijaaDoorSGrow
namespace Go.Proofs.YtajgjeialbgijaaDoor
set_option linter.unusedVariables false
set_option linter.unusedSimpArgs false
set_option maxRecDepth 100000
def alone (md:Region.Mode) (ops:Array Oper):Nat->List Nat->Array Bool->Bool
 | 0,_,_=>true
 | n + 1,is,listed=>(Region.ready md ops listed == is) && is.all fun i=>alone md ops n (is.erase i) (listed.setIfInBounds i true)
theorem foldl_late {α β:Type} (f:β->α->β) (r:α):∀ (s:List α) (z:β),(∀ q ∈ s,∀ z,f (f z q) r=f (f z r) q)->s.foldl f (f z r)=f (s.foldl f z) r
 | [],_,_=>rfl
 | q :: s,z,h=>by
  rw [List.foldl_cons,List.foldl_cons,<- h q (by simp) z]
  exact foldl_late f r s (f z q) (fun p hp=>h p (by simp [hp]))
theorem foldl_mid {α β:Type} (f:β->α->β) (r:α) (s t:List α) (z:β) (h:∀ q ∈ s,∀ z,f (f z q) r=f (f z r) q):(s ++ t).foldl f (f z r)=(s ++ r :: t).foldl f z:=by
 rw [List.foldl_append,List.foldl_append,List.foldl_cons,foldl_late f r s z h]
theorem reads_first {P:Program} {md:Region.Mode} {ops:Array Oper} {Q:Exit->Act->World->Prop} {w:World} (hs:Region.noSelect ops=true) :
  ∀ (n:Nat) (R:List (Nat × Oper × Value)) (fuel:Nat) (listed:Array Bool) (a:Act),R.length=n ->
   (∀ r ∈ R,ops[r.1]?=some r.2.1/\Region.wanted r.2.1 (yielded ops a.tmps)=true/\(execOp a.eval r.2.1).run P w = .ok (.value r.2.2) w) ->
   (∀ r ∈ R,∀ q ∈ R,r.1 ≠ q.1->r.2.1.apart ops q.2.1=true)->(R.map (·.1)).Nodup->alone md ops n (R.map (·.1)) listed=true ->
   wpAny P md ops Q fuel ((R.map (·.1)).foldl (fun l i=>l.setIfInBounds i true) listed) (R.foldl (fun a r=>a.put r.2.1.dst r.2.2) a) w ->
   wpAny P md ops Q (fuel + n) listed a w
 | 0,R,fuel,listed,a,hn,_,_,_,_,h=>by
  obtain rfl:R=[]:=List.eq_nil_of_length_eq_zero hn
  exact h
 | n + 1,R,fuel,listed,a,hn,h1,h2,h3,h4,h=>by
  rw [alone,Bool.and_eq_true,List.all_eq_true] at h4
  have hr:Region.ready md ops listed=R.map (·.1):=by simpa using h4.1
  show wpAny P md ops Q ((fuel + n) + 1) listed a w
  refine ⟨fun h0=>?_,fun i hi=>?_⟩
  ·rw [hr] at h0
   have:R=[]:=by simpa using h0
   rw [this] at hn
   simp at hn
  ·rw [hr] at hi
   have hall:=h4.2 i hi
   obtain ⟨r,hrm,rfl⟩:=List.mem_map.1 hi
   obtain ⟨ho,hw,hrun⟩:=h1 r hrm
   obtain ⟨s,t,rfl⟩:=List.append_of_mem hrm
   have hns:∀ q ∈ s ++ t,q.1 ≠ r.1:=fun q hq e=>by
    rw [List.map_append,List.map_cons,List.nodup_append] at h3
    rcases List.mem_append.1 hq with hq | hq
    ·exact h3.2.2 _ (List.mem_map_of_mem hq) _ (by simp) e
    ·exact (List.nodup_cons.1 h3.2.1).1 (e ▸ List.mem_map_of_mem hq)
   have hsub:∀ q ∈ s ++ t,q ∈ s ++ r :: t:=fun q hq=>by
    rcases List.mem_append.1 hq with hq | hq
    ·exact List.mem_append_left _ hq
    ·exact List.mem_append_right _ (List.mem_cons_of_mem _ hq)
   have herase:((s ++ r :: t).map (·.1)).erase r.1=(s ++ t).map (·.1):=by
    rw [List.map_append,List.map_cons,List.erase_append_right _ (fun hm=>by
     obtain ⟨q,hq,e⟩:=List.mem_map.1 hm
     exact hns q (List.mem_append_left _ hq) e),List.erase_cons_head,List.map_append]
   rw [herase] at hall
   have hap:∀ q ∈ s ++ t,r.2.1.apart ops q.2.1=true:=fun q hq=>h2 r hrm q (hsub q hq) (Ne.symm (hns q hq))
   have hsel:∀ q ∈ s ++ t,∀ cs b,q.2.1.op ≠ .select cs b:=fun q hq cs b=>Region.noSelect_spec hs q.1 q.2.1 cs b (h1 q (hsub q hq)).1
   have key:wpAny P md ops Q (fuel + n) (listed.setIfInBounds r.1 true) (a.put r.2.1.dst r.2.2) w:=by
    refine reads_first hs n (s ++ t) fuel _ _ (by simp at hn ⊢; omega) (fun q hq=>?_) (fun p hp q hq=>h2 p (hsub p hp) q (hsub q hq)) ?_ hall ?_
    ·obtain ⟨q1,q2,q3⟩:=h1 q (hsub q hq)
     have hl:=(Oper.apart_spec (hap q hq)).1
     exact ⟨q1,by rw [wanted_put q.2.1 a _ _ hl]; exact q2,by rw [execOp_put q.2.1 (hsel q hq) a _ _ hl]; exact q3⟩
    ·rw [<- herase]
     exact h3.erase _
    ·have e1:((s ++ t).map (·.1)).foldl (fun l i=>l.setIfInBounds i true) (listed.setIfInBounds r.1 true)=((s ++ r :: t).map (·.1)).foldl (fun l i=>l.setIfInBounds i true) listed:=by
      rw [List.map_append,List.map_append,List.map_cons]
      refine foldl_mid (fun (l:Array Bool) i=>l.setIfInBounds i true) r.1 (s.map (·.1)) (t.map (·.1)) listed (fun i hi z=>?_)
      obtain ⟨q,hq,rfl⟩:=List.mem_map.1 hi
      exact Array.setIfInBounds_comm _ _ (hns q (List.mem_append_left _ hq))
     have e2:(s ++ t).foldl (fun a r=>a.put r.2.1.dst r.2.2) (a.put r.2.1.dst r.2.2)=(s ++ r :: t).foldl (fun a r=>a.put r.2.1.dst r.2.2) a :=
      foldl_mid (fun (a:Act) (r:Nat × Oper × Value)=>a.put r.2.1.dst r.2.2) r s t a (fun q hq z=>(Act.put_comm z r.2.2 q.2.2 (Oper.apart_spec (hap q (List.mem_append_left _ hq))).2.1).symm)
     rw [e1,e2]
     exact h
   unfold wpOp
   simp only [ho,hw,if_true]
   left
   unfold Oper.wp
   rw [hrun]
   exact key
def Reads (P:Program) (ops:Array Oper) (w:World) (a:Act) (o:Oper) (v:Value):Prop:=Region.wanted o (yielded ops a.tmps)=true/\(execOp a.eval o).run P w = .ok (.value v) w
theorem reads4 {P:Program} {md:Region.Mode} {ops:Array Oper} {Q:Exit->Act->World->Prop} {w:World} {fuel:Nat} {listed:Array Bool} {a:Act} {i1 i2 i3 i4:Nat} {o1 o2 o3 o4:Oper} {v1 v2 v3 v4:Value}
  (h1:ops[i1]?=some o1) (h2:ops[i2]?=some o2) (h3:ops[i3]?=some o3) (h4:ops[i4]?=some o4)
  (hs:Region.noSelect ops=true) (hap:([(o1,o2),(o1,o3),(o1,o4),(o2,o3),(o2,o4),(o3,o4)].all fun p=>p.1.apart ops p.2 && p.2.apart ops p.1)=true) (hal:alone md ops 4 [i1,i2,i3,i4] listed=true) (hnd:[i1,i2,i3,i4].Nodup)
  (y1:Reads P ops w a o1 v1) (y2:Reads P ops w a o2 v2) (y3:Reads P ops w a o3 v3) (y4:Reads P ops w a o4 v4)
  (h:wpAny P md ops Q fuel ((((listed.setIfInBounds i1 true).setIfInBounds i2 true).setIfInBounds i3 true).setIfInBounds i4 true) ((((a.put o1.dst v1).put o2.dst v2).put o3.dst v3).put o4.dst v4) w):wpAny P md ops Q (fuel + 4) listed a w:=by
 simp only [List.all_cons,List.all_nil,Bool.and_true,Bool.and_eq_true] at hap
 obtain ⟨⟨p12,p21⟩,⟨p13,p31⟩,⟨p14,p41⟩,⟨p23,p32⟩,⟨p24,p42⟩,p34,p43⟩:=hap
 refine reads_first hs 4 [(i1,o1,v1),(i2,o2,v2),(i3,o3,v3),(i4,o4,v4)] fuel listed a rfl ?_ ?_ (by simpa using hnd) hal h
 ·intro r hr
  simp only [List.mem_cons,List.not_mem_nil,or_false] at hr
  rcases hr with rfl | rfl | rfl | rfl
  ·exact ⟨h1,y1⟩
  ·exact ⟨h2,y2⟩
  ·exact ⟨h3,y3⟩
  ·exact ⟨h4,y4⟩
 ·intro r hr q hq hne
  simp only [List.mem_cons,List.not_mem_nil,or_false] at hr hq
  rcases hr with rfl | rfl | rfl | rfl <;> rcases hq with rfl | rfl | rfl | rfl <;> first | exact absurd rfl hne | assumption
end Go.Proofs.YtajgjeialbgijaaDoor
namespace Go.Proofs.YtajgjeialbgijaaDoor
set_option linter.unusedVariables false
set_option linter.unusedSimpArgs false
set_option maxRecDepth 100000
def within (md:Region.Mode) (ops:Array Oper) (deps:Nat->List Nat):Nat->List Nat->Array Bool->Bool
 | 0,_,_=>true
 | n + 1,is,listed=>(!(Region.ready md ops listed).isEmpty) && (Region.ready md ops listed).all fun i=>is.contains i && (!listed.getD i true) && ((deps i).all fun j=>listed.getD j false) && within md ops deps n (is.erase i) (listed.setIfInBounds i true)
theorem done_set (listed:Array Bool) (i:Nat) (h:listed.getD i true=false):(fun j=>(listed.setIfInBounds i true).getD j false)=fun j=>listed.getD j false || j == i:=by
 have hi:i < listed.size:=by
  rcases Nat.lt_or_ge i listed.size with hlt | hge
  ·exact hlt
  ·simp [Array.getD_eq_getD_getElem?,Array.getElem?_eq_none hge] at h
 funext j
 by_cases hj:j=i
 ·subst hj
  simp [Array.getD_eq_getD_getElem?,Array.getElem?_setIfInBounds,hi]
 ·simp [Array.getD_eq_getD_getElem?,Array.getElem?_setIfInBounds,Ne.symm hj,hj]
theorem phase {P:Program} {md:Region.Mode} {ops:Array Oper} {Q:Exit->Act->World->Prop} (deps:Nat->List Nat) (I:(Nat->Bool)->Act->World->Prop) (all:List Nat)
  (step:∀ i ∈ all,∀ d a w,I d a w->d i=false->(∀ j ∈ deps i,d j=true)->wpOp P ops Q i (I fun j=>d j || j == i) a w) (fuel:Nat) :
  ∀ (n:Nat) (is:List Nat) (listed:Array Bool) (a:Act) (w:World),is.length=n->is.Nodup->(∀ i ∈ is,i ∈ all)->within md ops deps n is listed=true->I (fun j=>listed.getD j false) a w ->
   (∀ a w,I (fun j=>(is.foldl (fun l i=>l.setIfInBounds i true) listed).getD j false) a w->wpAny P md ops Q fuel (is.foldl (fun l i=>l.setIfInBounds i true) listed) a w)->wpAny P md ops Q (fuel + n) listed a w
 | 0,is,listed,a,w,hn,_,_,_,hI,fin=>by
  obtain rfl:is=[]:=List.eq_nil_of_length_eq_zero hn
  exact fin a w hI
 | n + 1,is,listed,a,w,hn,hnd,hsub,hw,hI,fin=>by
  rw [within,Bool.and_eq_true,List.all_eq_true] at hw
  show wpAny P md ops Q ((fuel + n) + 1) listed a w
  refine ⟨fun h0=>?_,fun i hi=>?_⟩
  ·rw [h0] at hw; simp at hw
  ·have hx:=hw.2 i hi
   simp only [Bool.and_eq_true] at hx
   obtain ⟨⟨⟨h1,h2⟩,h3⟩,h4⟩:=hx
   have him:i ∈ is:=by simpa using h1
   have hnot:listed.getD i true=false:=by simpa using h2
   have hdf:listed.getD i false=false:=by
    rw [Array.getD_eq_getD_getElem?] at hnot ⊢
    cases hq:listed[i]? with
    | none=>rfl
    | some b=>rw [hq] at hnot; simpa using hnot
   have hdeps:∀ j ∈ deps i,listed.getD j false=true:=by simpa using h3
   refine wpOp_mono (fun a' w' hI'=>?_) (step i (hsub i him) _ a w hI hdf hdeps)
   rw [<- done_set listed i hnot] at hI'
   have hfold:(is.erase i).foldl (fun (l:Array Bool) i=>l.setIfInBounds i true) (listed.setIfInBounds i true)=is.foldl (fun l i=>l.setIfInBounds i true) listed:=by
    obtain ⟨s,t,rfl⟩:=List.append_of_mem him
    have hns:i ∉ s:=fun hs=>by
     rw [List.nodup_append] at hnd
     exact hnd.2.2 _ hs _ (by simp) rfl
    rw [List.erase_append_right _ hns,List.erase_cons_head]
    exact foldl_mid (fun (l:Array Bool) i=>l.setIfInBounds i true) i s t listed (fun q hq z=>Array.setIfInBounds_comm _ _ (fun e=>hns (e ▸ hq)))
   refine phase deps I all step fuel n (is.erase i) _ a' w' (by rw [List.length_erase_of_mem him]; omega) (hnd.erase _) (fun j hj=>hsub j (List.mem_of_mem_erase hj)) h4 hI' ?_
   rw [hfold]
   exact fin
theorem step_loadL {P:Program} {ops:Array Oper} {op:Oper} {a:Act} {w:World} {K:Act->World->Prop} {Q:Exit->Act->World->Prop} {E:Prop} (hgd:op.guard=none) (ty:TypeId) (x:Operand) (ho:op.op = .load ty x)
  (b off:Nat) (hx:a.eval x = .pointer (some ⟨b,off,none⟩)) (l:List Value) (d:TypeDesc) (hu:P.underlying ty=some d) (hd:(match d with | .struct _ | .array _ _=>true | _=>false)=true)
  (hi:(P.info? ty).map (·.size)=some l.length) (h:∀ j v,l[j]?=some v->w.cell? ⟨b,off + j,none⟩=some v)
  (hk:K (a.put op.dst (.agg l.toArray)) w):if Region.wanted op (yielded ops a.tmps)=true then op.wp P a w K Q else E:=by
 rw [if_pos (by simp [Region.wanted,hgd])]
 unfold Oper.wp execOp
 simp only [ho,hx,Instr.loadAt,Instr.sureAddr,Sem.run_bind,Sem.run_pure,Result.andThen_ok,run_loadVar_list w ty b off l d hu hd hi h]
 exact hk
theorem step_storeAll {P:Program} {ops:Array Oper} {op:Oper} {a:Act} {w:World} {K:Act->World->Prop} {Q:Exit->Act->World->Prop} {E:Prop} (hgd:op.guard=none) (ty:TypeId) (x y:Operand) (ho:op.op = .store ty x y)
  (g:Nat) (hx:a.eval x = .pointer (some ⟨g,0,none⟩)) (vs:List Value) (hy:a.eval y = .agg vs.toArray) (t:TypeId) (cs:List Value) (hb:Blk w g t cs) (hi:(P.info? ty).map (·.size)=some vs.length)
  (hfit:cs.length=vs.length) (h1:∀ v ∈ vs,v.oneCell'=true) (h:K (a.put op.dst undef) (w.setRow g vs.toArray)):if Region.wanted op (yielded ops a.tmps)=true then op.wp P a w K Q else E:=by
 rw [if_pos (by simp [Region.wanted,hgd])]
 have hs:=run_storeVar_part (P:=P) w ty g 0 t cs vs hb hi (by omega) h1
 rw [splice_all hfit] at hs
 unfold Oper.wp execOp
 simp only [ho,hx,hy,Instr.storeAt,Instr.sureAddr,Sem.run_bind,Sem.run_pure,Result.andThen_ok,hs]
 exact h
theorem step_loadW {P:Program} {ops:Array Oper} {op:Oper} {a:Act} {w:World} {K:Act->World->Prop} {Q:Exit->Act->World->Prop} {E:Prop} (hgd:Region.wanted op (yielded ops a.tmps)=true) (ty:TypeId) (x:Operand) (ho:op.op = .load ty x)
  (b off:Nat) (hx:a.eval x = .pointer (some ⟨b,off,none⟩)) (l:List Value) (d:TypeDesc) (hu:P.underlying ty=some d) (hd:(match d with | .struct _ | .array _ _=>true | _=>false)=true)
  (hi:(P.info? ty).map (·.size)=some l.length) (h:∀ j v,l[j]?=some v->w.cell? ⟨b,off + j,none⟩=some v)
  (hk:K (a.put op.dst (.agg l.toArray)) w):if Region.wanted op (yielded ops a.tmps)=true then op.wp P a w K Q else E:=by
 rw [if_pos hgd]
 unfold Oper.wp execOp
 simp only [ho,hx,Instr.loadAt,Instr.sureAddr,Sem.run_bind,Sem.run_pure,Result.andThen_ok,run_loadVar_list w ty b off l d hu hd hi h]
 exact hk
theorem step_build {P:Program} {ops:Array Oper} {op:Oper} {a:Act} {w:World} {K:Act->World->Prop} {Q:Exit->Act->World->Prop} {E:Prop} (hgd:Region.wanted op (yielded ops a.tmps)=true) (t:TypeId) (parts:Array (Nat × Operand)) (ho:op.op = .build t parts) (vs:List Value)
  (hb:P.built t (parts.map fun (i,x)=>(i,a.eval x)).toList=some vs.toArray) (hk:K (a.put op.dst (.agg vs.toArray)) w):if Region.wanted op (yielded ops a.tmps)=true then op.wp P a w K Q else E:=by
 rw [if_pos hgd]
 have hr:=run_build (P:=P) w t (parts.map fun (i,x)=>(i,a.eval x)) vs.toArray hb
 unfold Oper.wp execOp
 simp only [ho,hr,Sem.run_bind,Sem.run_pure,Result.andThen_ok]
 exact hk
theorem list32 {l:List Value} (h:l.length=32):∃ a0 a1 a2 a3 a4 a5 a6 a7 a8 a9 a10 a11 a12 a13 a14 a15 a16 a17 a18 a19 a20 a21 a22 a23 a24 a25 a26 a27 a28 a29 a30 a31,l=[a0,a1,a2,a3,a4,a5,a6,a7,a8,a9,a10,a11,a12,a13,a14,a15,a16,a17,a18,a19,a20,a21,a22,a23,a24,a25,a26,a27,a28,a29,a30,a31]:=by
 have cut:∀ {n:Nat} {l:List Value},l.length=n + 1->∃ a r,l=a :: r/\r.length=n:=fun {n l} h=>by
  cases l with
  | nil=>simp at h
  | cons a r=>exact ⟨a,r,rfl,by simpa using h⟩
 obtain ⟨a0,r1,rfl,h1⟩:=cut h
 obtain ⟨a1,r2,rfl,h2⟩:=cut h1
 obtain ⟨a2,r3,rfl,h3⟩:=cut h2
 obtain ⟨a3,r4,rfl,h4⟩:=cut h3
 obtain ⟨a4,r5,rfl,h5⟩:=cut h4
 obtain ⟨a5,r6,rfl,h6⟩:=cut h5
 obtain ⟨a6,r7,rfl,h7⟩:=cut h6
 obtain ⟨a7,r8,rfl,h8⟩:=cut h7
 obtain ⟨a8,r9,rfl,h9⟩:=cut h8
 obtain ⟨a9,r10,rfl,h10⟩:=cut h9
 obtain ⟨a10,r11,rfl,h11⟩:=cut h10
 obtain ⟨a11,r12,rfl,h12⟩:=cut h11
 obtain ⟨a12,r13,rfl,h13⟩:=cut h12
 obtain ⟨a13,r14,rfl,h14⟩:=cut h13
 obtain ⟨a14,r15,rfl,h15⟩:=cut h14
 obtain ⟨a15,r16,rfl,h16⟩:=cut h15
 obtain ⟨a16,r17,rfl,h17⟩:=cut h16
 obtain ⟨a17,r18,rfl,h18⟩:=cut h17
 obtain ⟨a18,r19,rfl,h19⟩:=cut h18
 obtain ⟨a19,r20,rfl,h20⟩:=cut h19
 obtain ⟨a20,r21,rfl,h21⟩:=cut h20
 obtain ⟨a21,r22,rfl,h22⟩:=cut h21
 obtain ⟨a22,r23,rfl,h23⟩:=cut h22
 obtain ⟨a23,r24,rfl,h24⟩:=cut h23
 obtain ⟨a24,r25,rfl,h25⟩:=cut h24
 obtain ⟨a25,r26,rfl,h26⟩:=cut h25
 obtain ⟨a26,r27,rfl,h27⟩:=cut h26
 obtain ⟨a27,r28,rfl,h28⟩:=cut h27
 obtain ⟨a28,r29,rfl,h29⟩:=cut h28
 obtain ⟨a29,r30,rfl,h30⟩:=cut h29
 obtain ⟨a30,r31,rfl,h31⟩:=cut h30
 obtain ⟨a31,r32,rfl,h32⟩:=cut h31
 obtain rfl:r32=[]:=List.eq_nil_of_length_eq_zero h32
 exact ⟨_,_,_,_,_,_,_,_,_,_,_,_,_,_,_,_,_,_,_,_,_,_,_,_,_,_,_,_,_,_,_,_,rfl⟩
theorem step_bslice {P:Program} {ops:Array Oper} {op:Oper} {a:Act} {w w':World} {v:Value} {K:Act->World->Prop} {Q:Exit->Act->World->Prop} {E:Prop} (hgd:Region.wanted op (yielded ops a.tmps)=true) (t:TypeId) (n:Nat) (parts:Array (Nat × Operand)) (ho:op.op = .buildSlice t n parts)
  (hr:(Instr.buildSlice t n (parts.map fun (i,x)=>(i,a.eval x))).run P w = .ok v w') (hk:K (a.put op.dst v) w'):if Region.wanted op (yielded ops a.tmps)=true then op.wp P a w K Q else E:=by
 rw [if_pos hgd]
 unfold Oper.wp execOp
 simp only [ho,hr,Sem.run_bind,Sem.run_pure,Result.andThen_ok]
 exact hk
end Go.Proofs.YtajgjeialbgijaaDoor
namespace Go.Proofs.YtajgjeialbgijaaDoor
set_option linter.unusedVariables false
set_option linter.unusedSimpArgs false
set_option maxRecDepth 100000
open Go.RowKit
structure Fz (w w':World):Prop where
 os:w'.os=w.os
 tape:w'.tape=w.tape
 output:w'.output=w.output
 size:w'.heap.size=w.heap.size
 block:∀ i:Nat,w'.heap[i]?=w.heap[i]? ∨ ∃ C t fr fr',w.heap[i]?=some (Obj.cells C t fr)/\w'.heap[i]?=some (Obj.cells C t fr')
theorem Fz.cell {w w':World} (h:Fz w w') (a:Addr):w'.cell? a=w.cell? a:=by
 rcases h.block a.block with e | ⟨C,t,fr,fr',e1,e2⟩
 ·exact World.cell?_of_block e
 ·simp only [World.cell?,e1,e2]
theorem Rd.fz {w w':World} {A:Option Addr} {n c:Nat} {l:List UInt8} (h:Rd w A n c l) (hf:Fz w w'):Rd w' A n c l :=
 ⟨h.len,h.cap,h.max,fun h0=>by
  obtain ⟨b,off,e,hlt,hc⟩:=h.at_ h0
  exact ⟨b,off,e,by rw [hf.size]; exact hlt,fun j hj=>(hf.cell _).trans (hc j hj)⟩⟩
def Lt (w:World) (b:Nat) (x:Value) (l:List UInt8):Prop:=∃ g fr,x = .slice (some ⟨g,0,none⟩) l.length l.length/\b<=g/\w.heap[g]?=some (.cells (l.map cellOf).toArray 5 fr)
theorem heap_lt {w:World} {g:Nat} {o:Obj} (h:w.heap[g]?=some o):g < w.heap.size:=(Array.getElem?_eq_some_iff.1 h).1
theorem Lt.below {w w':World} {b:Nat} {x:Value} {l:List UInt8} (h:Lt w b x l) (hb:Below w.heap.size w w'):Lt w' b x l:=by
 obtain ⟨g,fr,e,hg,hh⟩:=h
 exact ⟨g,fr,e,hg,(hb.block g (heap_lt hh)).trans hh⟩
theorem Lt.fz {w w':World} {b:Nat} {x:Value} {l:List UInt8} (h:Lt w b x l) (hf:Fz w w'):Lt w' b x l:=by
 obtain ⟨g,fr,e,hg,hh⟩:=h
 rcases hf.block g with e1 | ⟨C,t,fr1,fr2,e1,e2⟩
 ·exact ⟨g,fr,e,hg,e1.trans hh⟩
 ·rw [hh] at e1
  injection e1 with e1
  injection e1 with e1 e3 e4
  subst e1
  subst e3
  exact ⟨g,fr2,e,hg,e2⟩
theorem Lt.rd {w:World} {b:Nat} {x:Value} {l:List UInt8} (h:Lt w b x l) {k:Nat} (hk:l.length=k) (hm:k<=1000000):∃ g,x = .slice (some ⟨g,0,none⟩) k k/\b<=g/\g < w.heap.size/\Rd w (some ⟨g,0,none⟩) k k l:=by
 subst hk
 obtain ⟨g,fr,e,hg,hh⟩:=h
 refine ⟨g,e,hg,heap_lt hh,rfl,Nat.le_refl _,by unfold maxLen; omega,fun _=>⟨g,0,rfl,heap_lt hh,fun j hj=>?_⟩⟩
 rw [Nat.zero_add,cell_of_row _ _ j _ 5 fr hh]
 simp [List.getD_eq_getElem?_getD,List.getElem?_eq_getElem hj]
def Nw (w:World) (b:Nat) (x:Value) (l:List UInt8):Prop:=∃ A c,x = .slice A l.length c/\Rd w A l.length c l/\∀ y,A=some y->0 < l.length->b<=y.block
theorem Nw.below {w w':World} {b:Nat} {x:Value} {l:List UInt8} (h:Nw w b x l) (hb:Below w.heap.size w w'):Nw w' b x l:=by
 obtain ⟨A,c,e,hr,hf⟩:=h
 exact ⟨A,c,e,hr.below hb,hf⟩
theorem Nw.fz {w w':World} {b:Nat} {x:Value} {l:List UInt8} (h:Nw w b x l) (hf:Fz w w'):Nw w' b x l:=by
 obtain ⟨A,c,e,hr,hn⟩:=h
 exact ⟨A,c,e,hr.fz hf,hn⟩
theorem Nw.of {w:World} {b b' n c:Nat} {A:Option Addr} {l:List UInt8} (hr:Rd w A n c l) (hf:∀ y,A=some y->0 < n->b'<=y.block) (hb:b<=b'):Nw w b (.slice A n c) l:=by
 obtain rfl:=hr.len
 exact ⟨A,c,rfl,hr,fun y hy h0=>Nat.le_trans hb (hf y hy h0)⟩
theorem Nw.rd {w:World} {b:Nat} {x:Value} {l:List UInt8} (h:Nw w b x l) {k:Nat} (hk:l.length=k):∃ A c,x = .slice A k c/\Rd w A k c l/\∀ y,A=some y->0 < k->b<=y.block:=by
 subst hk
 exact h
theorem Lt.new (w:World) (b:Nat) (l:List UInt8) (a:Array Value) (n:Nat) (ha:a=(l.map cellOf).toArray) (hn:n=l.length) (hb:b<=w.heap.size):Lt (w.alloc (.cells a 5)) b (.slice (some ⟨w.heap.size,0,none⟩) n n) l:=by
 subst ha
 subst hn
 exact ⟨w.heap.size,_,rfl,hb,heap_alloc_new w _⟩
theorem conv_mark {w:World} {b:Nat} {x:Value} {l:List UInt8} (h:Lt w b x l):∃ w',(convert 41 41 x).run Tryd.prog w = .ok x w'/\Fz w w'/\∀ w0,Below b w0 w->Below b w0 w':=by
 obtain ⟨g,fr,rfl,hg,hh⟩:=h
 have hlt:=heap_lt hh
 obtain ⟨lo,hi⟩:=fr
 have hsh:w.shape? g=some (5,(l.map cellOf).toArray.size):=by unfold World.shape?; rw [hh]
 refine ⟨w.freeze ⟨g,(l.map cellOf).toArray.size,none⟩ 1,?_,?_,?_⟩
 ·simp [convert,run_underlying Tryd.underlying41,run_underlying Tryd.underlying5,markStringish,hsh]
 ·have hz:(1:Nat) ≠ 0:=by decide
  refine ⟨by simp [World.freeze],by simp [World.freeze],by simp [World.freeze],by simp [World.freeze],fun i=>?_⟩
  by_cases hi':g=i
  ·subst hi'
   have e:(w.freeze ⟨g,(l.map cellOf).toArray.size,none⟩ 1).heap[g]?=some (Obj.cells (l.map cellOf).toArray 5 (if lo == hi then ((l.map cellOf).toArray.size,(l.map cellOf).toArray.size + 1) else (min lo (l.map cellOf).toArray.size,max hi ((l.map cellOf).toArray.size + 1)))):=by
    simp only [World.freeze,hz,if_false,Array.getElem?_modify,if_true,hh,Option.map_some]
   exact .inr ⟨_,_,_,_,hh,e⟩
  ·left
   simp [World.freeze,Array.getElem?_modify,hi']
 ·intro w0 hb
  refine ⟨?_,?_,?_,?_,fun i hi'=>?_⟩
  ·simpa [World.freeze] using hb.os
  ·simpa [World.freeze] using hb.tape
  ·simpa [World.freeze] using hb.output
  ·simpa [World.freeze] using hb.size
  ·rw [<- hb.block i hi']
   have hne:¬ g=i:=by omega
   simp [World.freeze,Array.getElem?_modify,hne]
end Go.Proofs.YtajgjeialbgijaaDoor
namespace Go.Proofs.YtajgjeialbgijaaDoor
set_option linter.unusedVariables false
set_option linter.unusedSimpArgs false
set_option maxRecDepth 100000
def preds (md:Region.Mode) (ops:Array Oper) (i:Nat):List Nat:=((ops[i]?).map fun o=>(o.after.toList.filter fun e=>Region.binds md e).map (·.on)).getD []
def maskOf (pr:List Nat) (t:List Nat):Nat:=pr.foldl (fun m p=>m ||| ((1 <<< p) ||| t.getD p 0)) 0
def tabOf (pr:Nat->List Nat) (n:Nat):List Nat:=(List.range n).foldl (fun t j=>t ++ [maskOf (pr j) t]) []
theorem bit_one (p x:Nat):(1 <<< p).testBit x=decide (x=p):=by
 rw [Nat.one_shiftLeft,Nat.testBit_two_pow]
 simp [eq_comm]
theorem mask_bit (t:List Nat) (x:Nat):∀ (pr:List Nat) (m:Nat),(pr.foldl (fun m p=>m ||| ((1 <<< p) ||| t.getD p 0)) m).testBit x=true->m.testBit x=true ∨ ∃ p ∈ pr,x=p ∨ (t.getD p 0).testBit x=true
 | [],m,h=>.inl h
 | p :: pr,m,h=>by
  rw [List.foldl_cons] at h
  rcases mask_bit t x pr _ h with h1 | ⟨q,hq,h1⟩
  ·rw [Nat.testBit_or,Nat.testBit_or,bit_one,Bool.or_eq_true,Bool.or_eq_true,decide_eq_true_iff] at h1
   rcases h1 with h1 | h1 | h1
   ·exact .inl h1
   ·exact .inr ⟨p,by simp,.inl h1⟩
   ·exact .inr ⟨p,by simp,.inr h1⟩
  ·exact .inr ⟨q,by simp [hq],h1⟩
theorem tab_succ (pr:Nat->List Nat) (n:Nat):tabOf pr (n + 1)=tabOf pr n ++ [maskOf (pr n) (tabOf pr n)]:=by
 unfold tabOf
 rw [List.range_succ,List.foldl_append]
 rfl
theorem tab_length (pr:Nat->List Nat):∀ n,(tabOf pr n).length=n
 | 0=>rfl
 | n + 1=>by rw [tab_succ,List.length_append,tab_length pr n]; rfl
theorem tab_at (pr:Nat->List Nat):∀ (n j:Nat),j < n->(tabOf pr n).getD j 0=maskOf (pr j) (tabOf pr j)
 | 0,j,h=>by omega
 | n + 1,j,h=>by
  rw [tab_succ,List.getD_eq_getElem?_getD]
  rcases Nat.lt_or_ge j n with h1 | h1
  ·rw [List.getElem?_append_left (by rw [tab_length]; exact h1),<- List.getD_eq_getElem?_getD]
   exact tab_at pr n j h1
  ·obtain rfl:j=n:=by omega
   rw [List.getElem?_append_right (by rw [tab_length]; exact Nat.le_refl _),tab_length]
   simp
theorem tab_listed (pr:Nat->List Nat) (n:Nat) (hpr:∀ j,j < n->∀ p ∈ pr j,p < j) (L:Nat->Bool) (cl:∀ j,j < n->L j=true->∀ p ∈ pr j,L p=true) :
  ∀ (m j:Nat),j<=m->j < n->(∀ p ∈ pr j,L p=true)->∀ x,((tabOf pr n).getD j 0).testBit x=true->L x=true
 | m,j,hm,hj,hp,x,hx=>by
  rw [tab_at pr n j hj] at hx
  rcases mask_bit _ x _ _ hx with h1 | ⟨p,hpm,h1⟩
  ·simp at h1
  ·have hpj:=hpr j hj p hpm
   rcases h1 with rfl | h1
   ·exact hp _ hpm
   ·rw [tab_at pr j p hpj,<- tab_at pr n p (by omega)] at h1
    match m,hm with
    | 0,hm=>omega
    | m + 1,hm=>exact tab_listed pr n hpr L cl m p (by omega) (by omega) (cl p (by omega) (hp p hpm)) x h1
structure Fits (md:Region.Mode) (ops:Array Oper) (deps:Nat->List Nat) (is:List Nat) (listed:Array Bool):Prop where
 size:listed.size=ops.size
 tp:∀ j,j < ops.size->∀ p ∈ preds md ops j,p < j
 lt:∀ i ∈ is,i < ops.size/\listed.getD i false=false
 dp:∀ i ∈ is,∀ j ∈ deps i,j ∈ preds md ops i
 cl:∀ j,j < ops.size->listed.getD j false=true->∀ p ∈ preds md ops j,listed.getD p false=true
 out:∀ j,j < ops.size->listed.getD j false=false->j ∉ is->∀ i ∈ is,((tabOf (preds md ops) ops.size).getD j 0).testBit i=true
def fits (md:Region.Mode) (ops:Array Oper) (deps:Nat->List Nat) (is:List Nat) (listed:Array Bool):Bool :=
 (listed.size == ops.size) && ((List.range ops.size).all fun j=>(preds md ops j).all fun p=>decide (p < j)) && (is.all fun i=>decide (i < ops.size) && !listed.getD i false && ((deps i).all fun j=>(preds md ops i).contains j)) &&
 ((List.range ops.size).all fun j=>!listed.getD j false || ((preds md ops j).all fun p=>listed.getD p false)) &&
 (match tabOf (preds md ops) ops.size with
  | t=>(List.range ops.size).all fun j=>listed.getD j false || is.contains j || (is.all fun i=>(t.getD j 0).testBit i))
theorem Fits.of {md:Region.Mode} {ops:Array Oper} {deps:Nat->List Nat} {is:List Nat} {listed:Array Bool} (h:fits md ops deps is listed=true):Fits md ops deps is listed:=by
 simp only [fits,Bool.and_eq_true,beq_iff_eq,List.all_eq_true,List.mem_range,decide_eq_true_iff,Bool.or_eq_true,Bool.not_eq_true',List.contains_iff_mem] at h
 obtain ⟨⟨⟨⟨h1,h2⟩,h3⟩,h4⟩,h5⟩:=h
 refine ⟨h1,h2,fun i hi=>⟨(h3 i hi).1.1,(h3 i hi).1.2⟩,fun i hi=>(h3 i hi).2,fun j hj hl p hp=>?_,fun j hj hl hn i hi=>?_⟩
 ·rcases h4 j hj with h | h
  ·rw [hl] at h; cases h
  ·exact h p hp
 ·rcases h5 j hj with (h | h) | h
  ·rw [hl] at h; cases h
  ·exact absurd h hn
  ·exact h i hi
theorem ready_spec {md:Region.Mode} {ops:Array Oper} {listed:Array Bool} (hs:listed.size=ops.size) {i:Nat}:i ∈ Region.ready md ops listed ↔ i < ops.size/\listed.getD i false=false/\∀ p ∈ preds md ops i,listed.getD p false=true:=by
 unfold Region.ready
 rw [List.mem_filter,List.mem_range]
 refine and_congr_right fun hi=>?_
 have ho:ops[i]?=some ops[i]:=Array.getElem?_eq_getElem hi
 have hl:listed.getD i true=listed.getD i false:=by
  rw [Array.getD_eq_getD_getElem?,Array.getD_eq_getD_getElem?,Array.getElem?_eq_getElem (show i < listed.size by omega)]
  rfl
 rw [hl,ho,Bool.and_eq_true,Bool.not_eq_true']
 refine and_congr_right fun _=>?_
 simp only [Option.map_some,Option.getD_some,preds,ho,Array.all_eq_true_iff_forall_mem,List.mem_map,List.mem_filter,Array.mem_toList_iff]
 constructor
 ·rintro h p ⟨e,⟨he,hb⟩,rfl⟩
  have:=h e he
  rw [hb] at this
  simpa using this
 ·intro h e he
  cases hb:Region.binds md e with
  | false=>rfl
  | true=>simpa using h e.on ⟨e,⟨he,hb⟩,rfl⟩
theorem Fits.ready {md:Region.Mode} {ops:Array Oper} {deps:Nat->List Nat} {is:List Nat} {listed:Array Bool} (h:Fits md ops deps is listed) {i j:Nat} (hj:j ∈ is) (hi:i ∈ Region.ready md ops listed):i ∈ is:=by
 obtain ⟨h1,h2,h3⟩:=(ready_spec h.size).1 hi
 refine Classical.byContradiction fun hn=>?_
 have:=tab_listed (preds md ops) ops.size h.tp (fun j=>listed.getD j false) h.cl i i (Nat.le_refl _) h1 h3 j (h.out i h1 h2 hn j hj)
 have h4:=(h.lt j hj).2
 rw [h4] at this
 cases this
theorem Fits.some_ready {md:Region.Mode} {ops:Array Oper} {deps:Nat->List Nat} {is:List Nat} {listed:Array Bool} (h:Fits md ops deps is listed) {j:Nat} (hj:j ∈ is):Region.ready md ops listed ≠ []:=by
 have key:∀ m,(∃ j,j<=m/\j < ops.size/\listed.getD j false=false)->∃ i,i ∈ Region.ready md ops listed:=by
  intro m
  induction m with
  | zero =>
   rintro ⟨j,h0,h1,h2⟩
   obtain rfl:j=0:=by omega
   exact ⟨0,(ready_spec h.size).2 ⟨h1,h2,fun p hp=>by have:=h.tp 0 h1 p hp; omega⟩⟩
  | succ m ih =>
   rintro ⟨j,h0,h1,h2⟩
   by_cases hb:∃ i,i<=m/\i < ops.size/\listed.getD i false=false
   ·exact ih hb
   ·refine ⟨j,(ready_spec h.size).2 ⟨h1,h2,fun p hp=>?_⟩⟩
    have hp1:=h.tp j h1 p hp
    cases hl:listed.getD p false with
    | true=>rfl
    | false=>exact absurd ⟨p,by omega,by omega,hl⟩ hb
 obtain ⟨i,hi⟩:=key j ⟨j,Nat.le_refl _,h.lt j hj⟩
 intro h0
 rw [h0] at hi
 cases hi
theorem getD_set (listed:Array Bool) (i:Nat) (hi:i < listed.size) (j:Nat):(listed.setIfInBounds i true).getD j false=(listed.getD j false || j == i):=by
 by_cases hj:j=i
 ·subst hj
  simp [Array.getD_eq_getD_getElem?,Array.getElem?_setIfInBounds,hi]
 ·simp [Array.getD_eq_getD_getElem?,Array.getElem?_setIfInBounds,Ne.symm hj,hj]
theorem Fits.step {md:Region.Mode} {ops:Array Oper} {deps:Nat->List Nat} {is:List Nat} {listed:Array Bool} (h:Fits md ops deps is listed) (hnd:is.Nodup) {i:Nat} (him:i ∈ is) (hi:i ∈ Region.ready md ops listed):Fits md ops deps (is.erase i) (listed.setIfInBounds i true):=by
 obtain ⟨h1,h2,h3⟩:=(ready_spec h.size).1 hi
 have hil:i < listed.size:=by rw [h.size]; exact h1
 refine ⟨by simp [h.size],h.tp,fun j hj=>?_,fun j hj=>h.dp j (List.mem_of_mem_erase hj),fun j hj hl p hp=>?_,fun j hj hl hn k hk=>?_⟩
 ·have hne:j ≠ i:=fun e=>by
   subst e
   exact (List.Nodup.not_mem_erase hnd) hj
  have:=h.lt j (List.mem_of_mem_erase hj)
  refine ⟨this.1,?_⟩
  rw [getD_set _ _ hil,this.2]
  simpa using hne
 ·rw [getD_set _ _ hil,Bool.or_eq_true,beq_iff_eq] at hl
  rw [getD_set _ _ hil]
  rcases hl with hl | rfl
  ·rw [h.cl j hj hl p hp]; rfl
  ·rw [h3 p hp]; rfl
 ·rw [getD_set _ _ hil,Bool.or_eq_false_iff,beq_eq_false_iff_ne] at hl
  refine h.out j hj hl.1 (fun hm=>hn ?_) k (List.mem_of_mem_erase hk)
  exact (List.mem_erase_of_ne hl.2).2 hm
theorem phaseL {P:Program} {md:Region.Mode} {ops:Array Oper} {Q:Exit->Act->World->Prop} (deps:Nat->List Nat) (I:(Nat->Bool)->Act->World->Prop) (all:List Nat)
  (step:∀ i ∈ all,∀ d a w,I d a w->d i=false->(∀ j ∈ deps i,d j=true)->wpOp P ops Q i (I fun j=>d j || j == i) a w) (fuel:Nat) :
  ∀ (n:Nat) (is:List Nat) (listed:Array Bool) (a:Act) (w:World),is.length=n->is.Nodup->(∀ i ∈ is,i ∈ all)->Fits md ops deps is listed->I (fun j=>listed.getD j false) a w ->
   (∀ a w,I (fun j=>(is.foldl (fun l i=>l.setIfInBounds i true) listed).getD j false) a w->wpAny P md ops Q fuel (is.foldl (fun l i=>l.setIfInBounds i true) listed) a w)->wpAny P md ops Q (fuel + n) listed a w
 | 0,is,listed,a,w,hn,_,_,_,hI,fin=>by
  obtain rfl:is=[]:=List.eq_nil_of_length_eq_zero hn
  exact fin a w hI
 | n + 1,is,listed,a,w,hn,hnd,hsub,hw,hI,fin=>by
  show wpAny P md ops Q ((fuel + n) + 1) listed a w
  obtain ⟨j0,hj0⟩:∃ j,j ∈ is:=by
   cases is with
   | nil=>simp at hn
   | cons j l=>exact ⟨j,by simp⟩
  refine ⟨fun h0=>absurd h0 (hw.some_ready hj0),fun i hi=>?_⟩
  have him:=hw.ready hj0 hi
  obtain ⟨h1,h2,h3⟩:=(ready_spec hw.size).1 hi
  have hil:i < listed.size:=by rw [hw.size]; exact h1
  refine wpOp_mono (fun a' w' hI'=>?_) (step i (hsub i him) _ a w hI h2 fun j hj=>h3 j (hw.dp i him j hj))
  have hfun:(fun j=>listed.getD j false || j == i)=fun j=>(listed.setIfInBounds i true).getD j false:=by
   funext j
   rw [getD_set _ _ hil]
  rw [hfun] at hI'
  have hfold:(is.erase i).foldl (fun (l:Array Bool) i=>l.setIfInBounds i true) (listed.setIfInBounds i true)=is.foldl (fun l i=>l.setIfInBounds i true) listed:=by
   obtain ⟨s,t,rfl⟩:=List.append_of_mem him
   have hns:i ∉ s:=fun hs=>by
    rw [List.nodup_append] at hnd
    exact hnd.2.2 _ hs _ (by simp) rfl
   rw [List.erase_append_right _ hns,List.erase_cons_head]
   exact foldl_mid (fun (l:Array Bool) i=>l.setIfInBounds i true) i s t listed (fun q hq z=>Array.setIfInBounds_comm _ _ (fun e=>hns (e ▸ hq)))
  refine phaseL deps I all step fuel n (is.erase i) _ a' w' (by rw [List.length_erase_of_mem him]; omega) (hnd.erase _) (fun j hj=>hsub j (List.mem_of_mem_erase hj)) (hw.step hnd him hi) hI' ?_
  rw [hfold]
  exact fin
end Go.Proofs.YtajgjeialbgijaaDoor
