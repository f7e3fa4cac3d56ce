import Derived.DeepKeys
import Derived.Lib.LaidTab
import Derived.LaidMore
import Derived.ProofKit
import Derived.OpenShut
import Derived.ChangeOld
import Derived.Below
import Derived.Laws.BytesArg
import Derived.StillTailTactics
import Derived.Deep.Matrix
import Derived.Deep.CutRange
import Derived.Test.YtajgjeialbgijaaDoorSGsha3
import Derived.Test.YtajgjeialbgijaaDoorRows
namespace Go.Proofs.YtajgjeialbgijaaDoor
set_option linter.unusedVariables false
set_option linter.unusedSimpArgs false
set_option maxRecDepth 100000
open Go.RowKit
theorem c5:Tryd.prog.cellsOf 5=1:=by kernel_rfl
theorem part5 (w:World) (l:List UInt8) (i:Nat) (h:i < l.length):(part 5 (l.map cellOf).toArray i).run Tryd.prog w = .ok (.int .u8 ((l.getD i 0).toNat:Int)) w:=by
 have ha:(isAgg 5).run Tryd.prog w = .ok false w:=by simp [isAgg,run_underlying Tryd.underlying5]
 have hb:=bytes_at l i h
 simp only [part,Sem.run_bind,ha,Result.andThen_ok]
 simp [hb]
theorem eqItems_bytes (w:World) (dd:Nat) (l r:List UInt8):∀ (is:List Nat),(∀ i ∈ is,i < l.length/\i < r.length) ->
  (Op.eqItems (dd + 1) 5 1 (l.map cellOf).toArray (r.map cellOf).toArray is).run Tryd.prog w = .ok (decide (∀ i ∈ is,l.getD i 0=r.getD i 0)) w
 | [],_=>by simp [Op.eqItems]
 | i :: is,h=>by
  have hi:=h i (by simp)
  have ih:=eqItems_bytes w dd l r is (fun j hj=>h j (by simp [hj]))
  have hq:(Op.equalIn (dd + 1) 5 (.int .u8 ((l.getD i 0).toNat:Int)) (.int .u8 ((r.getD i 0).toNat:Int))).run Tryd.prog w = .ok (((l.getD i 0).toNat:Int) == ((r.getD i 0).toNat:Int)) w:=by
   rw [run_equalIn_int w dd 5 .u8 .u8 _ _ Tryd.underlying5]
  have hii:i * 1=i:=Nat.mul_one i
  simp only [Op.eqItems,Sem.run_bind,hii,part5 w l i hi.1,part5 w r i hi.2,Result.andThen_ok,hq]
  by_cases he:l.getD i 0=r.getD i 0
  ·have hb:(((l.getD i 0).toNat:Int) == ((r.getD i 0).toNat:Int))=true:=by rw [he]; exact beq_self_eq_true _
   rw [hb]
   simp only [Bool.not_true,Bool.false_eq_true,if_false]
   rw [ih]
   congr 1
   rw [Bool.eq_iff_iff,decide_eq_true_iff,decide_eq_true_iff,List.forall_mem_cons]
   exact ⟨fun h=>⟨he,h⟩,fun h=>h.2⟩
  ·have hne:¬ ((l.getD i 0).toNat:Int)=((r.getD i 0).toNat:Int):=fun e=>he (UInt8.toNat_inj.1 (by omega))
   have hb:(((l.getD i 0).toNat:Int) == ((r.getD i 0).toNat:Int))=false:=by simpa using hne
   rw [hb]
   have hd:decide (∀ j ∈ i :: is,l.getD j 0=r.getD j 0)=false:=by
    rw [decide_eq_false_iff_not]
    exact fun hall=>he (hall i (by simp))
   rw [hd]
   rfl
theorem equal30 (l r:List UInt8) (hl:l.length=32) (hr:r.length=32) (w:World):(Op.equalIn 10000 27 (.agg (l.map cellOf).toArray) (.agg (r.map cellOf).toArray)).run Tryd.prog w = .ok (sameB l r) w:=by
 obtain ⟨i0,hi,hz0,hz1,hz2⟩:=info_parts info5
 rw [run_equalIn_array w 9999 _ _ Tryd.underlying27 hi,c5,eqItems_bytes w 9998 l r (List.range 32) (fun i hi=>by have:=List.mem_range.1 hi; omega)]
 congr 1
 unfold sameB
 rw [Bool.eq_iff_iff,decide_eq_true_iff,decide_eq_true_iff]
 constructor
 ·intro h
  apply List.ext_getElem (by omega)
  intro i h1 h2
  have:=h i (List.mem_range.2 (by omega))
  simpa [List.getD_eq_getElem?_getD,List.getElem?_eq_getElem h1,List.getElem?_eq_getElem h2] using this
 ·intro h i _
  rw [h]
theorem sameB_self (l:List UInt8):sameB l l=true:=by simp [sameB]
theorem gFirst : Tryd.prog.globalNamed "indenture/sha.first" = some 0 := by kernel_rfl
theorem gRounds : Tryd.prog.globalNamed "indenture/sha.rounds" = some 1 := by kernel_rfl
theorem tFirst:(Tryd.prog.globals[0]?).map (·.type)=some 110:=by kernel_rfl
theorem tRounds:(Tryd.prog.globals[1]?).map (·.type)=some 115:=by kernel_rfl
theorem c49:Tryd.prog.cellsOf 102=1:=by kernel_rfl
def laid2 : List (String × DataW Unit) := [("indenture/sha.first", Rows.laid_indenture_sha_first), ("indenture/sha.rounds", Rows.laid_indenture_sha_rounds)]
theorem dFirst:(Rows.laid_indenture_sha_first:DataW Unit) = .agg (Sha.H0.map fun z=>.lit (.int .u32 z)):=rfl
theorem dRounds:(Rows.laid_indenture_sha_rounds:DataW Unit) = .agg (Sha.K.map fun z=>.lit (.int .u32 z)):=rfl
theorem gl_of_laid {W:World} (h:laidMetH Tryd.prog laid2 W):Gl W:=by
 rw [MakeChecks.laidMetH_plain _ _ _ (by kernel_rfl)] at h
 obtain ⟨ps,⟨g0,t0,cs0,f0,p0,q0,hg0,ht0,hv0,hd0,⟨g1,t1,cs1,f1,p1,q1,hg1,ht1,hv1,hd1,_,_⟩,_⟩,_,_⟩:=h
 obtain rfl:=Option.some.inj (gFirst.symm.trans hg0)
 obtain rfl:=Option.some.inj (gRounds.symm.trans hg1)
 obtain rfl:=Option.some.inj (tFirst.symm.trans ht0)
 obtain rfl:=Option.some.inj (tRounds.symm.trans ht1)
 rw [dFirst] at hd0
 rw [dRounds] at hd1
 have e0:=Lib.cells_of_tab Tryd.underlying110 Tryd.underlying102 c49 (by kernel_rfl) hd0
 have e1:=Lib.cells_of_tab Tryd.underlying115 Tryd.underlying102 c49 (by kernel_rfl) hd1
 have h1:W.cell? ⟨1,0,none⟩=some (.int .u32 1116352408):=by
  rw [World.var?_cell hg1 hv1 0,<- Array.getElem?_toList,e1]
  rfl
 have hs:=World.block_lt_of_cell? W ⟨1,0,none⟩ h1
 refine ⟨fun j v hv=>?_,fun j v hv=>?_,hs⟩
 ·rw [Nat.zero_add,World.var?_cell hg0 hv0 j,<- Array.getElem?_toList,e0]
  exact hv
 ·rw [Nat.zero_add,World.var?_cell hg1 hv1 j,<- Array.getElem?_toList,e1]
  exact hv
theorem own:ownKnob Tryd.prog.godebug=none:=by kernel_rfl
theorem door_met (os:Os) (args:Array Value):laidMetH Tryd.prog laid2 ((World.doorLaid Tryd.prog 400 os).forCall (fun _ _=>0) ⟨#[],args,[]⟩).memory :=
 laidMetH_of_parts3 (fuel:=8) (laidMet_of_run' 8 (by kernel_rfl) (by kernel_rfl)) (by kernel_rfl) (by kernel_rfl)
end Go.Proofs.YtajgjeialbgijaaDoor
namespace Go.Proofs.YtajgjeialbgijaaDoor
set_option linter.unusedVariables false
set_option linter.unusedSimpArgs false
set_option maxRecDepth 100000
open Go.RowKit
def Ow (w:World) (base:Nat) (v:Value) (l:List UInt8):Prop:=w.ownsRow base 5 1 v l.length (l.map cellOf)
theorem Ow.form {w:World} {base:Nat} {v:Value} {l:List UInt8} (h:Ow w base v l) (hl:0 < l.length) :
  ∃ g c,v = .slice (some ⟨g,0,none⟩) l.length c/\base<=g/\g < w.heap.size:=World.ownsRow.form h hl
theorem Ow.rd {w:World} {base g n c:Nat} {l:List UInt8} (h:Ow w base (.slice (some ⟨g,0,none⟩) n c) l) (hn:n=l.length):Rd w (some ⟨g,0,none⟩) n c l:=by
 subst hn
 have h0:=h
 rcases h.2 with ⟨h',_⟩ | ⟨g',cap',cur,h',_,hg,hnc,hcm,_,_⟩
 ·simp at h'
 ·simp only [Value.slice.injEq,Option.some.injEq,Addr.mk.injEq,and_true,true_and] at h'
  obtain ⟨rfl,rfl⟩:=h'
  refine ⟨rfl,hnc,hcm,fun _=>⟨g,0,rfl,?_,fun j hj=>?_⟩⟩
  ·rcases Nat.lt_or_ge g w.heap.size with hlt | hge
   ·exact hlt
   ·rw [Array.getElem?_eq_none hge] at hg; cases hg
  ·have:=World.ownsRow.cellAt h0 j (by omega)
   rw [Nat.zero_add,this]
   simp [List.getD_eq_getElem?_getD,List.getElem?_eq_getElem hj]
theorem Ow.empty (w:World) (B:Nat):Ow w B (.slice none 0 0) []:=World.ownsRow_nil w B 5 1
theorem Ow.value {w:World} {base:Nat} {v:Value} {l:List UInt8} (h:Ow w base v l):∃ A c,v = .slice A l.length c/\Rd w A l.length c l/\(0 < l.length->∃ g,A=some ⟨g,0,none⟩/\base<=g):=by
 rcases Nat.eq_zero_or_pos l.length with h0 | h0
 ·have hl:l=[]:=List.eq_nil_of_length_eq_zero h0
  subst hl
  rcases h.2 with ⟨rfl,_⟩ | ⟨g,cap,cur,rfl,_,_,_,hm,_⟩
  ·exact ⟨_,_,rfl,Rd.nil _ _ _ (by unfold maxLen; omega),fun h=>absurd h (by simp)⟩
  ·exact ⟨_,_,rfl,Rd.nil _ _ _ hm,fun h=>absurd h (by simp)⟩
 ·obtain ⟨g,c,rfl,hb,_⟩:=h.form h0
  exact ⟨_,_,rfl,h.rd rfl,fun _=>⟨g,rfl,hb⟩⟩
theorem push_law {ops:Array Oper} {rest:List Oper} {o:Oper} {a:Act} {Q:Exit->Act->World->Prop} {wr w0:World} {B:Nat} {v:Value} {l:List UInt8} {b:Int} (hgd:o.guard=none) (s x:Operand)
  (ho:o.op = .call { callee:=.builtin .append,args:=#[s,x],argTypes:=#[41,41] }) (hs:a.eval s=v) (hx:a.eval x = .slice (some ⟨wr.heap.size,0,none⟩) 1 1) (y:UInt8) (hown:Ow wr B v l) (hb:b=(y.toNat:Int))
  (hlen:l.length + 1<=140737488355328) (hB:B<=wr.heap.size) (hbel:Below B w0 wr)
  (h:∀ v' w',Hid (Ow w' B v' (l ++ [y]))->Hid (Below B w0 w')->wpList Tryd.prog ops Q rest (a.put o.dst v') w'):wpList Tryd.prog ops Q (o :: rest) a (wr.alloc (.cells #[.int .u8 b] 5)):=by
 obtain ⟨i0,hi,hz0,hz1,hz2⟩:=info_parts info5
 subst hb
 refine wpList_append_own _ hgd s x 41 ho B 5 i0 (.int .u8 0) 1 1 Tryd.underlying41 hi hz0 hz1 hz2 rfl (by decide) v l.length (l.map cellOf) hs (World.ownsRow.alloc hown _) ⟨wr.heap.size,0,none⟩ 1 1 [cellOf y] hx rfl
  (cell_one_new _ _ _) (fun u hu=>by simp at hu; subst hu; rfl) (by unfold maxLen; omega) (by omega) (by simp; omega) ?_
 intro v' w' h2 h3 _
 refine h v' w' (by unfold Hid Ow; simpa using h2) ?_
 refine (hbel.alloc hB _).grown h3 (by simp; omega) fun k hk=>?_
 exact (World.ownsRow.lt hown k hk).1
theorem run_onto_none {wr:World} {B:Nat} {v:Value} {l:List UInt8} (hown:Ow wr B v l) (ty:TypeId) (c:Nat):(Builtin.append_ #[41,41] ty #[v,.slice none 0 c]).run Tryd.prog wr = .ok v wr:=by
 obtain ⟨i0,hi,hz0,hz1,hz2⟩:=info_parts info5
 rcases hown.2 with ⟨rfl,_⟩ | ⟨g,cap,cur,rfl,_,_,hnc,_⟩
 ·simp [Builtin.append_,run_underlying Tryd.underlying41,sizeOf,typeInfo,hi,Builtin.lenOf,Builtin.firstCells]
 ·simp [Builtin.append_,run_underlying Tryd.underlying41,sizeOf,typeInfo,hi,Builtin.lenOf,Builtin.firstCells,hnc,storeCells]
theorem onto_law {ops:Array Oper} {rest:List Oper} {o:Oper} {a:Act} {Q:Exit->Act->World->Prop} {wr w0:World} {B:Nat} {v:Value} {l:List UInt8} (hgd:o.guard=none) (s x:Operand)
  (ho:o.op = .call { callee:=.builtin .append,args:=#[s,x],argTypes:=#[41,41] }) (hs:a.eval s=v) {A:Option Addr} {m c:Nat} {news:List UInt8} (hx:a.eval x = .slice A m c) (hr:Rd wr A m c news) (hown:Ow wr B v l)
  (hlen:l.length + m<=140737488355328) (hB:B<=wr.heap.size) (hbel:Below B w0 wr)
  (h:∀ v' w',Hid (Ow w' B v' (l ++ news))->Hid (Below B w0 w')->wpList Tryd.prog ops Q rest (a.put o.dst v') w'):wpList Tryd.prog ops Q (o :: rest) a wr:=by
 obtain ⟨i0,hi,hz0,hz1,hz2⟩:=info_parts info5
 cases A with
 | none =>
  have hm:m=0:=by
   rcases Nat.eq_zero_or_pos m with h0 | h0
   ·exact h0
   ·obtain ⟨b,off,e,_⟩:=hr.at_ h0
    cases e
  subst hm
  obtain rfl:news=[]:=List.eq_nil_of_length_eq_zero hr.len
  refine wpList_plain hgd fun K hK=>?_
  have hrun:=run_onto_none hown o.type c
  unfold Oper.wp
  simp [execOp,ho,resolve,invoke,builtin,hs,hx,hrun,Result.andThen]
  exact hK _ _ (h v wr (by unfold Hid; simpa using hown) hbel)
 | some ad =>
  refine wpList_append_own _ hgd s x 41 ho B 5 i0 (.int .u8 0) 1 1 Tryd.underlying41 hi hz0 hz1 hz2 rfl (by decide) v l.length (l.map cellOf) hs hown ad m c (news.map cellOf) hx (by simpa using hr.len)
   (fun j u hu=>?_) (cells_u8 news) (by unfold maxLen; omega) (by omega) hB ?_
  ·have hj:j < news.length:=by simpa using (List.getElem?_eq_some_iff.1 hu).1
   obtain ⟨b,off,e,_,hc⟩:=hr.at_ (by have:=hr.len; omega)
   injection e with e
   subst e
   rw [add_plain,hc j (by have:=hr.len; omega),<- hu]
   simp [List.getD_eq_getElem?_getD,List.getElem?_eq_getElem hj]
  ·intro v' w' h2 h3 _
   have hn:=hr.len
   subst hn
   refine h v' w' (by unfold Hid Ow; simpa using h2) ?_
   exact hbel.grown h3 hB fun k hk=>(World.ownsRow.lt hown k hk).1
theorem Ow.keep {w w':World} {base:Nat} {v:Value} {l:List UInt8} (h:Ow w base v l) (hk:Below w.heap.size w w'):Ow w' base v l:=by
 refine ⟨h.1,?_⟩
 rcases h.2 with ⟨rfl,h2⟩ | ⟨g,cap,cur,rfl,hb,hg,h3⟩
 ·exact .inl ⟨rfl,h2⟩
 ·refine .inr ⟨g,cap,cur,rfl,hb,?_,h3⟩
  rw [hk.block g ?_]
  ·exact hg
  ·rcases Nat.lt_or_ge g w.heap.size with hlt | hge
   ·exact hlt
   ·rw [Array.getElem?_eq_none hge] at hg; cases hg
end Go.Proofs.YtajgjeialbgijaaDoor
namespace Go.Proofs.YtajgjeialbgijaaDoor
set_option linter.unusedVariables false
set_option linter.unusedSimpArgs false
set_option maxRecDepth 100000
open Go.RowKit
theorem outC_set (l:List UInt8) (n k:Nat) (y:UInt8) (hk:l.length=k) (h:k < n):(outC l n).set k (cellOf y)=outC (l ++ [y]) n:=by
 unfold outC
 rw [List.take_of_length_le (by omega),List.take_of_length_le (by simp; omega),List.set_append_right _ _ (by simp; omega),hk,show n - k=(n - (k + 1)) + 1 by omega,List.replicate_succ]
 simp [hk]
theorem outC_at (l:List UInt8) (n k:Nat) (hk:l.length=k) (h:k < n):(outC l n)[k]?=some (.int .u8 0):=by
 unfold outC
 rw [List.take_of_length_le (by omega),List.getElem?_append_right (by simp; omega)]
 simp only [List.length_map,hk,Nat.sub_self]
 exact List.getElem?_replicate_of_lt (by omega)
theorem outC_rd {w:World} {g n:Nat} {t:TypeId} {l:List UInt8} (hb:Blk w g t (outC l n)) (hl:l.length=n) (hm:n<=1000000):Rd w (some ⟨g,0,none⟩) n n l :=
 Rd.of_block hb hl (Nat.le_refl _) (by unfold maxLen; omega) (fun j hj=>by
  have hj':j < l.length:=by omega
  rw [out_end l n (by omega),List.take_of_length_le (by omega)]
  simp [List.getD_eq_getElem?_getD,List.getElem?_eq_getElem hj'])
theorem laidOut:laidOutB Tryd.prog=true:=by kernel_rfl
end Go.Proofs.YtajgjeialbgijaaDoor
namespace Go.Proofs.YtajgjeialbgijaaDoor
set_option linter.unusedVariables false
set_option linter.unusedSimpArgs false
set_option maxRecDepth 100000
open Go.RowKit
theorem str_of (l:List UInt8):strOfNums (l.map fun b=>(b.toNat:Int))=⟨l.toArray⟩:=by
 unfold strOfNums
 simp [Function.comp_def]
theorem conv_bytes {w:World} {A:Option Addr} {n c:Nat} {l:List UInt8} (h:Rd w A n c l):(convert 41 9 (.slice A n c)).run Tryd.prog w = .ok (.string ⟨l.toArray⟩) w:=by
 rcases Nat.eq_zero_or_pos n with h0 | h0
 ·subst h0
  obtain rfl:l=[]:=List.eq_nil_of_length_eq_zero h.len
  cases A with
  | none=>exact run_convert_bytes_nil (P:=Tryd.prog) w 41 5 Tryd.underlying41 Tryd.underlying5 0 c 9 Tryd.underlying9
  | some a =>
   rw [run_convert_bytes_string w 41 9 5 _ 0 c Tryd.underlying41 Tryd.underlying5 Tryd.underlying9,run_bytesToString w a 0 c [] (by rfl)]
   rfl
 ·obtain ⟨b,off,rfl,_,hc⟩:=h.at_ h0
  rw [<- str_of l]
  refine run_convert_bytes_arg (P:=Tryd.prog) w 41 5 Tryd.underlying41 Tryd.underlying5 b off n c _ (by simpa using h.len) (fun i hi=>?_) 9 Tryd.underlying9
  rw [hc i hi]
  have hi':i < l.length:=by rw [h.len]; exact hi
  simp [cellOf,List.getD_eq_getElem?_getD,List.getElem?_eq_getElem hi']
end Go.Proofs.YtajgjeialbgijaaDoor
namespace Go.Proofs.YtajgjeialbgijaaDoor
set_option linter.unusedVariables false
set_option linter.unusedSimpArgs false
set_option maxRecDepth 100000
open Go.RowKit
def Lies (w:World) (v v':Value):Prop:=v'.ownBlock=v.ownBlock ∨ ∃ q,v'.ownBlock=some q/\w.heap.size<=q
def Apart (v u:Value):Prop:=v.ownBlock=none ∨ v.ownBlock ≠ u.ownBlock
theorem Apart.symm {v u:Value} (h:Apart v u):Apart u v:=by
 rcases h with h | h
 ·by_cases hu:u.ownBlock=none
  ·exact .inl hu
  ·exact .inr (by rw [h]; exact hu)
 ·exact .inr (Ne.symm h)
theorem Ow.lt_ {w:World} {B:Nat} {v:Value} {l:List UInt8} (h:Ow w B v l):∀ k,v.ownBlock=some k->B<=k/\k < w.heap.size:=World.ownsRow.lt h
theorem Ow.kept {w w':World} {B:Nat} {v:Value} {l:List UInt8} {row:Option Nat} (h:Ow w B v l) (hg:w.grownBy w' row) (hne:v.ownBlock=none ∨ v.ownBlock ≠ row):Ow w' B v l:=World.ownsRow.kept h hg hne
theorem Apart.lies {w:World} {B:Nat} {v v' u:Value} {l:List UInt8} (h:Apart u v) (hu:Ow w B u l) (hv:Lies w v v'):Apart u v':=by
 rcases hv with hv | ⟨q,hq,hge⟩
 ·unfold Apart; rw [hv]; exact h
 ·by_cases h0:u.ownBlock=none
  ·exact .inl h0
  ·obtain ⟨k,hk⟩:=Option.ne_none_iff_exists'.1 h0
   have:=(hu.lt_ k hk).2
   exact .inr (by rw [hk,hq]; intro e; injection e with e; omega)
theorem run_onto {wr:World} {B:Nat} {v:Value} {l:List UInt8} (hown:Ow wr B v l) (ty:TypeId) {ad:Addr} {m c:Nat} {news:List UInt8} (hr:Rd wr (some ad) m c news) (hm:0 < m) (hlen:l.length + m<=140737488355328) (hB:B<=wr.heap.size) :
  ∃ v' w',(Builtin.append_ #[41,41] ty #[v,.slice (some ad) m c]).run Tryd.prog wr = .ok v' w'/\Ow w' B v' (l ++ news)/\wr.grownBy w' v.ownBlock/\Lies wr v v':=by
 obtain ⟨i0,hi,hz0,hz1,hz2⟩:=info_parts info5
 have hn:=hr.len
 have hl:(news.map cellOf).length=m * i0.size:=by rw [hz1]; simpa using hn
 have hnews:∀ j u,(news.map cellOf)[j]?=some u->wr.cell? (ad.add j)=some u:=fun j u hu=>by
  have hj:j < news.length:=by simpa using (List.getElem?_eq_some_iff.1 hu).1
  obtain ⟨b,off,e,_,hc⟩:=hr.at_ hm
  injection e with e
  subst e
  rw [add_plain,hc j (by omega),<- hu]
  simp [List.getD_eq_getElem?_getD,List.getElem?_eq_getElem hj]
 have h63:l.length + m<=maxLen:=by unfold maxLen; omega
 have hown':wr.ownsRow B 5 i0.size v l.length (l.map cellOf):=by rw [hz1]; exact hown
 obtain ⟨v',w',hrun,h2,h3,h4⟩:=run_append_own (P:=Tryd.prog) wr B 41 ty 5 i0 (.int .u8 0) i0.size i0.bytes Tryd.underlying41 hi hz0 rfl rfl (by rw [hz1]; rfl) (by rw [hz1]; omega) v l.length (l.map cellOf) hown' ad m c (news.map cellOf) hl hnews (cells_u8 news) h63 (by rw [hz2]; omega) hB
 refine ⟨v',w',hrun,?_,h3,?_⟩
 ·unfold Ow
  rw [hz1] at h2
  simpa [hn] using h2
 ·rcases hown'.2 with ⟨rfl,hl0⟩ | ⟨g,cap,cur,rfl,hbg,hg,hnc,hcm,hcs,htake⟩
  ·have hr2:=run_append_nil (P:=Tryd.prog) wr 41 ty 5 i0 (.int .u8 0) Tryd.underlying41 hi hz0 ad m c (news.map cellOf) hl hnews (by omega) (by omega) (by rw [hz2]; omega)
   rw [hrun] at hr2
   injection hr2 with e1 e2
   subst e1
   exact .inr ⟨wr.heap.size,rfl,Nat.le_refl _⟩
  ·by_cases hroom:l.length + m<=cap
   ·have hfit:l.length * i0.size + (news.map cellOf).length<=cur.size:=by rw [hl,hcs,<- Nat.add_mul]; exact Nat.mul_le_mul_right _ hroom
    have hr2:=run_append_room (P:=Tryd.prog) wr 41 ty 5 i0 Tryd.underlying41 hi g l.length cap cur hg ad m c (news.map cellOf) hl hnews (cells_u8 news) hroom hfit
    rw [hrun] at hr2
    injection hr2 with e1 e2
    subst e1
    exact .inl rfl
   ·have hr2:=run_append_grow (P:=Tryd.prog) wr 41 ty 5 i0 (.int .u8 0) Tryd.underlying41 hi hz0 ⟨g,0,none⟩ l.length cap (l.map cellOf) hown'.1 (World.ownsRow.cells hown' (g:=g) rfl) ad m c (news.map cellOf) hl hnews (by omega) (by omega) (growslice_fits (by omega) (by rw [hz2]; omega))
    rw [hrun] at hr2
    injection hr2 with e1 e2
    subst e1
    exact .inr ⟨wr.heap.size,rfl,Nat.le_refl _⟩
theorem step_app {ops:Array Oper} {o:Oper} {a:Act} {K:Act->World->Prop} {Q:Exit->Act->World->Prop} {E:Prop} {wr w0:World} {B:Nat} {v:Value} {l:List UInt8} (hgd:Region.wanted o (yielded ops a.tmps)=true) (s x:Operand)
  (ho:o.op = .call { callee:=.builtin .append,args:=#[s,x],argTypes:=#[41,41] }) (hs:a.eval s=v) {ad:Addr} {m c:Nat} {news:List UInt8} (hx:a.eval x = .slice (some ad) m c) (hr:Rd wr (some ad) m c news) (hown:Ow wr B v l)
  (hlen:l.length + m<=140737488355328) (hm:0 < m) (hB:B<=wr.heap.size) (hbel:Below B w0 wr)
  (h:∀ v' w',Hid (Ow w' B v' (l ++ news))->Hid (Below B w0 w')->Hid (wr.grownBy w' v.ownBlock)->Hid (Lies wr v v')->K (a.put o.dst v') w'):if Region.wanted o (yielded ops a.tmps)=true then o.wp Tryd.prog a wr K Q else E:=by
 rw [if_pos hgd]
 obtain ⟨v',w',hrun,h2,h3,h4⟩:=run_onto hown o.type hr hm hlen hB
 unfold Oper.wp execOp
 simp only [ho,resolve,invoke,builtin,Sem.run_bind,Sem.run_pure,Result.andThen_ok,List.map_toArray,List.map_cons,List.map_nil,hs,hx,hrun]
 exact h v' w' h2 (hbel.grown h3 hB fun k hk=>(hown.lt_ k hk).1) h3 h4
end Go.Proofs.YtajgjeialbgijaaDoor
namespace Go.Proofs.YtajgjeialbgijaaDoor
set_option linter.unusedVariables false
set_option linter.unusedSimpArgs false
set_option maxRecDepth 100000
open Go.RowKit
structure Two (w:World) (B:Nat) (v u:Value) (l r:List UInt8):Prop where
 a:Ow w B v l
 b:Ow w B u r
 apart:Apart v u
theorem Two.swap {w:World} {B:Nat} {v u:Value} {l r:List UInt8} (h:Two w B v u l r):Two w B u v r l:=⟨h.b,h.a,h.apart.symm⟩
theorem Two.keep {w w':World} {B:Nat} {v u:Value} {l r:List UInt8} (h:Two w B v u l r) (hk:Below w.heap.size w w'):Two w' B v u l r:=⟨h.a.keep hk,h.b.keep hk,h.apart⟩
theorem Two.none (w:World) (B:Nat):Two w B (.slice none 0 0) (.slice none 0 0) [] []:=⟨Ow.empty w B,Ow.empty w B,.inl rfl⟩
structure Lone (w:World) (q:Nat) (x:UInt8) (v u:Value):Prop where
 rd:Rd w (some ⟨q,0,none⟩) 1 1 [x]
 v:v.ownBlock ≠ some q
 u:u.ownBlock ≠ some q
theorem Lone.swap {w:World} {q:Nat} {x:UInt8} {v u:Value} (h:Lone w q x v u):Lone w q x u v:=⟨h.rd,h.u,h.v⟩
theorem Lone.keep {w w':World} {q:Nat} {x:UInt8} {v u:Value} (h:Lone w q x v u) (hk:Below w.heap.size w w'):Lone w' q x v u:=⟨h.rd.below hk,h.v,h.u⟩
theorem Lone.lt {w:World} {q:Nat} {x:UInt8} {v u:Value} (h:Lone w q x v u):q < w.heap.size:=by
 obtain ⟨b,off,e,hlt,_⟩:=h.rd.at_ (by omega)
 injection e with e
 injection e with e1 _ _
 omega
theorem Lone.new {w:World} {B:Nat} {v u:Value} {l r:List UInt8} (h:Two w B v u l r) (x:UInt8):Lone (w.alloc (.cells #[.int .u8 (x.toNat:Int)] 5)) w.heap.size x v u :=
 ⟨lit_bytes1 w x,fun e=>Nat.lt_irrefl _ (h.a.lt_ _ e).2,fun e=>Nat.lt_irrefl _ (h.b.lt_ _ e).2⟩
theorem Two.step {w w':World} {B:Nat} {v v' u:Value} {l l' r:List UInt8} (h:Two w B v u l r) (ho:Ow w' B v' l') (hg:w.grownBy w' v.ownBlock) (hl:Lies w v v'):Two w' B v' u l' r :=
 ⟨ho,h.b.kept hg h.apart.symm,(Apart.lies h.apart.symm h.b hl).symm⟩
theorem Lone.step {w w':World} {q:Nat} {x:UInt8} {v v' u:Value} (h:Lone w q x v u) (hg:w.grownBy w' v.ownBlock) (hl:Lies w v v'):Lone w' q x v' u:=by
 have hlt:=h.lt
 refine ⟨h.rd.keep hg.size (fun b off e _ hb=>hg.block b hb (fun e2=>h.v ?_)),?_,h.u⟩
 ·injection e with e
  injection e with e1 _ _
  rw [<- e2,e1]
 ·rcases hl with hl | ⟨p,hp,hge⟩
  ·rw [hl]; exact h.v
  ·rw [hp]
   intro e
   injection e with e
   omega
theorem onto_grown {ops:Array Oper} {rest:List Oper} {o:Oper} {a:Act} {Q:Exit->Act->World->Prop} {wr w0:World} {B:Nat} {v:Value} {l:List UInt8} (hgd:o.guard=none) (s x:Operand)
  (ho:o.op = .call { callee:=.builtin .append,args:=#[s,x],argTypes:=#[41,41] }) (hs:a.eval s=v) {A:Option Addr} {m c:Nat} {news:List UInt8} (hx:a.eval x = .slice A m c) (hr:Rd wr A m c news) (hown:Ow wr B v l)
  (hlen:l.length + m<=140737488355328) (hB:B<=wr.heap.size) (hbel:Below B w0 wr)
  (h:∀ v' w',Hid (Ow w' B v' (l ++ news))->Hid (Below B w0 w')->Hid (wr.grownBy w' v.ownBlock)->wpList Tryd.prog ops Q rest (a.put o.dst v') w'):wpList Tryd.prog ops Q (o :: rest) a wr:=by
 obtain ⟨i0,hi,hz0,hz1,hz2⟩:=info_parts info5
 cases A with
 | none =>
  have hm:m=0:=by
   rcases Nat.eq_zero_or_pos m with h0 | h0
   ·exact h0
   ·obtain ⟨b,off,e,_⟩:=hr.at_ h0
    cases e
  subst hm
  obtain rfl:news=[]:=List.eq_nil_of_length_eq_zero hr.len
  refine wpList_plain hgd fun K hK=>?_
  have hrun:=run_onto_none hown o.type c
  unfold Oper.wp
  simp [execOp,ho,resolve,invoke,builtin,hs,hx,hrun,Result.andThen]
  exact hK _ _ (h v wr (by unfold Hid; simpa using hown) hbel (only_refl _ _))
 | some ad =>
  refine wpList_append_own _ hgd s x 41 ho B 5 i0 (.int .u8 0) 1 1 Tryd.underlying41 hi hz0 hz1 hz2 rfl (by decide) v l.length (l.map cellOf) hs hown ad m c (news.map cellOf) hx (by simpa using hr.len)
   (fun j u hu=>?_) (cells_u8 news) (by unfold maxLen; omega) (by omega) hB ?_
  ·have hj:j < news.length:=by simpa using (List.getElem?_eq_some_iff.1 hu).1
   obtain ⟨b,off,e,_,hc⟩:=hr.at_ (by have:=hr.len; omega)
   injection e with e
   subst e
   rw [add_plain,hc j (by have:=hr.len; omega),<- hu]
   simp [List.getD_eq_getElem?_getD,List.getElem?_eq_getElem hj]
  ·intro v' w' h2 h3 _
   have hn:=hr.len
   subst hn
   refine h v' w' (by unfold Hid Ow; simpa using h2) ?_ h3
   exact hbel.grown h3 hB fun k hk=>(World.ownsRow.lt hown k hk).1
theorem mask_take (x:UInt8) (b:List UInt8) (k:Nat) (h:k < b.length):Sha.mask x (b.take (k + 1))=Sha.mask x (b.take k) ++ [b.getD k 0 ^^^ x]:=by
 unfold Sha.mask
 rw [List.take_add_one,List.getElem?_eq_getElem h,List.map_append]
 simp [List.getD_eq_getElem?_getD,List.getElem?_eq_getElem h]
end Go.Proofs.YtajgjeialbgijaaDoor
namespace Go.Proofs.YtajgjeialbgijaaDoor
set_option linter.unusedVariables false
set_option linter.unusedSimpArgs false
set_option maxRecDepth 100000
open Go.RowKit
def OwP (w:World) (base:Nat) (v:Value) (xs:List Value):Prop:=w.ownsRow base 41 1 v xs.length xs
theorem OwP.empty (w:World) (B:Nat):OwP w B (.slice none 0 0) []:=World.ownsRow_nil w B 41 1
theorem OwP.kept {w w':World} {B:Nat} {v:Value} {xs:List Value} {row:Option Nat} (h:OwP w B v xs) (hg:w.grownBy w' row) (hne:v.ownBlock=none ∨ v.ownBlock ≠ row):OwP w' B v xs:=World.ownsRow.kept h hg hne
theorem OwP.keep {w w':World} {B:Nat} {v:Value} {xs:List Value} (h:OwP w B v xs) (hk:Below w.heap.size w w'):OwP w' B v xs:=by
 refine ⟨h.1,?_⟩
 rcases h.2 with ⟨rfl,h2⟩ | ⟨g,cap,cur,rfl,hb,hg,h3⟩
 ·exact .inl ⟨rfl,h2⟩
 ·refine .inr ⟨g,cap,cur,rfl,hb,?_,h3⟩
  rw [hk.block g ?_]
  ·exact hg
  ·rcases Nat.lt_or_ge g w.heap.size with hlt | hge
   ·exact hlt
   ·rw [Array.getElem?_eq_none hge] at hg; cases hg
theorem blk_apart {w:World} {B g:Nat} {t e:TypeId} {cs:List Value} {v:Value} {n s:Nat} {xs:List Value} (hb:Blk w g t cs) (h:w.ownsRow B e s v n xs) (hne:t ≠ e):some g ≠ v.ownBlock:=by
 rcases h.2 with ⟨rfl,_⟩ | ⟨g',cap,cur,rfl,_,hg,_⟩
 ·simp [Value.ownBlock]
 ·intro e1
  have e2:g=g':=by simpa [Value.ownBlock] using e1
  subst e2
  unfold Blk at hb
  rw [hg] at hb
  injection hb with h1
  injection h1 with _ h2 _
  exact hne h2.symm
theorem Ow.rdv {w:World} {B:Nat} {A:Option Addr} {n c:Nat} {l:List UInt8} (h:Ow w B (.slice A n c) l) (hn:l.length=n):Rd w A n c l:=by
 obtain ⟨A',c',e,hr,_⟩:=h.value
 rw [hn] at e hr
 injection e with e1 e2 e3
 subst e1; subst e3
 exact hr
theorem OwP.parts {w:World} {B:Nat} {v:Value} {xs:List Value} {ps:List (List UInt8)} (h:OwP w B v xs) (hl:ps.length=xs.length) (hp:∀ j,j < xs.length->∃ A n c,xs[j]?=some (.slice A n c)/\Rd w A n c (ps.getD j [])) :
  ∃ A c,v = .slice A xs.length c/\RdP w A xs.length ps:=by
 rcases Nat.eq_zero_or_pos xs.length with h0 | h0
 ·rcases h.2 with ⟨rfl,_⟩ | ⟨g,cap,cur,rfl,_⟩
  ·exact ⟨none,0,by rw [h0],hl,fun j hj=>by omega⟩
  ·exact ⟨_,_,rfl,hl,fun j hj=>by omega⟩
 ·obtain ⟨g,c,rfl,hb,hlt⟩:=World.ownsRow.form h h0
  refine ⟨_,_,rfl,hl,fun j hj=>?_⟩
  obtain ⟨A,n,c',hx,hr⟩:=hp j hj
  refine ⟨g,0,A,n,c',rfl,hlt,?_,hr⟩
  have h1:=World.ownsRow.cellAt h j (by simpa using hj)
  rw [Nat.zero_add,h1]
  exact hx
end Go.Proofs.YtajgjeialbgijaaDoor
namespace Go.Proofs.YtajgjeialbgijaaDoor
set_option linter.unusedVariables false
set_option linter.unusedSimpArgs false
set_option maxRecDepth 100000
open Go.RowKit
theorem run_onto_any {wr:World} {B:Nat} {v:Value} {l:List UInt8} (hown:Ow wr B v l) (ty:TypeId) {A:Option Addr} {m c:Nat} {news:List UInt8} (hr:Rd wr A m c news) (hlen:l.length + m<=140737488355328) (hB:B<=wr.heap.size) :
  ∃ v' w',(Builtin.append_ #[41,41] ty #[v,.slice A m c]).run Tryd.prog wr = .ok v' w'/\Ow w' B v' (l ++ news)/\wr.grownBy w' v.ownBlock:=by
 obtain ⟨i0,hi,hz0,hz1,hz2⟩:=info_parts info5
 cases A with
 | none =>
  have hm:m=0:=by
   rcases Nat.eq_zero_or_pos m with h0 | h0
   ·exact h0
   ·obtain ⟨b,off,e,_⟩:=hr.at_ h0
    cases e
  subst hm
  obtain rfl:news=[]:=List.eq_nil_of_length_eq_zero hr.len
  exact ⟨v,wr,run_onto_none hown ty c,by simpa using hown,only_refl _ _⟩
 | some ad =>
  have hn:=hr.len
  have hl:(news.map cellOf).length=m * i0.size:=by rw [hz1]; simpa using hn
  have hnews:∀ j u,(news.map cellOf)[j]?=some u->wr.cell? (ad.add j)=some u:=fun j u hu=>by
   have hj:j < news.length:=by simpa using (List.getElem?_eq_some_iff.1 hu).1
   obtain ⟨b,off,e,_,hc⟩:=hr.at_ (by omega)
   injection e with e
   subst e
   rw [add_plain,hc j (by omega),<- hu]
   simp [List.getD_eq_getElem?_getD,List.getElem?_eq_getElem hj]
  have h63:l.length + m<=maxLen:=by unfold maxLen; omega
  have hown':wr.ownsRow B 5 i0.size v l.length (l.map cellOf):=by rw [hz1]; exact hown
  obtain ⟨v',w',hrun,h2,h3,h4⟩:=run_append_own (P:=Tryd.prog) wr B 41 ty 5 i0 (.int .u8 0) i0.size i0.bytes Tryd.underlying41 hi hz0 rfl rfl (by rw [hz1]; rfl) (by rw [hz1]; omega) v l.length (l.map cellOf) hown' ad m c (news.map cellOf) hl hnews (cells_u8 news) h63 (by rw [hz2]; omega) hB
  refine ⟨v',w',hrun,?_,h3⟩
  unfold Ow
  rw [hz1] at h2
  simpa [hn] using h2
theorem onto_when {ops:Array Oper} {rest:List Oper} {o:Oper} {a:Act} {Q:Exit->Act->World->Prop} {wr w0:World} {B:Nat} {v:Value} {l:List UInt8} (hgd:Region.wanted o (yielded ops a.tmps)=true) (s x:Operand)
  (ho:o.op = .call { callee:=.builtin .append,args:=#[s,x],argTypes:=#[41,41] }) (hs:a.eval s=v) {A:Option Addr} {m c:Nat} {news:List UInt8} (hx:a.eval x = .slice A m c) (hr:Rd wr A m c news) (hown:Ow wr B v l)
  (hlen:l.length + m<=140737488355328) (hB:B<=wr.heap.size) (hbel:Below B w0 wr)
  (h:∀ v' w',Hid (Ow w' B v' (l ++ news))->Hid (Below B w0 w')->Hid (wr.grownBy w' v.ownBlock)->wpList Tryd.prog ops Q rest (a.put o.dst v') w'):wpList Tryd.prog ops Q (o :: rest) a wr:=by
 refine wpList_step fun K hK=>?_
 rw [if_pos hgd]
 obtain ⟨v',w',hrun,h2,h3⟩:=run_onto_any hown o.type hr hlen hB
 unfold Oper.wp execOp
 simp only [ho,resolve,invoke,builtin,Sem.run_bind,Sem.run_pure,Result.andThen_ok,List.map_toArray,List.map_cons,List.map_nil,hs,hx,hrun]
 exact hK _ _ (h v' w' h2 (hbel.grown h3 hB fun k hk=>(hown.lt_ k hk).1) h3)
end Go.Proofs.YtajgjeialbgijaaDoor
namespace Go.Proofs.YtajgjeialbgijaaDoor
set_option linter.unusedVariables false
set_option linter.unusedSimpArgs false
set_option maxRecDepth 100000
open Go.RowKit
def padTo (N:Nat) (b:List UInt8):List UInt8:=b.take N ++ List.replicate (N - b.length) 0
theorem padTo_length (N:Nat) (b:List UInt8):(padTo N b).length=N:=by simp [padTo]; omega
theorem pad_cells (N n:Nat) (b:List UInt8) (hb:b.length=n):(List.replicate N (Value.int .u8 0)).take 0 ++ (b.take (min n N)).map cellOf ++ (List.replicate N (Value.int .u8 0)).drop (0 + min n N)=(padTo N b).map cellOf:=by
 unfold padTo
 rw [List.take_zero,List.nil_append,Nat.zero_add,List.drop_replicate,List.map_append,List.map_replicate,show N - min n N=N - b.length by omega]
 congr 1
 rw [show b.take (min n N)=b.take N by rw [<- hb,List.take_eq_take_iff]; omega]
set_option maxRecDepth 100000 in
set_option maxHeartbeats 1000000 in
theorem key_any {w:World} {A:Option Addr} {n c:Nat} {b:List UInt8} (hr:Rd w A n c b) :
  Calls Tryd.prog 81 #[.slice A n c] w fun e w'=>e = .returned (.agg ((padTo 32 b).map cellOf).toArray)/\Below w.heap.size w w':=by
 have HR:=Lib.hid hr
 have HL:=Lib.hid hr.len
 clear hr
 go_enter Tryd.func81,Tryd.ntmps81
 go_upto_region 2 with (fail)
 obtain ⟨w0,hw0⟩:∃ w0,w0=(w.alloc (Obj.cells (List.replicate 32 (.int .u8 0)).toArray 26)).alloc (Obj.cells (List.replicate 32 (.int .u8 0)).toArray 26):=⟨_,rfl⟩
 have B0:Hid (Blk w0 w.heap.size 26 (List.replicate 32 (.int .u8 0))):=by unfold Hid; rw [hw0]; exact (Blk.new w 26 _).alloc _
 have B1:Hid (Blk w0 (w.heap.size + 1) 26 (List.replicate 32 (.int .u8 0))):=by unfold Hid; rw [hw0]; exact Blk.at_new _ _ 26 _ _ rfl (by simp)
 have W0:Hid (Below w.heap.size w w0):=by unfold Hid; rw [hw0]; exact ((Below.refl _ _).alloc (Nat.le_refl _) _).alloc (by simp) _
 have hs0:w.heap.size + 2<=w0.heap.size:=by rw [hw0]; simp
 change Code.wp _ _ _ _ ((w.alloc (Obj.cells (List.replicate 32 (.int .u8 0)).toArray 26)).alloc (Obj.cells (List.replicate 32 (.int .u8 0)).toArray 26))
 rw [<- hw0]
 clear hw0
 have R0:=Lib.hid (HR.out.below W0.out)
 obtain ⟨w5,hcopy,hB5,hO5⟩:=copy_into (off:=0) (dLen:=32) (dCap:=32) B1.out R0.out (by simp)
 rw [pad_cells 32 n b HL.out] at hB5
 obtain ⟨D,hD⟩:∃ D,D=(padTo 32 b).map cellOf:=⟨_,rfl⟩
 rw [<- hD] at hB5
 have hDl:D.length=32:=by rw [hD,List.length_map,padTo_length]
 have ID:Hid ((Tryd.prog.info? 26).map (·.size)=some D.length):=by unfold Hid; rw [hDl]; kernel_rfl
 have LD:Hid ((List.replicate 32 (Value.int .u8 0)).length=D.length):=by unfold Hid; rw [hDl]; rfl
 have OD:Hid (∀ v ∈ D,v.oneCell'=true):=by unfold Hid; rw [hD]; exact cells_u8 _
 have HD:=Lib.hid hD
 have B5:=Lib.hid hB5
 have Z5:Hid (Blk w5 w.heap.size 26 (List.replicate 32 (.int .u8 0))):=(hO5.block _ B0.out.lt (by simp)).trans B0.out
 have W5:Hid (Below w.heap.size w w5):=below_of_only W0.out hO5 (by omega) (by omega)
 clear hB5 hO5 hD hDl B0 B1 W0 R0
 go_wp2_with (first
  | ((with_reducible refine load_law rfl 26 (.tmp 3) rfl (w.heap.size + 1) 0 rfl D _ Tryd.underlying26 rfl ID.out B5.out.cells ?_))
  | ((with_reducible refine storeGen_law rfl 26 (.tmp 2) (.tmp 7) rfl w.heap.size rfl D rfl 26 (List.replicate 32 (.int .u8 0)) ID.out LD.out OD.out w.heap.size w Z5.out W5.out (Nat.le_refl _) ?_); intro w6 B6 W6))
 exact bodyPost_ret (results_cell_row rfl _ _ w.heap.size 26 D.toArray (0,0) _ rfl B6.out Tryd.underlying26 rfl (by rw [ID.out]; simp)) rfl ⟨by rw [HD.out],W6.out⟩
set_option maxRecDepth 100000 in
set_option maxHeartbeats 1000000 in
theorem nonce_any {w:World} {A:Option Addr} {n c:Nat} {b:List UInt8} (hr:Rd w A n c b) :
  Calls Tryd.prog 82 #[.slice A n c] w fun e w'=>e = .returned (.agg ((padTo 12 b).map cellOf).toArray)/\Below w.heap.size w w':=by
 have HR:=Lib.hid hr
 have HL:=Lib.hid hr.len
 clear hr
 go_enter Tryd.func82,Tryd.ntmps82
 go_upto_region 2 with (fail)
 obtain ⟨w0,hw0⟩:∃ w0,w0=(w.alloc (Obj.cells (List.replicate 12 (.int .u8 0)).toArray 106)).alloc (Obj.cells (List.replicate 12 (.int .u8 0)).toArray 106):=⟨_,rfl⟩
 have B0:Hid (Blk w0 w.heap.size 106 (List.replicate 12 (.int .u8 0))):=by unfold Hid; rw [hw0]; exact (Blk.new w 106 _).alloc _
 have B1:Hid (Blk w0 (w.heap.size + 1) 106 (List.replicate 12 (.int .u8 0))):=by unfold Hid; rw [hw0]; exact Blk.at_new _ _ 106 _ _ rfl (by simp)
 have W0:Hid (Below w.heap.size w w0):=by unfold Hid; rw [hw0]; exact ((Below.refl _ _).alloc (Nat.le_refl _) _).alloc (by simp) _
 have hs0:w.heap.size + 2<=w0.heap.size:=by rw [hw0]; simp
 change Code.wp _ _ _ _ ((w.alloc (Obj.cells (List.replicate 12 (.int .u8 0)).toArray 106)).alloc (Obj.cells (List.replicate 12 (.int .u8 0)).toArray 106))
 rw [<- hw0]
 clear hw0
 have R0:=Lib.hid (HR.out.below W0.out)
 obtain ⟨w5,hcopy,hB5,hO5⟩:=copy_into (off:=0) (dLen:=12) (dCap:=12) B1.out R0.out (by simp)
 rw [pad_cells 12 n b HL.out] at hB5
 obtain ⟨D,hD⟩:∃ D,D=(padTo 12 b).map cellOf:=⟨_,rfl⟩
 rw [<- hD] at hB5
 have hDl:D.length=12:=by rw [hD,List.length_map,padTo_length]
 have ID:Hid ((Tryd.prog.info? 106).map (·.size)=some D.length):=by unfold Hid; rw [hDl]; kernel_rfl
 have LD:Hid ((List.replicate 12 (Value.int .u8 0)).length=D.length):=by unfold Hid; rw [hDl]; rfl
 have OD:Hid (∀ v ∈ D,v.oneCell'=true):=by unfold Hid; rw [hD]; exact cells_u8 _
 have HD:=Lib.hid hD
 have B5:=Lib.hid hB5
 have Z5:Hid (Blk w5 w.heap.size 106 (List.replicate 12 (.int .u8 0))):=(hO5.block _ B0.out.lt (by simp)).trans B0.out
 have W5:Hid (Below w.heap.size w w5):=below_of_only W0.out hO5 (by omega) (by omega)
 clear hB5 hO5 hD hDl B0 B1 W0 R0
 go_wp2_with (first
  | ((with_reducible refine load_law rfl 106 (.tmp 3) rfl (w.heap.size + 1) 0 rfl D _ Tryd.underlying106 rfl ID.out B5.out.cells ?_))
  | ((with_reducible refine storeGen_law rfl 106 (.tmp 2) (.tmp 7) rfl w.heap.size rfl D rfl 106 (List.replicate 12 (.int .u8 0)) ID.out LD.out OD.out w.heap.size w Z5.out W5.out (Nat.le_refl _) ?_); intro w6 B6 W6))
 exact bodyPost_ret (results_cell_row rfl _ _ w.heap.size 106 D.toArray (0,0) _ rfl B6.out Tryd.underlying106 rfl (by rw [ID.out]; simp)) rfl ⟨by rw [HD.out],W6.out⟩
end Go.Proofs.YtajgjeialbgijaaDoor
