import Derived.Test.YtnfbkimkdnbohaaGreatDoorSBox
import Derived.Great.BuildSlice
set_option linter.unusedVariables false
set_option linter.unusedSimpArgs false
set_option maxRecDepth 100000
set_option maxHeartbeats 8000000
namespace Go.Proofs.YtnfbkimkdnbohaaGreatDoor
open Go.RowKit
structure RNote where
 kind:Int
 key:List UInt8
 b:List UInt8
 out:List UInt8
def RNote.cells (n:RNote):List Value:=.int .i64 n.kind :: (n.key.map cellOf ++ [.int .i64 0,.string ⟨#[]⟩,.string ⟨n.b.toArray⟩,.string ⟨n.out.toArray⟩])
theorem RNote.cells_length (n:RNote) (h:n.key.length=32):n.cells.length=37:=by simp [RNote.cells,h]
def lookR (kind:Int) (key b:List UInt8):List RNote->Option (List UInt8)
 | []=>none
 | n :: l=>if n.kind=kind/\n.key=key/\n.b=b then some n.out else lookR kind key b l
theorem lookR_app (kind:Int) (key b:List UInt8) (n:RNote):∀ (l:List RNote),lookR kind key b (l ++ [n])=(lookR kind key b l).or (if n.kind=kind/\n.key=key/\n.b=b then some n.out else none)
 | []=>by simp [lookR]
 | m :: l=>by
  rw [List.cons_append,lookR,lookR,lookR_app kind key b n l]
  split <;> simp
def GoodR (l:List RNote):Prop:=∀ n ∈ l,n.key.length=32/\n.out.length=32
theorem flat_length {l:List RNote} (h:GoodR l):(l.flatMap RNote.cells).length=l.length * 37:=by
 induction l with
 | nil=>rfl
 | cons n l ih =>
  rw [List.flatMap_cons,List.length_append,ih (fun m hm=>h m (by simp [hm])),RNote.cells_length n (h n (by simp)).1,List.length_cons]
  omega
structure RefAt (w:World) (B g:Nat) (s:Int) (a:Nat) (l:List RNote) (v:Value):Prop where
 blk:Blk w g 66 [.int .i64 1,.int .i64 s,.int .i64 (a:Int),v]
 own:w.ownsRow B 92 37 v l.length (l.flatMap RNote.cells)
 good:GoodR l
 lo:-9223372036854775808<=s
 hi:s<=9223372036854775807
theorem RefAt.apart {w:World} {B g:Nat} {s:Int} {a:Nat} {l:List RNote} {v:Value} (h:RefAt w B g s a l v):some g ≠ v.ownBlock:=blk_apart h.blk h.own (by decide)
theorem RefAt.keep {w w':World} {B g:Nat} {s:Int} {a:Nat} {l:List RNote} {v:Value} (h:RefAt w B g s a l v) (hs:w.heap.size<=w'.heap.size) (hg:w'.heap[g]?=w.heap[g]?) (hv:∀ q,v.ownBlock=some q->w'.heap[q]?=w.heap[q]?):RefAt w' B g s a l v:=by
 refine ⟨hg.trans h.blk,⟨h.own.1,?_⟩,h.good,h.lo,h.hi⟩
 rcases h.own.2 with h1 | ⟨q,cap,cur,e,h1,h2,h3⟩
 ·exact .inl h1
 ·exact .inr ⟨q,cap,cur,e,h1,(hv q (by rw [e]; rfl)).trans h2,h3⟩
theorem RefAt.below {w w':World} {B g:Nat} {s:Int} {a:Nat} {l:List RNote} {v:Value} (h:RefAt w B g s a l v) (hb:Below w.heap.size w w'):RefAt w' B g s a l v :=
 h.keep hb.size (hb.block g h.blk.lt) fun q hq=>hb.block q (World.ownsRow.lt h.own q hq).2
theorem infoNt:(Tryz.prog.info? 92).map (·.size)=some 37:=by kernel_rfl
theorem index_note (b off n c k:Nat) (h:k < n) (W:World):(Instr.indexAt 64 (.slice (some ⟨b,off,none⟩) n c) (.int .i64 (k:Int))).run Tryz.prog W = .ok (.pointer (some ⟨b,off + k * 37,none⟩)) W:=by
 obtain ⟨i0,hi,hsz⟩:∃ i0,Tryz.prog.info? 92=some i0/\i0.size=37:=by
  have:=infoNt
  cases hh:Tryz.prog.info? 92 with
  | none=>rw [hh] at this; cases this
  | some i0=>rw [hh] at this; exact ⟨i0,rfl,by simpa using this⟩
 have hel:Tryz.prog.elem 64=92:=by kernel_rfl
 rw [run_indexAt_slice (P:=Tryz.prog) W 64 ⟨b,off,none⟩ n c .i64 (k:Int) (by rw [hel]; exact Tryz.underlying64),if_pos ⟨by omega,by omega⟩,hel]
 simp [sizeOf,typeInfo,hi,hsz,add_plain]
open Go.RowKit
def zeroNote:RNote:=⟨0,zero32,[],[]⟩
theorem zeroNote_cells:zeroNote.cells.length=37:=RNote.cells_length _ (by simp [zeroNote,zero32])
theorem infoNote:(Tryz.prog.info? 92).map (fun i=>(i.zero,i.size,i.bytes))=some (some (.agg zeroNote.cells.toArray),37,96):=by kernel_rfl
theorem noteFill {kc:List Value} (h:kc.length=32) (x0 x1 x2 x3 x4:Value):Instr.fill (fun i=>some (i * 37,37)) ((Array.range (1 * 37)).map ((Value.agg zeroNote.cells.toArray).cells[· % (Value.agg zeroNote.cells.toArray).cells.size]!)) [(0,.agg (x0 :: (kc ++ [x1,x2,x3,x4])).toArray)]=some (x0 :: (kc ++ [x1,x2,x3,x4])).toArray:=by
 obtain ⟨a0,a1,a2,a3,a4,a5,a6,a7,a8,a9,a10,a11,a12,a13,a14,a15,a16,a17,a18,a19,a20,a21,a22,a23,a24,a25,a26,a27,a28,a29,a30,a31,rfl⟩:=list32 h
 kernel_rfl
theorem noteApp {wr:World} {B:Nat} {v:Value} {n:Nat} {xs:List Value} (hown:wr.ownsRow B 92 37 v n xs) (ty:TypeId) {gq:Nat} {nc:List Value} (hb:Blk wr gq 92 nc) (hl0:nc.length=37) (h1:∀ u ∈ nc,u.oneCell'=true) (hn:n<=1000) (hB:B<=wr.heap.size) :
  ∃ v' w',(Builtin.append_ #[64,64] ty #[v,.slice (some ⟨gq,0,none⟩) 1 1]).run Tryz.prog wr = .ok v' w'/\w'.ownsRow B 92 37 v' (n + 1) (xs ++ nc)/\wr.grownBy w' v.ownBlock/\Lies wr v v':=by
 obtain ⟨i0,hi,hz0,hz1,hz2⟩:=info_parts infoNote
 have hl:nc.length=1 * i0.size:=by rw [hz1,hl0]
 have hnews:∀ j u,nc[j]?=some u->wr.cell? ((⟨gq,0,none⟩:Addr).add j)=some u:=fun j u hu=>by rw [add_plain]; exact hb.cells j u hu
 have hown':wr.ownsRow B 92 i0.size v n xs:=by rw [hz1]; exact hown
 have h63:n + 1<=maxLen:=by unfold maxLen; omega
 obtain ⟨v',w',hrun,h2,h3,h4⟩:=run_append_own (P:=Tryz.prog) wr B 64 ty 92 i0 (.agg zeroNote.cells.toArray) i0.size i0.bytes Tryz.underlying64 hi hz0 rfl rfl (by rw [hz1]; exact zeroNote_cells) (by rw [hz1]; omega) v n xs hown' ⟨gq,0,none⟩ 1 1 nc hl hnews h1 h63 (by rw [hz2]; omega) hB
 refine ⟨v',w',hrun,by rw [hz1] at h2; exact h2,h3,?_⟩
 rcases hown'.2 with ⟨rfl,hl1⟩ | ⟨g,cap,cur,rfl,hbg,hg,hnc,hcm,hcs,htake⟩
 ·have hr2:=run_append_nil (P:=Tryz.prog) wr 64 ty 92 i0 (.agg zeroNote.cells.toArray) Tryz.underlying64 hi hz0 ⟨gq,0,none⟩ 1 1 nc hl hnews (by omega) (by omega) (by rw [hz2]; omega)
  rw [hrun] at hr2
  injection hr2 with e1 e2
  subst e1
  exact .inr ⟨wr.heap.size,rfl,Nat.le_refl _⟩
 ·by_cases hroom:n + 1<=cap
  ·have hfit:n * i0.size + nc.length<=cur.size:=by rw [hl,hcs,<- Nat.add_mul]; exact Nat.mul_le_mul_right _ hroom
   have hr2:=run_append_room (P:=Tryz.prog) wr 64 ty 92 i0 Tryz.underlying64 hi g n cap cur hg ⟨gq,0,none⟩ 1 1 nc hl hnews h1 hroom hfit
   rw [hrun] at hr2
   injection hr2 with e1 e2
   subst e1
   exact .inl rfl
  ·have hr2:=run_append_grow (P:=Tryz.prog) wr 64 ty 92 i0 (.agg zeroNote.cells.toArray) Tryz.underlying64 hi hz0 ⟨g,0,none⟩ n cap xs hown'.1 (World.ownsRow.cells hown' (g:=g) rfl) ⟨gq,0,none⟩ 1 1 nc hl hnews (by omega) (by omega) (growslice_fits (by omega) (by rw [hz2]; omega))
   rw [hrun] at hr2
   injection hr2 with e1 e2
   subst e1
   exact .inr ⟨wr.heap.size,rfl,Nat.le_refl _⟩
theorem step_bslice {P:Program} {ops:Array Oper} {op:Oper} {a:Act} {w w':World} {v:Value} {K:Act->World->Prop} {Q:Exit->Act->World->Prop} {E:Prop} (hgd:Region.wanted op (yielded ops a.tmps)=true) (t:TypeId) (n:Nat) (parts:Array (Nat × Operand)) (ho:op.op = .buildSlice t n parts)
  (hr:(Instr.buildSlice t n (parts.map fun (i,x)=>(i,a.eval x))).run P w = .ok v w') (hk:K (a.put op.dst v) w'):if Region.wanted op (yielded ops a.tmps)=true then op.wp P a w K Q else E:=by
 rw [if_pos hgd]
 unfold Oper.wp execOp
 simp only [ho,hr,Sem.run_bind,Sem.run_pure,Result.andThen_ok]
 exact hk
theorem step_append {ops:Array Oper} {o:Oper} {a:Act} {K:Act->World->Prop} {Q:Exit->Act->World->Prop} {E:Prop} {w w':World} {x y v:Value} {t:TypeId} (hgd:Region.wanted o (yielded ops a.tmps)=true) (s z:Operand)
  (ho:o.op = .call { callee:=.builtin .append,args:=#[s,z],argTypes:=#[t,t] }) (hs:a.eval s=x) (hz:a.eval z=y) (hrun:(Builtin.append_ #[t,t] o.type #[x,y]).run Tryz.prog w = .ok v w') (h:K (a.put o.dst v) w'):if Region.wanted o (yielded ops a.tmps)=true then o.wp Tryz.prog a w K Q else E:=by
 rw [if_pos hgd]
 unfold Oper.wp execOp
 simp only [ho,resolve,invoke,builtin,Sem.run_bind,Sem.run_pure,Result.andThen_ok,List.map_toArray,List.map_cons,List.map_nil,hs,hz,hrun]
 exact h
theorem load_wanted {P:Program} {ops:Array Oper} {rest:List Oper} {o:Oper} {a:Act} {w:World} {Q:Exit->Act->World->Prop} (hgd:Region.wanted o (yielded ops a.tmps)=true) (ty:TypeId) (x:Operand) (ho:o.op = .load ty x)
  (b off:Nat) (hx:a.eval x = .pointer (some ⟨b,off,none⟩)) (l:List Value) (d:TypeDesc) (hu:P.underlying ty=some d) (hd:(match d with | .struct _ | .array _ _=>true | _=>false)=true)
  (hi:(P.info? ty).map (·.size)=some l.length) (h:∀ j v,l[j]?=some v->w.cell? ⟨b,off + j,none⟩=some v)
  (hk:wpList P ops Q rest (a.put o.dst (.agg l.toArray)) w):wpList P ops Q (o :: rest) a w:=by
 refine wpList_step fun K hK=>?_
 rw [if_pos hgd]
 unfold Oper.wp execOp
 simp only [ho,hx,Instr.loadAt,Instr.sureAddr,Sem.run_bind,Sem.run_pure,Result.andThen_ok,run_loadVar_list w ty b off l d hu hd hi h]
 exact hK _ _ hk
open Go.RowKit
def Alike (l:List RNote) (B L:List Bx.BNote):Prop:=∀ key b,lookR 1 key b l=Bx.lookB key b B/\lookR 2 key b l=Bx.lookB key b L
theorem Alike.nil:Alike [] [] []:=fun _ _=>⟨rfl,rfl⟩
theorem Alike.mark {l:List RNote} {B L:List Bx.BNote} (h:Alike l B L) (key b out:List UInt8):Alike (l ++ [⟨1,key,b,out⟩]) (B ++ [⟨key,b,out⟩]) L:=fun k x=>by
 obtain ⟨h1,h2⟩:=h k x
 refine ⟨by rw [lookR_app,lookB_app,h1]; simp,?_⟩
 rw [lookR_app,h2]
 simp
end Go.Proofs.YtnfbkimkdnbohaaGreatDoor
