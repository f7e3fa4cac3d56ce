import Derived.DeepKeys4
import Derived.ChangeMaps5
import Derived.MapFrom
import Derived.Test.YtajgjeialbgijaaDoorSGrow
import Derived.Test.YtajgjeialbgijaaDoorSBk
import Derived.Lib.BufferWrite
import Derived.Lib.UnsafeStr
import Derived.Test.YtajgjeialbgijaaDoorSPhase
import Derived.Laws.IdiomStrings
namespace Go.Proofs.YtajgjeialbgijaaDoor
set_option linter.unusedVariables false
set_option linter.unusedSimpArgs false
set_option maxRecDepth 100000
open Go.RowKit
theorem mapM_all {α β:Type} {f:α->Option β}:∀ (l:List α),(∀ x ∈ l,∃ y,f x=some y)->∃ ys,l.mapM f=some ys
 | [],_=>⟨[],rfl⟩
 | x :: l,h=>by
  obtain ⟨y,hy⟩:=h x (by simp)
  obtain ⟨ys,hys⟩:=mapM_all l (fun z hz=>h z (by simp [hz]))
  exact ⟨y :: ys,by simp [List.mapM_cons,hy,hys]⟩
def mkKey (key b:List UInt8):Value:=.agg (key.map cellOf ++ [Value.string ⟨b.toArray⟩]).toArray
def lkKey (key:List UInt8) (num:Int) (ad c:List UInt8):Value:=.agg (key.map cellOf ++ [Value.int .i64 num,.string ⟨ad.toArray⟩,.string ⟨c.toArray⟩]).toArray
theorem str_inj {a b:List UInt8} (h:(⟨a.toArray⟩:ByteArray)=⟨b.toArray⟩):a=b:=by
 injection h with h
 simpa using h
theorem cells_inj {a b:List UInt8} (h:a.map cellOf=b.map cellOf):a=b:=by
 have:∀ (a b:List UInt8),a.map cellOf=b.map cellOf->a=b:=by
  intro a
  induction a with
  | nil=>intro b h; cases b with | nil=>rfl | cons _ _=>simp at h
  | cons x a ih =>
   intro b h
   cases b with
   | nil=>simp at h
   | cons y b =>
    simp only [List.map_cons,List.cons.injEq] at h
    have e:x=y:=by
     have h1:=h.1
     unfold cellOf at h1
     injection h1 with _ h1
     exact UInt8.toNat_inj.1 (by omega)
    rw [e,ih b h.2]
 exact this a b h
theorem mkKey_inj {k k' b b':List UInt8} (hk:k.length=32) (hk':k'.length=32) (h:mkKey k b=mkKey k' b'):k=k'/\b=b':=by
 unfold mkKey at h
 injection h with h
 have h:=congrArg Array.toList h
 simp only at h
 obtain ⟨h1,h2⟩:=List.append_inj h (by simp [hk,hk'])
 simp only [List.cons.injEq,and_true] at h2
 injection h2 with h2
 exact ⟨cells_inj h1,str_inj h2⟩
theorem lkKey_inj {k k' ad ad' c c':List UInt8} {n n':Int} (hk:k.length=32) (hk':k'.length=32) (h:lkKey k n ad c=lkKey k' n' ad' c'):k=k'/\n=n'/\ad=ad'/\c=c':=by
 unfold lkKey at h
 injection h with h
 have h:=congrArg Array.toList h
 simp only at h
 obtain ⟨h1,h2⟩:=List.append_inj h (by simp [hk,hk'])
 simp only [List.cons.injEq,and_true] at h2
 obtain ⟨h2,h3,h4⟩:=h2
 injection h2 with _ h2
 injection h3 with h3
 injection h4 with h4
 exact ⟨cells_inj h1,h2,str_inj h3,str_inj h4⟩
theorem c34_:Tryd.prog.cellsOf 27=32:=by kernel_rfl
theorem c9_:Tryd.prog.cellsOf 9=1:=by kernel_rfl
theorem c2_:Tryd.prog.cellsOf 2=1:=by kernel_rfl
theorem cM_:Tryd.prog.cellsOf 77=33:=by kernel_rfl
theorem cL_:Tryd.prog.cellsOf 126=35:=by kernel_rfl
theorem lits5 (D:Nat) (x:UInt8):∃ ls,Tryd.prog.keyLits (D + 1) 5 [cellOf x]=some ls:=by
 refine ⟨[.int .u8 x.toNat],?_⟩
 have hw:(Lit.int .u8 (x.toNat:Int)).wf=true:=by
  have:=x.toNat_lt
  have e1:IntKind.u8.min=0:=by decide
  have e2:IntKind.u8.max=255:=by decide
  simp [Lit.wf,e1,e2]
  omega
 unfold Program.keyLits
 simp [Tryd.underlying5,cellOf,hw]
theorem lits34 (D:Nat) (l:List UInt8) (hl:l.length=32):∃ ls,Tryd.prog.keyLits (D + 2) 27 (l.map cellOf)=some ls:=by
 obtain ⟨ys,hys⟩:=mapM_all (f:=fun i=>Tryd.prog.keyLits (D + 1) 5 (((l.map cellOf).drop (i * Tryd.prog.cellsOf 5)).take (Tryd.prog.cellsOf 5))) (List.range 32) (fun i hi=>by
  have hi':i < (l.map cellOf).length:=by have:=List.mem_range.1 hi; simp; omega
  obtain ⟨ls,h⟩:=lits5 D (l[i]'(by simpa using hi'))
  refine ⟨ls,?_⟩
  simp only [c5,Nat.mul_one]
  rw [List.drop_eq_getElem_cons hi']
  simpa using h)
 refine ⟨ys.flatten,?_⟩
 unfold Program.keyLits
 simp only [Tryd.underlying27,List.length_map,hl,c34_,if_true,hys,Option.map_some]
theorem lits9 (D:Nat) (b:List UInt8) (hb:b.length<=maxLen):∃ ls,Tryd.prog.keyLits (D + 1) 9 [.string ⟨b.toArray⟩]=some ls:=by
 have hs:((⟨b.toArray⟩:ByteArray).size<=maxLen):=by
  show b.toArray.size<=maxLen
  simpa using hb
 unfold Program.keyLits
 simp [Tryd.underlying9,hs]
theorem lits2 (D:Nat) (n:Int) (h1:-9223372036854775808<=n) (h2:n<=9223372036854775807):∃ ls,Tryd.prog.keyLits (D + 1) 2 [.int .i64 n]=some ls:=by
 have hw:(Lit.int .i64 n).wf=true:=by
  have e1:IntKind.i64.min=-9223372036854775808:=by decide
  have e2:IntKind.i64.max=9223372036854775807:=by decide
  simp [Lit.wf,e1,e2]
  omega
 unfold Program.keyLits
 simp [Tryd.underlying2,hw]
theorem types_many:∃ D,Tryd.prog.types.size + 1=D + 3:=by
 have:2<=Tryd.prog.types.size:=of_decide_eq_true (by kernel_rfl)
 exact ⟨Tryd.prog.types.size - 2,by omega⟩
theorem keyM {key b:List UInt8} (hk:key.length=32) (hb:b.length<=maxLen):∃ l,keyOf Tryd.prog 77 (mkKey key b)=some l:=by
 have hT:Tryd.prog.keyType 77=true:=by kernel_rfl
 have hF:(mkKey key b).formed Tryd.prog 77=true:=by simp [mkKey,Value.formed,Tryd.underlying77,cM_,hk]
 obtain ⟨ls,h⟩:∃ ls,Tryd.prog.keyLits (Tryd.prog.types.size + 1) 77 (key.map cellOf ++ [Value.string ⟨b.toArray⟩])=some ls:=by
  obtain ⟨D,hD⟩:=types_many
  rw [hD]
  obtain ⟨l1,h1⟩:=lits34 D key hk
  obtain ⟨l2,h2⟩:=lits9 (D + 1) b hb
  have e1:((key.map cellOf ++ [Value.string ⟨b.toArray⟩]).drop 0).take 32=key.map cellOf:=by rw [List.drop_zero,List.take_append_of_le_length (by simp [hk])]; exact List.take_of_length_le (by simp [hk])
  have e2:((key.map cellOf ++ [Value.string ⟨b.toArray⟩]).drop 32).take 1=[Value.string ⟨b.toArray⟩]:=by rw [List.drop_left' (by simp [hk])]; rfl
  refine ⟨[l1,l2].flatten,?_⟩
  unfold Program.keyLits
  simp only [Tryd.underlying77,List.length_append,List.length_map,hk,List.length_cons,List.length_nil,cM_]
  simp [List.mapM_cons,e1,e2,c34_,c9_,h1,h2,-List.drop_zero]
 exact ⟨_,by simp only [keyOf,Tryd.underlying77,hT,hF,Bool.and_true,if_true]; show Option.map _ (Tryd.prog.keyLits _ _ (key.map cellOf ++ [Value.string ⟨b.toArray⟩]))=_; rw [h]; rfl⟩
theorem keyL {key ad c:List UInt8} {num:Int} (hk:key.length=32) (h1:-9223372036854775808<=num) (h2:num<=9223372036854775807) (ha:ad.length<=maxLen) (hc:c.length<=maxLen):∃ l,keyOf Tryd.prog 126 (lkKey key num ad c)=some l:=by
 have hT:Tryd.prog.keyType 126=true:=by kernel_rfl
 have hF:(lkKey key num ad c).formed Tryd.prog 126=true:=by simp [lkKey,Value.formed,Tryd.underlying126,cL_,hk]
 obtain ⟨cs,hcs⟩:∃ cs,cs=key.map cellOf ++ [Value.int .i64 num,.string ⟨ad.toArray⟩,.string ⟨c.toArray⟩]:=⟨_,rfl⟩
 have hl:cs.length=35:=by rw [hcs]; simp [hk]
 obtain ⟨ls,h⟩:∃ ls,Tryd.prog.keyLits (Tryd.prog.types.size + 1) 126 cs=some ls:=by
  obtain ⟨D,hD⟩:=types_many
  rw [hD]
  obtain ⟨l1,g1⟩:=lits34 D key hk
  obtain ⟨l2,g2⟩:=lits2 (D + 1) num h1 h2
  obtain ⟨l3,g3⟩:=lits9 (D + 1) ad ha
  obtain ⟨l4,g4⟩:=lits9 (D + 1) c hc
  have e1:(cs.drop 0).take 32=key.map cellOf:=by rw [hcs,List.drop_zero,List.take_append_of_le_length (by simp [hk])]; exact List.take_of_length_le (by simp [hk])
  have e2:(cs.drop 32).take 1=[Value.int .i64 num]:=by rw [hcs,List.drop_left' (by simp [hk])]; rfl
  have e3:(cs.drop 33).take 1=[Value.string ⟨ad.toArray⟩]:=by rw [hcs,show 33=32 + 1 from rfl,<- List.drop_drop,List.drop_left' (by simp [hk])]; rfl
  have e4:(cs.drop 34).take 1=[Value.string ⟨c.toArray⟩]:=by rw [hcs,show 34=32 + 2 from rfl,<- List.drop_drop,List.drop_left' (by simp [hk])]; rfl
  refine ⟨[l1,l2,l3,l4].flatten,?_⟩
  clear hcs
  unfold Program.keyLits
  simp only [Tryd.underlying126,hl,cL_]
  simp [List.mapM_cons,e1,e2,e3,e4,c34_,c9_,c2_,g1,g2,g3,g4,-List.drop_zero]
 exact ⟨_,by simp only [keyOf,Tryd.underlying126,hT,hF,Bool.and_true,if_true]; show Option.map _ (Tryd.prog.keyLits _ _ (key.map cellOf ++ [Value.int .i64 num,.string ⟨ad.toArray⟩,.string ⟨c.toArray⟩]))=_; rw [<- hcs,h]; rfl⟩
theorem mapsLaid:laidOutB Tryd.prog=true:=by kernel_rfl
theorem lawM:WideMaps.KeyLaw Tryd.prog 77:=deep_law_laid mapsLaid (m:=4) (by omega) (of_decide_eq_true (by kernel_rfl)) (by kernel_rfl) (by rw [Tryd.underlying77])
theorem lawL:WideMaps.KeyLaw Tryd.prog 126:=deep_law_laid mapsLaid (m:=4) (by omega) (of_decide_eq_true (by kernel_rfl)) (by kernel_rfl) (by rw [Tryd.underlying126])
structure MapIs (k:TypeId) (w:World) (r:Nat) (E:List (Value × Value)):Prop where
 at_:∃ es clock,w.heap[r]?=some (.map es clock)/\es.toList.map (fun e=>(e.key,e.val))=E
 keys:∀ p ∈ E,∃ l,keyOf Tryd.prog k p.1=some l
 once:(E.map (·.1)).Nodup
theorem MapIs.lt {k:TypeId} {w:World} {r:Nat} {E:List (Value × Value)} (h:MapIs k w r E):r < w.heap.size:=by
 obtain ⟨es,clock,he,_⟩:=h.at_
 exact (Array.getElem?_eq_some_iff.1 he).1
theorem MapIs.keep {k:TypeId} {w w':World} {r:Nat} {E:List (Value × Value)} (h:MapIs k w r E) (hb:w'.heap[r]?=w.heap[r]?):MapIs k w' r E:=by
 obtain ⟨es,clock,he,hE⟩:=h.at_
 exact ⟨⟨es,clock,hb.trans he,hE⟩,h.keys,h.once⟩
theorem MapIs.new {k:TypeId} (w:World):MapIs k (w.alloc (.map #[] 0)) w.heap.size [] :=
 ⟨⟨#[],0,heap_alloc_new w _,rfl⟩,fun p hp=>by simp at hp,List.nodup_nil⟩
theorem MapIs.look {k t e:TypeId} {w:World} {r:Nat} {E:List (Value × Value)} (K:WideMaps.KeyLaw Tryd.prog k) (h:MapIs k w r E) (ht:Tryd.prog.underlying t=some (.map k e)) {z:Value} (hz:(zeroValue e).run Tryd.prog w = .ok z w) {x:Value} (hx:∃ l,keyOf Tryd.prog k x=some l) :
  ((Instr.lookup t (.map (some r)) x true).run Tryd.prog w = .ok (.tuple #[z,.bool false]) w/\∀ v,(x,v) ∉ E) ∨ ∃ v,(Instr.lookup t (.map (some r)) x true).run Tryd.prog w = .ok (.tuple #[v,.bool true]) w/\(x,v) ∈ E:=by
 obtain ⟨es,clock,hb,hE⟩:=h.at_
 obtain ⟨kl,hkey⟩:=hx
 have hks:∀ e ∈ es.toList,∃ l,keyOf Tryd.prog k e.key=some l:=fun e he=>h.keys (e.key,e.val) (by rw [<- hE]; exact List.mem_map.2 ⟨e,he,rfl⟩)
 rcases K.find w hkey es.toList hks with ⟨h1,h2⟩ | ⟨j,e0,h1,h2,h3⟩
 ·refine Or.inl ⟨by simp [Instr.lookup,run_underlying ht,MapKept.run_getObj_map hb,K.check w _ hkey,h1,hz,Result.andThen],fun v hv=>?_⟩
  rw [<- hE] at hv
  obtain ⟨e,he,eq⟩:=List.mem_map.1 hv
  injection eq with e1 e2
  exact h2 e he e1
 ·refine Or.inr ⟨e0.val,by simp [Instr.lookup,run_underlying ht,MapKept.run_getObj_map hb,K.check w _ hkey,h1,Result.andThen],?_⟩
  rw [<- hE]
  exact List.mem_map.2 ⟨e0,List.mem_of_getElem? h2,by rw [h3]⟩
theorem MapIs.put {k t e:TypeId} {w:World} {r:Nat} {E:List (Value × Value)} (K:WideMaps.KeyLaw Tryd.prog k) (h:MapIs k w r E) (ht:Tryd.prog.underlying t=some (.map k e)) {x:Value} (hx:∃ l,keyOf Tryd.prog k x=some l) (v:Value) :
  ∃ w' E',(Instr.mapUpdate t (.map (some r)) x v).run Tryd.prog w = .ok () w'/\MapIs k w' r E'/\(∀ p,p ∈ E' ↔ p=(x,v) ∨ (p ∈ E/\p.1 ≠ x))/\w'.os=w.os/\w'.tape=w.tape/\w'.output=w.output/\w'.heap.size=w.heap.size/\∀ i:Nat,i ≠ r->w'.heap[i]?=w.heap[i]?:=by
 obtain ⟨es,clock,hb,hE⟩:=h.at_
 obtain ⟨kl,hkey⟩:=hx
 have hks:∀ e ∈ es.toList,∃ l,keyOf Tryd.prog k e.key=some l:=fun e he=>h.keys (e.key,e.val) (by rw [<- hE]; exact List.mem_map.2 ⟨e,he,rfl⟩)
 rcases K.find w hkey es.toList hks with ⟨h1,h2⟩ | ⟨j,e0,h1,h2,h3⟩
 ·have hno:∀ p ∈ E,p.1 ≠ x:=fun p hp=>by
   rw [<- hE] at hp
   obtain ⟨e,he,rfl⟩:=List.mem_map.1 hp
   exact h2 e he
  refine ⟨ChangeMaps.setBlock w r (.map (es.push ⟨x,v,clock⟩) (clock + 1)),E ++ [(x,v)],?_,⟨⟨_,_,ChangeMaps.heap_setBlock_same hb _,?_⟩,?_,?_⟩,?_,rfl,rfl,rfl,by simp [ChangeMaps.setBlock],fun i hi=>ChangeMaps.heap_setBlock_other hb _ hi⟩
  ·simp [Instr.mapUpdate,run_underlying ht,MapKept.run_getObj_map hb,K.check w false hkey,h1,MapKept.run_setObj_map _ hb,Result.andThen,ChangeMaps.setBlock]
  ·simp [hE]
  ·intro p hp
   rcases List.mem_append.1 hp with hp | hp
   ·exact h.keys p hp
   ·simp at hp; subst hp; exact ⟨kl,hkey⟩
  ·rw [List.map_append,List.nodup_append]
   refine ⟨h.once,by simp,fun a ha b hb'=>?_⟩
   obtain ⟨p,hp,rfl⟩:=List.mem_map.1 ha
   simp at hb'
   subst hb'
   exact hno p hp
  ·intro p
   rw [List.mem_append,List.mem_singleton]
   constructor
   ·rintro (hp | hp)
    ·exact .inr ⟨hp,hno p hp⟩
    ·exact .inl hp
   ·rintro (hp | hp)
    ·exact .inr hp
    ·exact .inl hp.1
 ·have hj:es[j]?=some e0:=by simpa using h2
  have hjl:j < es.toList.length:=(List.getElem?_eq_some_iff.1 h2).1
  have hEj:E[j]?=some (x,e0.val):=by rw [<- hE,List.getElem?_map,h2]; simp [h3]
  have hjE:j < E.length:=(List.getElem?_eq_some_iff.1 hEj).1
  have hset:(es.modify j (fun e'=>{ e' with key:=x,val:=v })).toList.map (fun e=>(e.key,e.val))=E.set j (x,v):=by
   rw [Array.toList_modify,ChangeMaps.modify_eq_set _ _ _ _ h2,List.map_set,hE]
  have hks':(E.set j (x,v)).map (·.1)=E.map (·.1):=by
   rw [List.map_set]
   apply List.ext_getElem?
   intro i
   rw [List.getElem?_set]
   by_cases hij:j=i
   ·subst hij
    rw [if_pos rfl,if_pos (by simpa using hjE),List.getElem?_map,hEj]
    rfl
   ·simp [hij]
  refine ⟨ChangeMaps.setBlock w r (.map (es.modify j (fun e'=>{ e' with key:=x,val:=v })) clock),E.set j (x,v),?_,⟨⟨_,_,ChangeMaps.heap_setBlock_same hb _,hset⟩,?_,by rw [hks']; exact h.once⟩,?_,rfl,rfl,rfl,by simp [ChangeMaps.setBlock],fun i hi=>ChangeMaps.heap_setBlock_other hb _ hi⟩
  ·simp [Instr.mapUpdate,run_underlying ht,MapKept.run_getObj_map hb,K.check w false hkey,h1,hj,h3,K.stays w hkey,MapKept.run_setObj_map _ hb,Result.andThen,ChangeMaps.setBlock]
  ·intro p hp
   rcases List.mem_or_eq_of_mem_set hp with hp | rfl
   ·exact h.keys p hp
   ·exact ⟨kl,hkey⟩
  ·intro p
   have huniq:∀ i q,E[i]?=some q->q.1=x->i=j:=fun i q hq hqx=>by
    have n1:(E.map (·.1))[i]?=some x:=by rw [List.getElem?_map,hq]; simp [hqx]
    have n2:(E.map (·.1))[j]?=some x:=by rw [List.getElem?_map,hEj]; rfl
    have hi:i < (E.map (·.1)).length:=(List.getElem?_eq_some_iff.1 n1).1
    exact (List.getElem?_inj hi h.once).1 (n1.trans n2.symm)
   constructor
   ·intro hp
    obtain ⟨i,hi⟩:=List.mem_iff_getElem?.1 hp
    rw [List.getElem?_set] at hi
    by_cases hij:j=i
    ·rw [if_pos hij,if_pos (by omega)] at hi
     exact .inl (Option.some.inj hi).symm
    ·rw [if_neg hij] at hi
     refine .inr ⟨List.mem_iff_getElem?.2 ⟨i,hi⟩,fun hpx=>hij (huniq i p hi hpx).symm⟩
   ·rintro (rfl | ⟨hp,hpx⟩)
    ·exact List.mem_iff_getElem?.2 ⟨j,by rw [List.getElem?_set]; simp [hjE]⟩
    ·obtain ⟨i,hi⟩:=List.mem_iff_getElem?.1 hp
     refine List.mem_iff_getElem?.2 ⟨i,?_⟩
     rw [List.getElem?_set,if_neg (fun e=>?_)]
     ·exact hi
     ·subst e
      rw [hEj] at hi
      exact hpx (by rw [<- Option.some.inj hi])
end Go.Proofs.YtajgjeialbgijaaDoor
namespace Go.Proofs.YtajgjeialbgijaaDoor
set_option linter.unusedVariables false
set_option linter.unusedSimpArgs false
set_option maxRecDepth 100000
open Go.RowKit
structure SRel (w:World) (M X:Nat->Prop) (E:List (Value × Value)) (S:List Bx.SNote):Prop where
 of:∀ p ∈ E,∃ key num ad c b A n cp,List.length key=32/\p=(lkKey key num ad c,Value.slice A n cp)/\Rd w A n cp b/\n<=3000/\Bx.lookS key num ad c S=some b/\∀ x:Addr,A=some x->0 < n->M x.block/\¬ X x.block
 is:∀ key num ad c,List.length key=32->Bx.lookS key num ad c S ≠ none->∃ v,(lkKey key num ad c,v) ∈ E
structure BRel (E:List (Value × Value)) (B:List Bx.BNote):Prop where
 of:∀ p ∈ E,∃ key b h,List.length key=32/\p=(mkKey key b,Value.agg (List.map cellOf h).toArray)/\Bx.lookB key b B=some h
 is:∀ key b,List.length key=32->Bx.lookB key b B ≠ none->∃ v,(mkKey key b,v) ∈ E
def Six (g k t r1 r2 r3:Nat) (x:Nat):Prop:=x=g ∨ x=k ∨ x=t ∨ x=r1 ∨ x=r2 ∨ x=r3
structure BxJ (w:World) (g k t r1 r2 r3:Nat) (s:Int) (a:Nat) (S:List Bx.SNote) (B L:List Bx.BNote) (ES EB EL:List (Value × Value)) (M:Nat->Prop):Prop where
 bg:Blk w g 66 [.pointer (some ⟨k,0,none⟩)]
 bk:Blk w k 75 [.pointer (some ⟨t,0,none⟩),.map (some r1),.map (some r2),.map (some r3)]
 tp:TapeAt w t s a
 mS:MapIs 126 w r1 ES
 mB:MapIs 77 w r2 EB
 mL:MapIs 77 w r3 EL
 sS:SRel w M (Six g k t r1 r2 r3) ES S
 sB:BRel EB B
 sL:BRel EL L
 gB:Bx.Good B
 gL:Bx.Good L
 ne:g ≠ k/\g ≠ t/\g ≠ r1/\g ≠ r2/\g ≠ r3/\k ≠ t/\k ≠ r1/\k ≠ r2/\k ≠ r3/\t ≠ r1/\t ≠ r2/\t ≠ r3/\r1 ≠ r2/\r1 ≠ r3/\r2 ≠ r3
 mem:∀ x,Six g k t r1 r2 r3 x->M x
 lt:∀ b,M b->b < w.heap.size
def BxAt:BxP:=fun w g st M =>
 match st.kind with
 | false=>Blk w g 66 [.pointer none]/\∀ b,M b ↔ b=g
 | true=>∃ k t r1 r2 r3 ES EB EL,BxJ w g k t r1 r2 r3 st.seed st.place st.notes st.marks st.labels ES EB EL M
theorem SRel.keep {w w':World} {M X:Nat->Prop} {E:List (Value × Value)} {S:List Bx.SNote} (h:SRel w M X E S) (hs:w.heap.size<=w'.heap.size) (hb:∀ b,M b->¬ X b->w'.heap[b]?=w.heap[b]?):SRel w' M X E S :=
 ⟨fun p hp=>by
  obtain ⟨key,num,ad,c,b,A,n,cp,h1,h2,h3,h30,h4,h5⟩:=h.of p hp
  exact ⟨key,num,ad,c,b,A,n,cp,h1,h2,h3.keep hs fun b off e h0 _=>by have:=h5 _ e h0; exact hb _ this.1 this.2,h30,h4,h5⟩,h.is⟩
theorem BxJ.keep {w w':World} {g k t r1 r2 r3:Nat} {s:Int} {a:Nat} {S:List Bx.SNote} {B L:List Bx.BNote} {ES EB EL:List (Value × Value)} {M:Nat->Prop} (h:BxJ w g k t r1 r2 r3 s a S B L ES EB EL M) (hs:w.heap.size<=w'.heap.size) (hb:∀ b,M b->w'.heap[b]?=w.heap[b]?):BxJ w' g k t r1 r2 r3 s a S B L ES EB EL M where
 bg:=(hb g (h.mem g (.inl rfl))).trans h.bg
 bk:=(hb k (h.mem k (.inr (.inl rfl)))).trans h.bk
 tp:=⟨(hb t (h.mem t (.inr (.inr (.inl rfl))))).trans h.tp.blk,h.tp.lo,h.tp.hi⟩
 mS:=h.mS.keep (hb r1 (h.mem r1 (.inr (.inr (.inr (.inl rfl))))))
 mB:=h.mB.keep (hb r2 (h.mem r2 (.inr (.inr (.inr (.inr (.inl rfl)))))))
 mL:=h.mL.keep (hb r3 (h.mem r3 (.inr (.inr (.inr (.inr (.inr rfl)))))))
 sS:=h.sS.keep hs fun b hm _=>hb b hm
 sB:=h.sB
 sL:=h.sL
 gB:=h.gB
 gL:=h.gL
 ne:=h.ne
 mem:=h.mem
 lt b hm:=Nat.lt_of_lt_of_le (h.lt b hm) hs
theorem bxAt_lt {w:World} {g:Nat} {st:Bx.St} {M:Nat->Prop} {b:Nat} (h:BxAt w g st M) (hm:M b):b < w.heap.size:=by
 obtain ⟨kd,s,a,S,B,L⟩:=st
 cases kd with
 | false =>
  obtain ⟨h1,h2⟩:=h
  rw [(h2 b).1 hm]
  exact Blk.lt h1
 | true =>
  obtain ⟨k,t,r1,r2,r3,ES,EB,EL,h⟩:=h
  exact h.lt b hm
theorem bxAt_keep {w w':World} {g:Nat} {st:Bx.St} {M:Nat->Prop} (h:BxAt w g st M) (hs:w.heap.size<=w'.heap.size) (hb:∀ b,M b->w'.heap[b]?=w.heap[b]?):BxAt w' g st M:=by
 obtain ⟨kd,s,a,S,B,L⟩:=st
 cases kd with
 | false =>
  obtain ⟨h1,h2⟩:=h
  exact ⟨(hb g ((h2 g).2 rfl)).trans h1,h2⟩
 | true =>
  obtain ⟨k,t,r1,r2,r3,ES,EB,EL,h⟩:=h
  exact ⟨k,t,r1,r2,r3,ES,EB,EL,h.keep hs hb⟩
theorem bxAt_good {w:World} {g:Nat} {s:Int} {a:Nat} {S:List Bx.SNote} {B L:List Bx.BNote} {M:Nat->Prop} (h:BxAt w g (.ideal s a S B L) M):Bx.Good B/\Bx.Good L:=by
 obtain ⟨k,t,r1,r2,r3,ES,EB,EL,h⟩:=h
 exact ⟨h.gB,h.gL⟩
theorem nil_eqInB (d n c:Nat) (W:World):(Op.equalIn (d + 1) 41 (.slice none n c) (.slice none 0 0)).run Tryd.prog W = .ok true W:=by
 simp [Op.equalIn,run_underlying Tryd.underlying41]
theorem nil_eqB (n c:Nat) (W:World):(binOp .eql 41 (.slice none n c) (.slice none 0 0)).run Tryd.prog W = .ok (.bool true) W:=by
 simp only [binOp]
 simp [Op.equal,Op.maxDepth,nil_eqInB 9999 n c W]
theorem nil_neInB (d:Nat) (x:Addr) (n c:Nat) (W:World):(Op.equalIn (d + 1) 41 (.slice (some x) n c) (.slice none 0 0)).run Tryd.prog W = .ok false W:=by
 simp [Op.equalIn,run_underlying Tryd.underlying41]
theorem nil_neB (x:Addr) (n c:Nat) (W:World):(binOp .eql 41 (.slice (some x) n c) (.slice none 0 0)).run Tryd.prog W = .ok (.bool false) W:=by
 simp only [binOp]
 simp [Op.equal,Op.maxDepth,nil_neInB 9999 x n c W]
theorem own_none (w:World):Ow (w.alloc (.cells #[] 5)) w.heap.size (.slice (some ⟨w.heap.size,0,none⟩) 0 0) [] :=
 ⟨by simp,.inr ⟨w.heap.size,0,#[],rfl,Nat.le_refl _,heap_alloc_new w _,Nat.le_refl _,by unfold maxLen; omega,by simp,by simp⟩⟩
set_option maxRecDepth 100000 in
theorem bclone_any {w:World} {A:Option Addr} {n c:Nat} {l:List UInt8} (hr:Rd w A n c l) (hn:n<=100000):Calls Tryd.prog 76 #[.slice A n c] w fun e w'=>∃ A' c',e = .returned (.slice A' n c')/\Rd w' A' n c' l/\Below w.heap.size w w'/\∀ x,A'=some x->0 < n->w.heap.size<=x.block:=by
 cases A with
 | none =>
  have hn0:n=0:=by
   rcases Nat.eq_zero_or_pos n with h0 | h0
   ·exact h0
   ·obtain ⟨b,off,e,_⟩:=hr.at_ h0
    cases e
  subst hn0
  obtain rfl:l=[]:=List.eq_nil_of_length_eq_zero hr.len
  have he:=fun W=>nil_eqB 0 c W
  clear hr
  go_enter Tryd.func76,Tryd.ntmps76
  go_wp2_with fail
  go_ret
  exact ⟨_,_,rfl,Rd.nil _ _ _ (by unfold maxLen; omega),Below.refl _ _,fun x hx=>by cases hx⟩
 | some ad =>
  have he:=fun W=>nil_neB ad n c W
  have HR:=Lib.hid hr
  have HL:=Lib.hid hr.len
  have LN:Hid (([]:List UInt8).length + n<=140737488355328):=by unfold Hid; simp; omega
  clear hr
  go_enter Tryd.func76,Tryd.ntmps76
  go_wp2_with (first
   | (at_builtin; refine onto_when rfl (.tmp 5) (.tmp 6) rfl rfl rfl (HR.out.below (alloc_below w _)) (own_none w) LN.out (by simp) (alloc_below w _) ?_; intro v4 w4 O4 X4 G4))
  go_ret
  obtain ⟨A4,c4,rfl,hR4,hF⟩:=O4.out.value
  rw [List.nil_append,HL.out] at *
  exact ⟨_,_,rfl,hR4,X4.out,fun x hx h0=>by
   obtain ⟨g,e,hg⟩:=hF h0
   rw [hx] at e
   injection e with e
   rw [e]
   exact hg⟩
def part12 (n:Nat):Nat->List UInt8
 | 0=>[]
 | k + 1=>Sha.by8 ((n:Int) / 256 ^ k) :: part12 n k
def lay12 (n k:Nat):List UInt8:=List.replicate (12 - k) 0 ++ part12 n k
theorem by8_nat (n k:Nat):Sha.by8 ((n:Int) / 256 ^ k)=UInt8.ofNat (n / 256 ^ k % 256):=by
 have h:(((n:Int) / 256 ^ k) % 256).toNat=n / 256 ^ k % 256:=by
  have:((n:Int) / 256 ^ k) % 256=((n / 256 ^ k % 256:Nat):Int):=by simp
  rw [this]
  exact Int.toNat_natCast _
 rw [Sha.by8,h]
theorem lay12_eight (n:Nat):lay12 n 8=Bx.nonce (n:Int):=by
 simp only [lay12,part12,by8_nat,Bx.nonce,Int.toNat_natCast]
 rfl
theorem lay12_set (n k m:Nat) (h:k < 8) (hm:m=11 - k) (y:UInt8) (hy:y=Sha.by8 ((n:Int) / 256 ^ k)):((lay12 n k).map cellOf).set m (cellOf y)=(lay12 n (k + 1)).map cellOf:=by
 have e:12 - k=m + 1:=by omega
 have e2:12 - (k + 1)=m:=by omega
 rw [lay12,lay12,e,e2,part12,<- hy,List.replicate_succ',List.append_assoc,List.map_append,List.map_append,List.set_append_right _ _ (by simp)]
 simp
theorem lay12_at (n k m:Nat) (h:k < 8) (hm:m=11 - k):((lay12 n k).map cellOf)[m]?=some (.int .u8 0):=by
 have e:12 - k=m + 1:=by omega
 rw [lay12,e,List.replicate_succ',List.append_assoc,List.map_append,List.getElem?_append_right (by simp)]
 simp [cellOf]
set_option maxRecDepth 100000 in
set_option maxHeartbeats 2000000 in
theorem twelve_any (n:Nat) (w:World) (hn:n<=9223372036854775807):Calls Tryd.prog 58 #[.int .i64 (n:Int)] w fun e w'=>e = .returned (.agg ((Bx.nonce (n:Int)).map cellOf).toArray)/\Below w.heap.size w w':=by
 obtain ⟨N,hN⟩:∃ N,N=(Bx.nonce (n:Int)).map cellOf:=⟨_,rfl⟩
 have hN8:Hid ((lay12 n 8).map cellOf=N):=by unfold Hid; rw [hN,lay12_eight]
 have hNl:N.length=12:=by rw [hN,List.length_map,Bx.nonce_length]
 have IN:Hid ((Tryd.prog.info? 106).map (·.size)=some N.length):=by unfold Hid; rw [hNl]; kernel_rfl
 have LN:Hid ((List.replicate 12 (Value.int .u8 0)).length=N.length):=by unfold Hid; rw [hNl]; rfl
 have ON:Hid (∀ v ∈ N,v.oneCell'=true):=by unfold Hid; rw [hN]; exact cells_u8 _
 rw [<- hN]
 clear hN hNl
 go_enter Tryd.func58,Tryd.ntmps58
 go_wp2_with fail
 go_loopw [5] (fun i wr=>∃ k:Nat,k<=8/\i = .int .i64 k/\Hid (Blk wr w.heap.size 106 (List.replicate 12 (Value.int .u8 0)))/\Hid (Blk wr (w.heap.size + 1) 106 ((lay12 n k).map cellOf))/\Hid (Below w.heap.size w wr)) (fun i _=>8 - (intOf i).toNat)
 case atStart=>exact ⟨0,by omega,rfl,(Blk.at_new _ _ 106 _ _ (by rfl) rfl:Blk _ w.heap.size _ _).alloc _,Blk.at_new _ _ 106 _ _ (by rfl) (by simp),((Below.refl _ _).alloc (Nat.le_refl _) _).alloc (by simp) _⟩
 case round =>
  obtain ⟨k,hk,rfl,B1,B2,BW⟩:=hrel
  by_cases hlt:k < 8
  ·have hlb:decide ((k:Int) < 8)=true:=by simp; omega
   obtain ⟨y,hy⟩:∃ y:UInt8,y=Sha.by8 ((n:Int) / 256 ^ k):=⟨_,rfl⟩
   obtain ⟨m,hm⟩:∃ m:Nat,m=11 - k:=⟨_,rfl⟩
   have e11:(11:Int) - (k:Int)=(m:Int):=by omega
   have hm12:m < 12:=by omega
   have c0:wr.cell? ⟨w.heap.size + 1,m,none⟩=some (.int .u8 0):=by rw [B2.out.cell]; exact lay12_at n k m hlt hm
   have f0:wr.frozen? ⟨w.heap.size + 1,m,none⟩=false:=B2.out.frozen _
   have B4:Hid (Blk (wr.setCell ⟨w.heap.size + 1,m,none⟩ (.int .u8 (y.toNat:Int))) (w.heap.size + 1) 106 ((lay12 n (k + 1)).map cellOf)):=by
    have:=B2.out.set_ m (cellOf y)
    rw [lay12_set n k m hlt hm y hy] at this
    exact this
   have B3:Hid (Blk (wr.setCell ⟨w.heap.size + 1,m,none⟩ (.int .u8 (y.toNat:Int))) w.heap.size 106 (List.replicate 12 (Value.int .u8 0))):=B1.out.far (by simp) _
   have hsh:(n:Int) / 2 ^ (8 * k) % 256=(y.toNat:Int):=by rw [hy,Pol.by8_toNat,Int.pow_mul]; rfl
   have hm8:((8 * (k:Int)).toNat)=8 * k:=by omega
   clear hy hm B1 B2
   go_wp2_with fail
   clear c0 f0 hsh
   go_roundw
   case rel=>exact ⟨k + 1,by omega,by go_num,B3,B4,BW.out.setCell (by simp) _⟩
   case measure=>simp [intOf]; omega
  ·obtain rfl:k=8:=by omega
   rw [show ((8:Nat):Int)=8 from rfl]
   rw [hN8.out] at B2
   go_wp2_with (first
    | (with_reducible refine load_law rfl 106 (.tmp 3) rfl (w.heap.size + 1) 0 rfl N _ Tryd.underlying106 rfl IN.out B2.out.cells ?_)
    | (with_reducible refine storeGen_law rfl 106 (.tmp 2) (.tmp 17) rfl w.heap.size rfl N rfl 106 (List.replicate 12 (.int .u8 0)) IN.out LN.out ON.out w.heap.size w B1.out BW.out (Nat.le_refl _) ?_; intro w3 B3 X3))
   exact bodyPost_ret (results_cell_row rfl _ _ w.heap.size 106 N.toArray (0,0) _ rfl B3.out Tryd.underlying106 rfl (by rw [IN.out]; simp)) rfl ⟨rfl,X3.out⟩
theorem mkMap (t:TypeId) (W:World):(Instr.makeMap t none).run Tryd.prog W = .ok (.map (some W.heap.size)) (W.alloc (.map #[] 0)):=by
 simp [Instr.makeMap]
set_option maxRecDepth 100000 in
theorem newBook_any (w:World) (t:Nat):Calls Tryd.prog 31 #[.pointer (some ⟨t,0,none⟩)] w fun e w'=>∃ k r1 r2 r3,e = .returned (.pointer (some ⟨k,0,none⟩))/\Blk w' k 75 [.pointer (some ⟨t,0,none⟩),.map (some r1),.map (some r2),.map (some r3)] /\
  MapIs 126 w' r1 []/\MapIs 77 w' r2 []/\MapIs 77 w' r3 []/\w.heap.size<=r1/\r1 < r2/\r2 < r3/\r3 < k/\k < w'.heap.size/\Below w.heap.size w w':=by
 have m1:=mkMap 72
 have m2:=mkMap 73
 go_enter Tryd.func31,Tryd.ntmps31
 go_wp2_with fail
 go_ret
 have a1:=MapIs.new (k:=126) w
 have b1:=alloc_below w (.map #[] 0)
 generalize hw1:w.alloc (.map #[] 0)=w1 at *
 have e1:w1.heap.size=w.heap.size + 1:=by rw [<- hw1]; simp
 have a2:=MapIs.new (k:=77) w1
 have b2:=alloc_below w1 (.map #[] 0)
 generalize hw2:w1.alloc (.map #[] 0)=w2 at *
 have e2:w2.heap.size=w1.heap.size + 1:=by rw [<- hw2]; simp
 have a3:=MapIs.new (k:=77) w2
 have b3:=alloc_below w2 (.map #[] 0)
 generalize hw3:w2.alloc (.map #[] 0)=w3 at *
 have e3:w3.heap.size=w2.heap.size + 1:=by rw [<- hw3]; simp
 refine ⟨w3.heap.size,w.heap.size,w1.heap.size,w2.heap.size,?_,Blk.at_new _ _ _ _ _ ?_ rfl,?_,?_,?_,Nat.le_refl _,by omega,by omega,by omega,by simp,?_⟩
 ·first | rfl | (simp only [e1,e2,e3]; done) | (simp [e1,e2,e3]; done)
 ·first | rfl | (simp [e1,e2]; done)
 ·exact ((a1.keep (b2.block _ (by omega))).keep (b3.block _ (by omega))).keep ((alloc_below w3 _).block _ (by omega))
 ·exact (a2.keep (b3.block _ (by omega))).keep ((alloc_below w3 _).block _ (by omega))
 ·exact a3.keep ((alloc_below w3 _).block _ (by omega))
 ·exact ((b1.trans (b2.mono (by omega))).trans (b3.mono (by omega))).trans ((alloc_below w3 _).mono (by omega))
set_option maxRecDepth 100000 in
theorem bnewR (w:World) (p:Option Addr):Calls Tryd.prog 17 #[.int .i64 0,.pointer p] w fun e w'=>∃ g M,e = .returned (.pointer (some ⟨g,0,none⟩))/\(∀ b,M b->w.heap.size<=b)/\BxAt w' g .real M/\Below w.heap.size w w':=by
 go_enter Tryd.func17,Tryd.ntmps17
 go_wp2_with fail
 go_ret
 exact ⟨w.heap.size,fun b=>b=w.heap.size,rfl,fun b hb=>by omega,⟨Blk.at_new _ _ _ _ _ rfl rfl,fun b=>Iff.rfl⟩,alloc_below w _⟩
set_option maxRecDepth 100000 in
theorem bnewN (w:World):Calls Tryd.prog 17 #[.int .i64 1,.pointer none] w fun e w'=>e = .returned (.pointer none)/\Below w.heap.size w w':=by
 go_enter Tryd.func17,Tryd.ntmps17
 go_wp2_with fail
 go_ret
 exact ⟨rfl,Below.refl _ _⟩
set_option maxRecDepth 100000 in
theorem bnewO (w:World) (m:Int) (p:Option Addr) (h0:m ≠ 0) (h1:m ≠ 1):Calls Tryd.prog 17 #[.int .i64 m,.pointer p] w fun e w'=>e = .returned (.pointer none)/\Below w.heap.size w w':=by
 have e0:(m == 0)=false:=by simpa using h0
 have e1:(m == 1)=false:=by simpa using h1
 go_enter Tryd.func17,Tryd.ntmps17
 go_wp2_with fail
 go_ret
 exact ⟨rfl,Below.refl _ _⟩
set_option maxRecDepth 100000 in
theorem bnewI {w:World} {t:Nat} {s:Int} {a:Nat} (hT:TapeAt w t s a):Calls Tryd.prog 17 #[.int .i64 1,.pointer (some ⟨t,0,none⟩)] w fun e w'=>∃ g M,e = .returned (.pointer (some ⟨g,0,none⟩))/\(∀ b,M b->b=t ∨ w.heap.size<=b)/\BxAt w' g (.ideal s a [] [] []) M/\Below w.heap.size w w':=by
 have HT:=Lib.hid hT
 have htl:=hT.blk.lt
 clear hT
 go_enter Tryd.func17,Tryd.ntmps17
 go_wp2_with fail
 refine (newBook_any w t).mono ?_
 rintro e w1 ⟨k,r1,r2,r3,rfl,hk,m1,m2,m3,h1,h2,h3,h4,h5,hX⟩
 have HK:=Lib.hid hk
 have M1:=Lib.hid m1
 have M2:=Lib.hid m2
 have M3:=Lib.hid m3
 have HX:=Lib.hid hX
 clear hk m1 m2 m3 hX
 go_wp2_with fail
 go_ret
 have hB:=alloc_below w1 (.cells #[.pointer (some ⟨k,0,none⟩)] 66)
 have hs:=HX.out.size
 have s1:=M1.out.lt
 refine ⟨w1.heap.size,fun b=>Six w1.heap.size k t r1 r2 r3 b,rfl,?_,⟨k,t,r1,r2,r3,[],[],[],?_⟩,HX.out.trans (hB.mono hs)⟩
 ·rintro b (h | h | h | h | h | h) <;> omega
 ·exact {
   bg:=Blk.at_new _ _ _ _ _ rfl rfl
   bk:=HK.out.below hB h5
   tp:=⟨(HT.out.blk.below HX.out htl).below hB (by omega),HT.out.lo,HT.out.hi⟩
   mS:=M1.out.keep (hB.block _ (by omega))
   mB:=M2.out.keep (hB.block _ (by omega))
   mL:=M3.out.keep (hB.block _ (by omega))
   sS:=⟨fun p hp=>by simp at hp,fun key num ad c _ h=>absurd rfl h⟩
   sB:=⟨fun p hp=>by simp at hp,fun key b _ h=>absurd rfl h⟩
   sL:=⟨fun p hp=>by simp at hp,fun key b _ h=>absurd rfl h⟩
   gB:=(show Bx.Good [] from fun n hn=>by simp at hn)
   gL:=(show Bx.Good [] from fun n hn=>by simp at hn)
   ne:=by omega
   mem:=fun x h=>h
   lt:=by
    have:(w1.alloc (.cells #[.pointer (some ⟨k,0,none⟩)] 66)).heap.size=w1.heap.size + 1:=by simp
    rintro b (h | h | h | h | h | h) <;> omega }
end Go.Proofs.YtajgjeialbgijaaDoor
namespace Go.Proofs.YtajgjeialbgijaaDoor
set_option linter.unusedVariables false
set_option linter.unusedSimpArgs false
set_option maxRecDepth 100000
open Go.RowKit
theorem Fr.of_below {M:Nat->Prop} {w w':World} (h:Below w.heap.size w w'):Fr M w w':=⟨h.os,h.tape,h.output,h.size,fun i hi _=>h.block i hi⟩
theorem Fr.of_only {M:Nat->Prop} {w w':World} {t:Nat} (h:w.grownBy w' (some t)) (hM:M t):Fr M w w':=⟨h.os,h.tape,h.output,h.size,fun i hi hn=>h.block i hi (fun e=>hn (by injection e with e; rw [e]; exact hM))⟩
theorem Fr.trans {M:Nat->Prop} {w w' w'':World} (h:Fr M w w') (k:Fr M w' w''):Fr M w w'':=⟨k.os.trans h.os,k.tape.trans h.tape,k.output.trans h.output,Nat.le_trans h.size k.size,fun i hi hn=>(k.block i (Nat.lt_of_lt_of_le hi h.size) hn).trans (h.block i hi hn)⟩
theorem Fr.mono {M M':Nat->Prop} {w w':World} (h:Fr M w w') (hM:∀ b,M b->M' b):Fr M' w w':=⟨h.os,h.tape,h.output,h.size,fun i hi hn=>h.block i hi (fun hm=>hn (hM i hm))⟩
theorem Fr.cut {M:Nat->Prop} {B:Nat} {w w' w'':World} (h:Fr M w w') (k:Below B w' w'') (hB:w.heap.size<=B):Fr M w w'':=⟨k.os.trans h.os,k.tape.trans h.tape,k.output.trans h.output,Nat.le_trans h.size k.size,fun i hi hn=>(k.block i (by omega)).trans (h.block i hi hn)⟩
theorem Fr.gl {M:Nat->Prop} {w w':World} (h:Fr M w w') (hg:Gl w) (hM:∀ b,M b->2<=b):Gl w':=hg.below (h.below (Below.refl 2 w) hM hg.size) (Nat.le_refl _)
theorem zero34 (W:World):(zeroValue 27).run Tryd.prog W = .ok (.agg (List.replicate 32 (Value.int .u8 0)).toArray) W:=by kernel_rfl
theorem arrayAt32 (b off n c:Nat) (h:32<=n) (W:World):(Instr.arrayAt 27 (.slice (some ⟨b,off,none⟩) n c)).run Tryd.prog W = .ok (.pointer (some ⟨b,off,none⟩)) W:=by
 have h':¬ n < 32:=by omega
 simp [Instr.arrayAt,run_underlying Tryd.underlying27,h']
theorem mk_parts {key b:List UInt8} (hk:key.length=32):∃ cs:List Value,mkKey key b = .agg cs.toArray/\cs.length=33/\∀ v ∈ cs,v.oneCell'=true :=
 ⟨_,rfl,by simp [hk],fun v hv=>by
  rcases List.mem_append.1 hv with hv | hv
  ·exact cells_u8 key v hv
  ·simp at hv; subst hv; rfl⟩
set_option maxRecDepth 100000 in
set_option maxHeartbeats 2000000 in
theorem note_old {w:World} {k r:Nat} {E:List (Value × Value)} {key b h:List UInt8} (hM:MapIs 77 w r E) (h32:key.length=32) (hb:b.length<=100000) (hh:h.length=32) (hin:∀ v,(mkKey key b,v) ∈ E->v = .agg (h.map cellOf).toArray) (hex:∃ v,(mkKey key b,v) ∈ E) :
  Calls Tryd.prog 34 #[.pointer (some ⟨k,0,none⟩),.map (some r),mkKey key b] w fun e w'=>e = .returned (.agg (h.map cellOf).toArray)/\Below w.heap.size w w':=by
 have HM:=Lib.hid hM
 have HK:Hid (∃ l,keyOf Tryd.prog 77 (mkKey key b)=some l):=keyM h32 (by unfold maxLen; omega)
 have hrl:=hM.lt
 obtain ⟨D,hD⟩:∃ D,D=h.map cellOf:=⟨_,rfl⟩
 rw [<- hD] at hin
 rw [<- hD]
 have LK:Hid (∀ W,W.heap[r]?=w.heap[r]?->(Instr.lookup 73 (.map (some r)) (mkKey key b) true).run Tryd.prog W = .ok (.tuple #[.agg D.toArray,.bool true]) W):=fun W hW=>by
  rcases (HM.out.keep hW).look lawM Tryd.underlying73 (zero34 W) HK.out with ⟨_,hn⟩ | ⟨v,hv,hi⟩
  ·obtain ⟨v,hv⟩:=hex
   exact absurd hv (hn v)
  ·rw [hv,hin v hi]
 have hDl:D.length=32:=by rw [hD,List.length_map,hh]
 have ID:Hid ((Tryd.prog.info? 27).map (·.size)=some D.length):=by unfold Hid; rw [hDl]; kernel_rfl
 have LD:Hid ((List.replicate 32 (Value.int .u8 0)).length=D.length):=by unfold Hid; rw [hDl]; rfl
 have OD:Hid (∀ v ∈ D,v.oneCell'=true):=by unfold Hid; rw [hD]; exact cells_u8 _
 obtain ⟨cs,hcs,hcl,hc1⟩:=mk_parts (b:=b) h32
 rw [hcs] at LK
 rw [hcs]
 have IC:Hid ((Tryd.prog.info? 77).map (·.size)=some cs.length):=by unfold Hid; rw [hcl]; kernel_rfl
 clear hM HM HK hin hex hD hDl hcs hcl hc1 hb h32 hh
 go_enter Tryd.func34,Tryd.ntmps34
 go_upto_region 1 with (fail)
 obtain ⟨w0,hw0⟩:∃ w0,w0=(w.alloc (Obj.cells cs.toArray 77)).alloc (Obj.cells (List.replicate 32 (Value.int .u8 0)).toArray 27):=⟨_,rfl⟩
 have B5:Hid (Blk w0 w.heap.size 77 cs):=by unfold Hid; rw [hw0]; exact (Blk.new w _ _).alloc _
 have B6:Hid (Blk w0 (w.heap.size + 1) 27 (List.replicate 32 (Value.int .u8 0))):=by unfold Hid; rw [hw0]; exact Blk.at_new _ _ _ _ _ rfl (by simp)
 have W0:Hid (Below w.heap.size w w0):=by unfold Hid; rw [hw0]; exact ((Below.refl _ _).alloc (Nat.le_refl _) _).alloc (by simp) _
 have hs0:w.heap.size + 2<=w0.heap.size:=by rw [hw0]; simp
 change Code.wp _ _ _ _ ((w.alloc (Obj.cells cs.toArray 77)).alloc (Obj.cells (List.replicate 32 (Value.int .u8 0)).toArray 27))
 rw [<- hw0]
 clear hw0
 have LK0:=LK.out w0 (W0.out.block r hrl)
 go_wp2_with (first
  | (with_reducible refine load_law rfl 77 (.tmp 5) rfl w.heap.size 0 rfl cs _ Tryd.underlying77 rfl IC.out B5.out.cells ?_)
  | ((with_reducible refine storeGen_law rfl 27 (.tmp 7) (.tmp 13) rfl w0.heap.size rfl D rfl 27 (List.replicate 32 (Value.int .u8 0)) ID.out LD.out OD.out w0.heap.size w0 ?_ ?_ (Nat.le_refl _) ?_)
     ·exact Blk.at_new _ _ 27 _ _ (by rfl) rfl
     ·exact (Below.refl _ _).alloc (Nat.le_refl _) _
     intro w1 B7 X1)
  | (with_reducible refine load_law rfl 27 (.tmp 7) rfl w0.heap.size 0 rfl D _ Tryd.underlying27 rfl ID.out B7.out.cells ?_)
  | ((with_reducible refine storeGen_law rfl 27 (.tmp 6) (.tmp 27) rfl (w.heap.size + 1) rfl D rfl 27 (List.replicate 32 (Value.int .u8 0)) ID.out LD.out OD.out w.heap.size w ?_ ?_ (Nat.le_succ _) ?_)
     ·exact B6.out.below X1.out (by omega)
     ·exact W0.out.trans (X1.out.mono (by omega))
     intro w2 B8 X2))
 exact bodyPost_ret (results_cell_row rfl _ _ (w.heap.size + 1) 27 D.toArray (0,0) _ rfl B8.out Tryd.underlying27 rfl (by rw [ID.out]; simp)) rfl ⟨rfl,X2.out⟩
set_option maxRecDepth 100000 in
set_option maxHeartbeats 2000000 in
theorem note_new {w:World} {k t r:Nat} {s:Int} {a:Nat} {m1 m2 m3:Value} {E:List (Value × Value)} {key b:List UInt8} (hG:Gl w) (h2t:2<=t) (hk:Blk w k 75 [.pointer (some ⟨t,0,none⟩),m1,m2,m3]) (hT:TapeAt w t s a) (hM:MapIs 77 w r E) (h32:key.length=32) (hb:b.length<=100000) (hno:∀ v,(mkKey key b,v) ∉ E) (ha:a<=1000000) (hkt:k ≠ t) (htr:t ≠ r) :
  Calls Tryd.prog 34 #[.pointer (some ⟨k,0,none⟩),.map (some r),mkKey key b] w fun e w'=>e = .returned (.agg ((Tap.tape s a 32).map cellOf).toArray)/\TapeAt w' t s (a + 32)/\(∃ E',MapIs 77 w' r E'/\∀ p,p ∈ E' ↔ p=(mkKey key b,.agg ((Tap.tape s a 32).map cellOf).toArray) ∨ (p ∈ E/\p.1 ≠ mkKey key b))/\Fr (fun b=>b=t ∨ b=r) w w':=by
 have HG:=Lib.hid hG
 have HKB:=Lib.hid hk
 have HT:=Lib.hid hT
 have HM:=Lib.hid hM
 have hkl:=hk.lt
 have htl:=hT.blk.lt
 have HK:Hid (∃ l,keyOf Tryd.prog 77 (mkKey key b)=some l):=keyM h32 (by unfold maxLen; omega)
 have hrl:=hM.lt
 obtain ⟨D,hD⟩:∃ D,D=(Tap.tape s a 32).map cellOf:=⟨_,rfl⟩
 rw [<- hD]
 have LK:Hid (∀ W,W.heap[r]?=w.heap[r]?->(Instr.lookup 73 (.map (some r)) (mkKey key b) true).run Tryd.prog W = .ok (.tuple #[.agg (List.replicate 32 (Value.int .u8 0)).toArray,.bool false]) W):=fun W hW=>by
  rcases (HM.out.keep hW).look lawM Tryd.underlying73 (zero34 W) HK.out with ⟨hv,_⟩ | ⟨v,hv,hi⟩
  ·exact hv
  ·exact absurd hi (hno v)
 have hDl:D.length=32:=by rw [hD,List.length_map,Tap.tape_length]
 have ID:Hid ((Tryd.prog.info? 27).map (·.size)=some D.length):=by unfold Hid; rw [hDl]; kernel_rfl
 have LD:Hid ((List.replicate 32 (Value.int .u8 0)).length=D.length):=by unfold Hid; rw [hDl]; rfl
 have OD:Hid (∀ v ∈ D,v.oneCell'=true):=by unfold Hid; rw [hD]; exact cells_u8 _
 have IZ:Hid ((Tryd.prog.info? 27).map (·.size)=some (List.replicate 32 (Value.int .u8 0)).length):=by unfold Hid; rw [List.length_replicate]; kernel_rfl
 have OZ:Hid (∀ v ∈ (List.replicate 32 (Value.int .u8 0)),v.oneCell'=true):=fun v hv=>by rw [List.eq_of_mem_replicate hv]; rfl
 have HD:=Lib.hid hD
 obtain ⟨x,hx⟩:∃ x,x=mkKey key b:=⟨_,rfl⟩
 obtain ⟨cs,hcs,hcl,hc1⟩:=mk_parts (b:=b) h32
 rw [<- hx] at hcs
 rw [<- hx] at LK HK hno
 rw [<- hx]
 have HCS:=Lib.hid hcs
 rw [hcs] at LK
 rw [hcs]
 have IC:Hid ((Tryd.prog.info? 77).map (·.size)=some cs.length):=by unfold Hid; rw [hcl]; kernel_rfl
 clear hG hk hT hM hD hDl hcs hcl hc1 hb h32 hx hno
 go_enter Tryd.func34,Tryd.ntmps34
 go_upto_region 1 with (fail)
 obtain ⟨w0,hw0⟩:∃ w0,w0=(w.alloc (Obj.cells cs.toArray 77)).alloc (Obj.cells (List.replicate 32 (Value.int .u8 0)).toArray 27):=⟨_,rfl⟩
 have B5:Hid (Blk w0 w.heap.size 77 cs):=by unfold Hid; rw [hw0]; exact (Blk.new w _ _).alloc _
 have B6:Hid (Blk w0 (w.heap.size + 1) 27 (List.replicate 32 (Value.int .u8 0))):=by unfold Hid; rw [hw0]; exact Blk.at_new _ _ _ _ _ rfl (by simp)
 have W0:Hid (Below w.heap.size w w0):=by unfold Hid; rw [hw0]; exact ((Below.refl _ _).alloc (Nat.le_refl _) _).alloc (by simp) _
 have hs0:w.heap.size + 2<=w0.heap.size:=by rw [hw0]; simp
 change Code.wp _ _ _ _ ((w.alloc (Obj.cells cs.toArray 77)).alloc (Obj.cells (List.replicate 32 (Value.int .u8 0)).toArray 27))
 rw [<- hw0]
 clear hw0
 have LK0:=LK.out w0 (W0.out.block r hrl)
 go_upto_region 3 with (first
  | (with_reducible refine load_law rfl 77 (.tmp 5) rfl w.heap.size 0 rfl cs _ Tryd.underlying77 rfl IC.out B5.out.cells ?_)
  | ((with_reducible refine storeGen_law rfl 27 (.tmp 7) (.tmp 13) rfl w0.heap.size rfl (List.replicate 32 (Value.int .u8 0)) rfl 27 (List.replicate 32 (Value.int .u8 0)) IZ.out rfl OZ.out w0.heap.size w0 ?_ ?_ (Nat.le_refl _) ?_)
     ·exact Blk.at_new _ _ 27 _ _ (by rfl) rfl
     ·exact (Below.refl _ _).alloc (Nat.le_refl _) _
     intro w1 B7 X1))
 obtain ⟨q,hq⟩:∃ q,q=w0.heap.size:=⟨_,rfl⟩
 rw [<- hq] at B7 X1
 rw [<- hq]
 replace hs0:w.heap.size + 2<=q:=by omega
 clear hq
 have W1:=Lib.hid (W0.out.trans (X1.out.mono (by omega)))
 have C5:=Lib.hid (B5.out.below X1.out (by omega))
 have C6:=Lib.hid (B6.out.below X1.out (by omega))
 have c0:w1.cell? ⟨k,0,none⟩=some (.pointer (some ⟨t,0,none⟩)):=(HKB.out.below W1.out hkl).cell 0
 have T1:Hid (TapeAt w1 t s a):=⟨HT.out.blk.below W1.out htl,HT.out.lo,HT.out.hi⟩
 have hq7:=B7.out.lt
 clear LK0 LK B5 B6 X1
 go_wp2_with fail
 refine (tnext_any 32 (HG.out.below W1.out HG.out.size) h2t T1.out (by omega) ha).mono ?_
 rintro e w2 ⟨A,c,rfl,hR,hT2,hO,hF⟩
 obtain ⟨gb,off,rfl,hgl,hgc⟩:=hR.at_ (by omega)
 have hF':w1.heap.size<=gb:=hF _ rfl
 have harr:=arrayAt32 gb off 32 c (Nat.le_refl _)
 have RD:Hid (∀ j v,D[j]?=some v->w2.cell? ⟨gb,off + j,none⟩=some v):=by unfold Hid; rw [HD.out]; exact hR.cells
 have D5:Hid (Blk w2 w.heap.size 77 cs):=(hO.block _ C5.out.lt (fun e=>by injection e with e; omega)).trans C5.out
 have D6:Hid (Blk w2 (w.heap.size + 1) 27 (List.replicate 32 (Value.int .u8 0))):=(hO.block _ C6.out.lt (fun e=>by injection e with e; omega)).trans C6.out
 have D7:Hid (Blk w2 q 27 (List.replicate 32 (Value.int .u8 0))):=(hO.block _ B7.out.lt (fun e=>by injection e with e; omega)).trans B7.out
 have T2:=Lib.hid hT2
 have M2:Hid (MapIs 77 w2 r E):=HM.out.keep ((hO.block r (Nat.lt_of_lt_of_le hrl W1.out.size) (fun e=>htr (by injection e with e; exact e.symm))).trans (W1.out.block r hrl))
 have F2:Hid (Fr (fun b=>b=t ∨ b=r) w w2):=(Fr.of_below W1.out).trans (Fr.of_only hO (.inl rfl))
 have hs2:=hO.size
 have hs1:=W1.out.size
 clear hR hT2 hO hF hgc T1 C5 C6 B7 W1 c0 HT
 go_upto_region 4 with (first
  | (with_reducible refine load_law rfl 27 (.tmp 22) rfl gb off rfl D _ Tryd.underlying27 rfl ID.out RD.out ?_)
  | (with_reducible refine storeGen_law rfl 27 (.tmp 7) (.tmp 23) rfl q rfl D rfl 27 (List.replicate 32 (Value.int .u8 0)) ID.out LD.out OD.out q w2 D7.out (Below.refl _ _) (Nat.le_refl _) ?_; intro w3 B7 X3))
 have E5:=Lib.hid (D5.out.below X3.out (by omega))
 have E6:=Lib.hid (D6.out.below X3.out (by omega))
 obtain ⟨w4,E',hup,hM4,hE4,o1,o2,o3,o4,o5⟩:=(M2.out.keep (X3.out.block r (by omega))).put lawM Tryd.underlying73 HK.out (.agg D.toArray)
 rw [HCS.out] at hup
 have F4:Hid (Fr (fun b=>b=t ∨ b=r) w w4):=(F2.out.cut X3.out (by omega)).trans ⟨o1,o2,o3,by omega,fun i hi hn=>o5 i (fun e=>hn (.inr e))⟩
 have G5:Hid (Blk w4 w.heap.size 77 cs):=(o5 _ (by omega)).trans E5.out
 have G6:Hid (Blk w4 (w.heap.size + 1) 27 (List.replicate 32 (Value.int .u8 0))):=(o5 _ (by omega)).trans E6.out
 have G7:Hid (Blk w4 q 27 D):=(o5 _ (by omega)).trans B7.out
 have T4:Hid (TapeAt w4 t s (a + 32)):=⟨(o5 _ htr).trans (T2.out.blk.below X3.out (by omega)),T2.out.lo,T2.out.hi⟩
 have M4:=Lib.hid hM4
 have H4:=Lib.hid hE4
 clear hM4 hE4 harr D5 D6 D7 T2 M2 F2 RD
 go_wp2_with (first
  | (with_reducible refine load_law rfl 77 (.tmp 5) rfl w.heap.size 0 rfl cs _ Tryd.underlying77 rfl IC.out E5.out.cells ?_)
  | (with_reducible refine load_law rfl 27 (.tmp 7) rfl q 0 rfl D _ Tryd.underlying27 rfl ID.out B7.out.cells ?_)
  | (with_reducible refine load_law rfl 27 (.tmp 7) rfl q 0 rfl D _ Tryd.underlying27 rfl ID.out G7.out.cells ?_)
  | (with_reducible refine storeGen_law rfl 27 (.tmp 6) (.tmp 27) rfl (w.heap.size + 1) rfl D rfl 27 (List.replicate 32 (Value.int .u8 0)) ID.out LD.out OD.out (w.heap.size + 1) w4 G6.out (Below.refl _ _) (Nat.le_refl _) ?_; intro w5 B8 X5))
 exact bodyPost_ret (results_cell_row rfl _ _ (w.heap.size + 1) 27 D.toArray (0,0) _ rfl B8.out Tryd.underlying27 rfl (by rw [ID.out]; simp)) rfl ⟨rfl,⟨T4.out.blk.below X5.out (by omega),T4.out.lo,T4.out.hi⟩,⟨E',M4.out.keep (X5.out.block r (by omega)),by rw [<- HCS.out]; exact H4.out⟩,F4.out.cut X5.out (by omega)⟩
end Go.Proofs.YtajgjeialbgijaaDoor
namespace Go.Proofs.YtajgjeialbgijaaDoor
set_option linter.unusedVariables false
set_option linter.unusedSimpArgs false
set_option maxRecDepth 100000
open Go.RowKit
theorem builtM {kc:List Value} (h:kc.length=32) (s:ByteArray):Tryd.prog.built 77 [(0,.agg kc.toArray),(1,.string s)]=some (kc ++ [Value.string s]).toArray:=by
 obtain ⟨a0,a1,a2,a3,a4,a5,a6,a7,a8,a9,a10,a11,a12,a13,a14,a15,a16,a17,a18,a19,a20,a21,a22,a23,a24,a25,a26,a27,a28,a29,a30,a31,rfl⟩:=list32 h
 kernel_rfl
theorem builtL {kc:List Value} (h:kc.length=32) (n:Int) (s u:ByteArray):Tryd.prog.built 126 [(0,.agg kc.toArray),(1,.int .i64 n),(2,.string s),(3,.string u)]=some (kc ++ [Value.int .i64 n,.string s,.string u]).toArray:=by
 obtain ⟨a0,a1,a2,a3,a4,a5,a6,a7,a8,a9,a10,a11,a12,a13,a14,a15,a16,a17,a18,a19,a20,a21,a22,a23,a24,a25,a26,a27,a28,a29,a30,a31,rfl⟩:=list32 h
 kernel_rfl
theorem cellsByte (l:List UInt8):Lib.byteCells l=l.map cellOf:=rfl
set_option maxRecDepth 100000 in
set_option maxHeartbeats 1000000 in
theorem liteclone_any (l:List UInt8) (w:World) (hl:l.length<=1000000):Calls Tryd.prog 85 #[.string ⟨l.toArray⟩] w fun e w'=>e = .returned (.string ⟨l.toArray⟩)/\Below w.heap.size w w':=by
 have hsz:(⟨l.toArray⟩:ByteArray).size=l.length:=by show l.toArray.size=_; simp
 by_cases h0:l=[]
 ·subst h0
  go_enter Tryd.func85,Tryd.ntmps85
  go_wp2_with fail
  go_ret
  exact ⟨rfl,Below.refl _ _⟩
 ·have hpos:0 < l.length:=List.length_pos_iff.2 h0
  have hmk:=make_bytes l.length (by omega)
  obtain ⟨n,hn⟩:∃ n,n=l.length:=⟨_,rfl⟩
  have hco:Tryd.prog.cellsOf 5=1:=c5
  have hcp:=Lib.run_copy_row_string (P:=Tryd.prog) (w.alloc (.cells (outC [] n).toArray 5)) 41 9 3 5 w.heap.size 0 n n ⟨l.toArray⟩ (outC [] n).toArray 5 Tryd.underlying41 size5 (heap_alloc_new w _) (by rw [hsz,hn]; exact Nat.le_refl _) (by rw [hsz,hn]; simp [outC_length])
  obtain ⟨Y,hY⟩:∃ Y:Array Value,Y=((outC [] n).toArray.toList.take 0 ++ Lib.byteCells (⟨l.toArray⟩:ByteArray).data.toList ++ (outC [] n).toArray.toList.drop (0 + (⟨l.toArray⟩:ByteArray).size)).toArray:=⟨_,rfl⟩
  rw [<- hY] at hcp
  have hYl:Y.toList=l.map cellOf:=by
   rw [hY,hsz,cellsByte]
   simp [outC_length,hn]
  have hgY:((w.alloc (.cells (outC [] n).toArray 5)).setRow w.heap.size Y).heap[w.heap.size]?=some (.cells Y 5 (0,0)):=setRow_heap _ _ _ _ 5 (0,0) (heap_alloc_new w _)
  have hYs:Y.size=l.length:=by rw [<- Array.length_toList,hYl,List.length_map]
  have hUS:=Lib.run_unsafeString_row (P:=Tryd.prog) ((w.alloc (.cells (outC [] n).toArray 5)).setRow w.heap.size Y) 147 3 9 5 Tryd.underlying147 hco w.heap.size Y.size (by unfold World.shape?; rw [hgY]) l h0 (by omega) (by omega)
   (fun j x hx=>by
    rw [add_plain,Nat.zero_add,cell_of_row _ _ j _ 5 _ hgY,<- Array.getElem?_toList,hYl,List.getElem?_map,hx]
    rfl)
  have hb1:Below w.heap.size w (w.alloc (.cells (outC [] n).toArray 5)):=alloc_below w _
  have hb2:Below w.heap.size (w.alloc (.cells (outC [] n).toArray 5)) ((w.alloc (.cells (outC [] n).toArray 5)).setRow w.heap.size Y):=⟨rfl,rfl,rfl,by simp,fun k hk=>setRow_other _ _ _ _ (by omega)⟩
  have HB:Hid (Below w.heap.size w (((w.alloc (.cells (outC [] n).toArray 5)).setRow w.heap.size Y).freeze ⟨w.heap.size,0,none⟩ n)):=Lib.below_freeze (hb1.trans hb2) (p:=⟨w.heap.size,0,none⟩) (Nat.le_refl _) _
  clear hb1 hb2 hY hYl hYs hgY hco
  rw [hsz] at hcp
  rw [<- hn] at hcp hUS hmk hsz hpos
  have hln:l.length=n:=hn.symm
  have hz:((n:Int) == 0)=false:=by simp; omega
  clear hn h0 hl
  go_enter Tryd.func85,Tryd.ntmps85
  go_wp2_with fail
  go_ret
  exact ⟨rfl,HB.out⟩
set_option maxRecDepth 100000 in
theorem sclone_any (l:List UInt8) (w:World) (hl:l.length<=1000000):Calls Tryd.prog 63 #[.string ⟨l.toArray⟩] w fun e w'=>e = .returned (.string ⟨l.toArray⟩)/\Below w.heap.size w w':=by
 go_enter Tryd.func63,Tryd.ntmps63
 go_wp2_with fail
 refine (liteclone_any l w hl).mono ?_
 rintro e w1 ⟨rfl,hX⟩
 have X1:=Lib.hid hX
 clear hX
 go_wp2_with fail
 go_ret
 exact ⟨rfl,X1.out⟩
end Go.Proofs.YtajgjeialbgijaaDoor
namespace Go.Proofs.YtajgjeialbgijaaDoor
set_option linter.unusedVariables false
set_option linter.unusedSimpArgs false
set_option maxRecDepth 100000
open Go.RowKit
theorem Nw.slice {w:World} {b:Nat} {x:Value} {l:List UInt8} (h:Nw w b x l) {k:Nat} (hk:l.length=k):∃ A c,x = .slice A k c/\Rd w A k c l/\∀ y,A=some y->0 < k->b<=y.block:=h.rd hk
set_option maxRecDepth 100000 in
set_option maxHeartbeats 4000000 in
theorem bseal_any {w:World} {k t r1:Nat} {m2 m3:Value} {s:Int} {a:Nat} {ES:List (Value × Value)} {A A':Option Addr} {n c n' c':Nat} {ad b:List UInt8} (key:List UInt8) (num:Int) (hG:Gl w) (h2t:2<=t) (hk:Blk w k 75 [.pointer (some ⟨t,0,none⟩),.map (some r1),m2,m3]) (hT:TapeAt w t s a) (hM:MapIs 126 w r1 ES) (h32:key.length=32) (hn0:-9223372036854775808<=num) (hn1:num<=9223372036854775807) (hra:Rd w A n c ad) (hrb:Rd w A' n' c' b)
  (hoa:∀ x:Addr,A=some x->0 < n->x.block ≠ t) (hob:∀ x:Addr,A'=some x->0 < n'->x.block ≠ t) (hnb:n'<=3000) (ha:a<=1000000) (hkt:k ≠ t) (htr:t ≠ r1) (hkr:k ≠ r1) :
  Calls Tryd.prog 56 #[.pointer (some ⟨k,0,none⟩),.agg (key.map cellOf).toArray,.int .i64 num,.slice A n c,.slice A' n' c'] w fun e w'=>∃ A3 c3 A4 c4 E',e = .returned (.slice A3 (n' + 16) c3)/\Rd w' A3 (n' + 16) c3 (Tap.tape s a (n' + 16))/\(∀ x:Addr,A3=some x->w.heap.size<=x.block)/\Rd w' A4 n' c4 b/\(∀ x:Addr,A4=some x->0 < n'->w.heap.size<=x.block)/\(∀ x y:Addr,A3=some x->A4=some y->0 < n'->x.block ≠ y.block)/\TapeAt w' t s (a + (n' + 16))/\MapIs 126 w' r1 E'/\(∀ p,p ∈ E' ↔ p=(lkKey key num ad (Tap.tape s a (n' + 16)),.slice A4 n' c4) ∨ (p ∈ ES/\p.1 ≠ lkKey key num ad (Tap.tape s a (n' + 16))))/\Fr (fun b=>b=t ∨ b=r1) w w':=by
 have HG:=Lib.hid hG
 have HKB:=Lib.hid hk
 have HT:=Lib.hid hT
 have HM:=Lib.hid hM
 have HRA:=Lib.hid hra
 have HRB:=Lib.hid hrb
 have LB:=Lib.hid hrb.len
 have HOA:=Lib.hid hoa
 have HOB:=Lib.hid hob
 have hkl:=hk.lt
 have htl:=hT.blk.lt
 have hrl:=hM.lt
 obtain ⟨m,hm⟩:∃ m,m=n' + 16:=⟨_,rfl⟩
 rw [<- hm]
 have e16:(n':Int) + 16=(m:Int):=by omega
 have hm4:m<=4000:=by omega
 have hm0:0 < m:=by omega
 have d0:decide ((3000:Int) < (n':Int))=false:=decide_eq_false (by omega)
 obtain ⟨out,hout⟩:∃ l,l=Tap.tape s a m:=⟨_,rfl⟩
 rw [<- hout]
 have LO:Hid (out.length=m):=by unfold Hid; rw [hout,Tap.tape_length]
 have CN:Hid (∀ W,Gl W->TapeAt W t s a->Calls Tryd.prog 49 #[.pointer (some ⟨t,0,none⟩),.int .i64 (m:Int)] W fun e w'=>∃ A c,e = .returned (.slice A m c)/\Rd w' A m c out/\TapeAt w' t s (a + m)/\W.grownBy w' (some t)/\(∀ ad,A=some ad->W.heap.size<=ad.block)):=fun W h1 h2=>by
  rw [hout]
  exact tnext_any m h1 h2t h2 hm4 ha
 obtain ⟨x,hx⟩:∃ x,x=lkKey key num ad out:=⟨_,rfl⟩
 have HK:Hid (∃ l,keyOf Tryd.prog 126 x=some l):=by
  unfold Hid
  rw [hx]
  exact keyL h32 hn0 hn1 (by rw [hra.len]; exact Nat.le_trans hra.cap hra.max) (by have:=LO.out; unfold maxLen; omega)
 obtain ⟨kc,hkc⟩:∃ kc,kc=key.map cellOf:=⟨_,rfl⟩
 obtain ⟨cs,hcs⟩:∃ cs,cs=kc ++ [Value.int .i64 num,.string ⟨ad.toArray⟩,.string ⟨out.toArray⟩]:=⟨_,rfl⟩
 have HCS:Hid (x = .agg cs.toArray):=by unfold Hid; rw [hx,hcs,hkc]; rfl
 have K32:kc.length=32:=by rw [hkc,List.length_map,h32]
 have HBL:Hid (Tryd.prog.built 126 [(0,.agg kc.toArray),(1,.int .i64 num),(2,.string ⟨ad.toArray⟩),(3,.string ⟨out.toArray⟩)]=some cs.toArray):=by unfold Hid; rw [hcs]; exact builtL K32 _ _ _
 have IK:Hid ((Tryd.prog.info? 27).map (·.size)=some kc.length):=by unfold Hid; rw [K32]; kernel_rfl
 rw [<- hx,<- hkc]
 clear hG hk hT hM hra hrb hoa hob hm hout hx hkc hcs K32 h32
 go_enter Tryd.func56,Tryd.ntmps56
 go_upto_region 1 with (fail)
 obtain ⟨w0,hw0⟩:∃ w0,w0=w.alloc (Obj.cells kc.toArray 27):=⟨_,rfl⟩
 have B0:Hid (Blk w0 w.heap.size 27 kc):=by unfold Hid; rw [hw0]; exact Blk.new w _ _
 have W0:Hid (Below w.heap.size w w0):=by unfold Hid; rw [hw0]; exact alloc_below w _
 have hs0:w.heap.size + 1<=w0.heap.size:=by rw [hw0]; simp
 change Code.wp _ _ _ _ (w.alloc (Obj.cells kc.toArray 27))
 rw [<- hw0]
 clear hw0
 obtain ⟨g,hg⟩:∃ g,g=w.heap.size:=⟨_,rfl⟩
 rw [<- hg] at B0
 rw [<- hg]
 have hg1:w.heap.size<=g:=by omega
 have hg2:=B0.out.lt
 clear hg
 have c0:w0.cell? ⟨k,0,none⟩=some (.pointer (some ⟨t,0,none⟩)):=(HKB.out.below W0.out hkl).cell 0
 have T0:Hid (TapeAt w0 t s a):=⟨HT.out.blk.below W0.out htl,HT.out.lo,HT.out.hi⟩
 go_wp2_with fail
 refine (CN.out w0 (HG.out.below W0.out HG.out.size) T0.out).mono ?_
 rintro e w1 ⟨A3,c3,rfl,hR,hT2,hO,hF⟩
 have hs1:=hO.size
 have ht0:t < w0.heap.size:=T0.out.blk.lt
 have B1:Hid (Blk w1 g 27 kc):=(hO.block _ B0.out.lt (fun e=>by injection e with e; omega)).trans B0.out
 have K1:Hid (Blk w1 k 75 [.pointer (some ⟨t,0,none⟩),.map (some r1),m2,m3]):=(hO.block _ (by omega) (fun e=>by injection e with e; omega)).trans (HKB.out.below W0.out hkl)
 have M1:Hid (MapIs 126 w1 r1 ES):=HM.out.keep ((hO.block r1 (by omega) (fun e=>htr (by injection e with e; exact e.symm))).trans (W0.out.block r1 hrl))
 have RA:Hid (Rd w1 A n c ad):=(HRA.out.below W0.out).grown hO (fun h0 x hx=>HOA.out x hx h0)
 have RB:Hid (Rd w1 A' n' c' b):=(HRB.out.below W0.out).grown hO (fun h0 x hx=>HOB.out x hx h0)
 have RC:=Lib.hid hR
 have T1:=Lib.hid hT2
 have F3:Hid (∀ x:Addr,A3=some x->w0.heap.size<=x.block):=hF
 have IN3:=Lib.hid (hR.in_ hm0)
 have F1:Hid (Fr (fun b=>b=t ∨ b=r1) w w1):=(Fr.of_below W0.out).trans (Fr.of_only hO (.inl rfl))
 clear hR hT2 hO hF B0 T0 c0 CN HKB HT HM HRA HRB HOA HOB
 go_upto_region 4 with (fail)
 refine wp_region_any (by kernel_rfl) ?_
 change wpAny _ _ _ _ _ _ _ (World.drew _)
 replace B1:=Lib.hid B1.out.drew
 replace K1:=Lib.hid K1.out.drew
 replace M1:Hid (MapIs 126 w1.drew r1 ES):=M1.out.keep rfl
 replace RA:=Lib.hid RA.out.drew
 replace RB:=Lib.hid RB.out.drew
 replace RC:=Lib.hid RC.out.drew
 replace T1:Hid (TapeAt w1.drew t s (a + m)):=⟨T1.out.blk.drew,T1.out.lo,T1.out.hi⟩
 replace F1:Hid (Fr (fun b=>b=t ∨ b=r1) w w1.drew):=⟨F1.out.os,F1.out.tape,F1.out.output,F1.out.size,F1.out.block⟩
 replace IN3:Hid (∀ x:Addr,A3=some x->x.block < w1.drew.heap.size):=IN3.out
 replace hs1:w0.heap.size<=w1.drew.heap.size:=hs1
 generalize w1.drew=w2 at *
 refine wpAny_take (i:=0) (oi:=?oi1) (v:=.pointer (some ⟨k,0,none⟩)) ?hi1 (by kernel_rfl) (by kernel_rfl) (by kernel_rfl) ?hQ1 ?hy1 ?rest1
 case hi1=>simp only [zge]; rfl
 case hQ1=>exact fun _ _ _ h=>h
 case hy1=>exact Or.inl ⟨by rfl,by intro w; go_simp⟩
 try simp only [zpt]
 refine wpAny_take (i:=1) (oi:=?oi2) (v:=.pointer (some ⟨k,0,none⟩)) ?hi2 (by kernel_rfl) (by kernel_rfl) (by kernel_rfl) ?hQ2 ?hy2 ?rest2
 case hi2=>simp only [zge]; rfl
 case hQ2=>exact fun _ _ _ h=>h
 case hy2=>exact Or.inl ⟨by rfl,by intro w; go_simp⟩
 try simp only [zpt]
 refine wpAny_take (i:=2) (oi:=?oi3) (v:=.pointer (some ⟨k,1,none⟩)) ?hi3 (by kernel_rfl) (by kernel_rfl) (by kernel_rfl) ?hQ3 ?hy3 ?rest3
 case hi3=>simp only [zge]; rfl
 case hQ3=>exact fun _ _ _ h=>h
 case hy3=>exact Or.inl ⟨by rfl,by intro w; go_simp⟩
 try simp only [zpt]
 refine wpAny_take (i:=5) (oi:=?oi4) (v:=.int .i64 num) ?hi4 (by kernel_rfl) (by kernel_rfl) (by kernel_rfl) ?hQ4 ?hy4 ?rest4
 case hi4=>simp only [zge]; rfl
 case hQ4=>exact fun _ _ _ h=>h
 case hy4=>exact Or.inl ⟨by rfl,by intro w; go_simp⟩
 try simp only [zpt]
 refine wpAny_take (i:=6) (oi:=?oi5) (v:=.slice A n c) ?hi5 (by kernel_rfl) (by kernel_rfl) (by kernel_rfl) ?hQ5 ?hy5 ?rest5
 case hi5=>simp only [zge]; rfl
 case hQ5=>exact fun _ _ _ h=>h
 case hy5=>exact Or.inl ⟨by rfl,by intro w; go_simp⟩
 try simp only [zpt]
 refine wpAny_take (i:=8) (oi:=?oi6) (v:=.slice A3 m c3) ?hi6 (by kernel_rfl) (by kernel_rfl) (by kernel_rfl) ?hQ6 ?hy6 ?rest6
 case hi6=>simp only [zge]; rfl
 case hQ6=>exact fun _ _ _ h=>h
 case hy6=>exact Or.inl ⟨by rfl,by intro w; go_simp⟩
 try simp only [zpt]
 refine wpAny_take (i:=11) (oi:=?oi7) (v:=.slice A' n' c') ?hi7 (by kernel_rfl) (by kernel_rfl) (by kernel_rfl) ?hQ7 ?hy7 ?rest7
 case hi7=>simp only [zge]; rfl
 case hQ7=>exact fun _ _ _ h=>h
 case hy7=>exact Or.inl ⟨by rfl,by intro w; go_simp⟩
 try simp only [zpt]
 refine phaseL (fun i=>if i=10 then [4,7,9] else []) (fun d a w'=>∃ x26 x27 x30 x32 x33 x35:Value,a={ tmps:=#[.pointer (some ⟨k,0,none⟩),.agg kc.toArray,.int .i64 num,.slice A n c,.slice A' n' c',undef,.pointer (some ⟨g,0,none⟩),undef,undef,undef,.slice none 0 0,.slice A3 m c3,.slice A' n' c',.int .i64 (n':Int),.bool false,.pointer (some ⟨k,0,none⟩),.pointer (some ⟨k,0,none⟩),.pointer (some ⟨k,0,none⟩),.pointer (some ⟨t,0,none⟩),.slice A' n' c',.int .i64 (n':Int),.int .i64 (m:Int),.slice A3 m c3,.pointer (some ⟨k,0,none⟩),.pointer (some ⟨k,0,none⟩),.pointer (some ⟨k,1,none⟩),x26,x27,.int .i64 num,.slice A n c,x30,.slice A3 m c3,x32,x33,.slice A' n' c',x35,undef],defers:=[] }/\Hid (Below w2.heap.size w2 w')/\(d 3=true->x26 = .map (some r1))/\(d 4=true->x27 = .agg kc.toArray)/\(d 7=true->x30 = .string ⟨ad.toArray⟩)/\(d 9=true->x32 = .string ⟨out.toArray⟩)/\(d 10=true->x33 = .agg cs.toArray)/\(d 12=true->Hid (Nw w' w2.heap.size x35 b))) [3,4,7,9,10,12] ?step8 1 6 [3,4,7,9,10,12] _ _ _ rfl (by decide) (fun _ h=>h) (Fits.of (by kernel_rfl)) ?init8 ?fin8
 case init8=>refine ⟨_,_,_,_,_,_,rfl,Below.refl _ _,?_,?_,?_,?_,?_,?_⟩ <;> (intro h; exact absurd h (by decide))
 case step8 =>
  intro i hi d a v8 hI hdi hdeps
  obtain ⟨x26,x27,x30,x32,x33,x35,rfl,BW,h3,h4,h7,h9,h10,h12⟩:=hI
  have hsw:=BW.out.size
  simp only [List.mem_cons,List.not_mem_nil,or_false] at hi
  rcases hi with rfl | rfl | rfl | rfl | rfl | rfl
  ·have c0:v8.cell? ⟨k,1,none⟩=some (.map (some r1)):=(K1.out.below BW.out K1.out.lt).cell 1
   refine wpOp_step (o:=?os9) ?hos9 (fun K hK=>?_)
   case hos9=>simp only [zge]; rfl
   go_simp
   refine hK _ _ ?_
   clear hK K
   try simp only [zpt]
   exact ⟨_,_,_,_,_,_,rfl,BW,fun _=>rfl,fun a=>by first | exact h4 (by simpa using a) | rfl,fun a=>by first | exact h7 (by simpa using a) | rfl,fun a=>by first | exact h9 (by simpa using a) | rfl,fun a=>by first | exact h10 (by simpa using a) | rfl,fun a=>h12 (by simpa using a)⟩
  ·refine wpOp_step (o:=?os10) ?hos10 (fun K hK=>?_)
   case hos10=>simp only [zge]; rfl
   refine step_loadW rfl 27 (.tmp 6) rfl g 0 rfl kc _ Tryd.underlying27 rfl IK.out (B1.out.below BW.out B1.out.lt).cells (hK _ _ ?_)
   clear hK K
   try simp only [zpt]
   exact ⟨_,_,_,_,_,_,rfl,BW,fun a=>by first | exact h3 (by simpa using a) | rfl,fun _=>rfl,fun a=>by first | exact h7 (by simpa using a) | rfl,fun a=>by first | exact h9 (by simpa using a) | rfl,fun a=>by first | exact h10 (by simpa using a) | rfl,fun a=>h12 (by simpa using a)⟩
  ·have hcv:=conv_bytes (RA.out.below BW.out)
   refine wpOp_step (o:=?os11) ?hos11 (fun K hK=>?_)
   case hos11=>simp only [zge]; rfl
   go_simp
   refine hK _ _ ?_
   clear hK K
   try simp only [zpt]
   exact ⟨_,_,_,_,_,_,rfl,BW,fun a=>by first | exact h3 (by simpa using a) | rfl,fun a=>by first | exact h4 (by simpa using a) | rfl,fun _=>rfl,fun a=>by first | exact h9 (by simpa using a) | rfl,fun a=>by first | exact h10 (by simpa using a) | rfl,fun a=>h12 (by simpa using a)⟩
  ·have hcv:=conv_bytes (RC.out.below BW.out)
   refine wpOp_step (o:=?os12) ?hos12 (fun K hK=>?_)
   case hos12=>simp only [zge]; rfl
   go_simp
   refine hK _ _ ?_
   clear hK K
   try simp only [zpt]
   exact ⟨_,_,_,_,_,_,rfl,BW,fun a=>by first | exact h3 (by simpa using a) | rfl,fun a=>by first | exact h4 (by simpa using a) | rfl,fun a=>by first | exact h7 (by simpa using a) | rfl,fun _=>rfl,fun a=>by first | exact h10 (by simpa using a) | rfl,fun a=>h12 (by simpa using a)⟩
  ·obtain rfl:=h4 (hdeps 4 (by simp))
   obtain rfl:=h7 (hdeps 7 (by simp))
   obtain rfl:=h9 (hdeps 9 (by simp))
   refine wpOp_step (o:=?os13) ?hos13 (fun K hK=>?_)
   case hos13=>simp only [zge]; rfl
   refine step_build rfl 126 #[(0,.tmp 27),(1,.tmp 28),(2,.tmp 30),(3,.tmp 32)] rfl cs (by simp only [List.map_toArray,List.map_cons,List.map_nil]; exact HBL.out) (hK _ _ ?_)
   clear hK K
   try simp only [zpt]
   exact ⟨_,_,_,_,_,_,rfl,BW,fun a=>by first | exact h3 (by simpa using a) | rfl,fun a=>by first | exact h4 (by simpa using a) | rfl,fun a=>by first | exact h7 (by simpa using a) | rfl,fun a=>by first | exact h9 (by simpa using a) | rfl,fun _=>rfl,fun a=>h12 (by simpa using a)⟩
  ·refine wpOp_step (o:=?os14) ?hos14 (fun K hK=>?_)
   case hos14=>simp only [zge]; rfl
   go_simp
   refine (bclone_any (RB.out.below BW.out) (by omega)).mono ?_
   rintro e u8 ⟨AX,cX,rfl,hR,hX,hF⟩
   refine hK _ _ ?_
   clear hK K
   try simp only [zpt]
   exact ⟨_,_,_,_,_,_,rfl,BW.out.trans (hX.mono hsw),fun a=>by first | exact h3 (by simpa using a) | rfl,fun a=>by first | exact h4 (by simpa using a) | rfl,fun a=>by first | exact h7 (by simpa using a) | rfl,fun a=>by first | exact h9 (by simpa using a) | rfl,fun a=>by first | exact h10 (by simpa using a) | rfl,fun _=>Nw.of hR hF hsw⟩
 case fin8 =>
  intro a v8 hI
  obtain ⟨x26,x27,x30,x32,x33,x35,rfl,BW,h3,h4,h7,h9,h10,h12⟩:=hI
  obtain rfl:=h3 (by decide)
  obtain rfl:=h4 (by decide)
  obtain rfl:=h7 (by decide)
  obtain rfl:=h9 (by decide)
  obtain rfl:=h10 (by decide)
  obtain ⟨A4,c4,rfl,hR4,hF4⟩:=(h12 (by decide)).out.slice LB.out
  obtain ⟨w5,E',hup,hM5,hE5,o1,o2,o3,o4,o5⟩:=(M1.out.keep (BW.out.block r1 M1.out.lt)).put lawL Tryd.underlying72 HK.out (.slice A4 n' c4)
  rw [HCS.out] at hup
  have hsB:=BW.out.size
  have F5:Hid (Fr (fun b=>b=t ∨ b=r1) w w5):=(F1.out.cut BW.out F1.out.size).trans ⟨o1,o2,o3,by omega,fun i hi hn=>o5 i (fun e=>hn (.inr e))⟩
  have T5:Hid (TapeAt w5 t s (a + m)):=⟨(o5 _ htr).trans (T1.out.blk.below BW.out T1.out.blk.lt),T1.out.lo,T1.out.hi⟩
  have R4:Hid (Rd w5 A4 n' c4 b):=hR4.keep (by omega) (fun bb off e h0 hlt=>o5 bb (by have h1:=hF4 _ e h0; have h2:=M1.out.lt; simp only at h1; omega))
  have R3:Hid (Rd w5 A3 m c3 out):=(RC.out.below BW.out).keep (by omega) (fun bb off e h0 hlt=>o5 bb (by have h1:=F3.out _ e; simp only at h1; omega))
  have N4:=Lib.hid hF4
  have M5:=Lib.hid hM5
  have H5:=Lib.hid hE5
  clear h12 h3 h4 h7 h9 h10 hR4 hF4 hM5 hE5 T1 F1 RC RA RB K1 B1
  try dsimp only
  refine wpAny_ready (rs:=[13]) (by kernel_rfl) (by simp) ?_
  refine AllReady.cons (o:=?p15) ?q15 (fun K hK=>?_) AllReady.nil
  case q15=>simp only [zge]; rfl
  go_simp
  refine hK _ _ ?_
  clear hK K
  try simp only [zpt]
  refine wpAny_done (by kernel_rfl) ?_ _
  clear hup
  go_wp2_with fail
  go_ret
  refine ⟨A3,c3,A4,c4,E',rfl,R3.out,fun y hy=>?_,R4.out,fun y hy h0=>?_,fun y z hy hz h0=>?_,T5.out,M5.out,H5.out,F5.out⟩
  ·have:=F3.out y hy
   omega
  ·have:=N4.out y hy h0
   omega
  ·have h1:=IN3.out y hy
   have h2:=N4.out z hz h0
   omega
set_option maxRecDepth 100000 in
set_option maxHeartbeats 4000000 in
theorem bopen_any {w:World} {k t r1:Nat} {m2 m3:Value} {A A' A3:Option Addr} {n c n' c' n3 c3:Nat} {ad b l:List UInt8} (key:List UInt8) (num:Int) (ok:Bool) (hk:Blk w k 75 [.pointer (some ⟨t,0,none⟩),.map (some r1),m2,m3]) (hrl:r1 < w.heap.size) (h32:key.length=32) (hra:Rd w A n c ad) (hrb:Rd w A' n' c' b)
  (hlk:∀ W:World,W.heap[r1]?=w.heap[r1]?->(Instr.lookup 72 (.map (some r1)) (lkKey key num ad b) true).run Tryd.prog W = .ok (.tuple #[.slice A3 n3 c3,.bool ok]) W) (hr3:Rd w A3 n3 c3 l) (hn3:n3<=100000) :
  Calls Tryd.prog 59 #[.pointer (some ⟨k,0,none⟩),.agg (key.map cellOf).toArray,.int .i64 num,.slice A n c,.slice A' n' c'] w (RetP w (l,ok)):=by
 have HKB:=Lib.hid hk
 have HRA:=Lib.hid hra
 have HRB:=Lib.hid hrb
 have HR3:=Lib.hid hr3
 have hkl:=hk.lt
 obtain ⟨kc,hkc⟩:∃ kc,kc=key.map cellOf:=⟨_,rfl⟩
 obtain ⟨cs,hcs⟩:∃ cs,cs=kc ++ [Value.int .i64 num,.string ⟨ad.toArray⟩,.string ⟨b.toArray⟩]:=⟨_,rfl⟩
 rw [show lkKey key num ad b = .agg cs.toArray by rw [hcs,hkc]; rfl] at hlk
 have HLK:=Lib.hid hlk
 have K32:kc.length=32:=by rw [hkc,List.length_map,h32]
 have HBL:Hid (Tryd.prog.built 126 [(0,.agg kc.toArray),(1,.int .i64 num),(2,.string ⟨ad.toArray⟩),(3,.string ⟨b.toArray⟩)]=some cs.toArray):=by unfold Hid; rw [hcs]; exact builtL K32 _ _ _
 have IK:Hid ((Tryd.prog.info? 27).map (·.size)=some kc.length):=by unfold Hid; rw [K32]; kernel_rfl
 rw [<- hkc]
 clear hk hra hrb hr3 hlk hkc hcs K32 h32
 go_enter Tryd.func59,Tryd.ntmps59
 go_upto_region 1 with (fail)
 refine wp_region_any (by kernel_rfl) ?_
 obtain ⟨w2,hw2⟩:∃ w2,w2=(w.alloc (Obj.cells kc.toArray 27)).drew:=⟨_,rfl⟩
 have B1:Hid (Blk w2 w.heap.size 27 kc):=by unfold Hid; rw [hw2]; exact (Blk.new w _ _).drew
 have W2:Hid (Below w.heap.size w w2):=by unfold Hid; rw [hw2]; exact (alloc_below w _).drew
 have hs0:w.heap.size + 1<=w2.heap.size:=by rw [hw2]; show w.heap.size + 1<=(w.alloc _).heap.size; simp
 change wpAny _ _ _ _ _ _ _ (w.alloc (Obj.cells kc.toArray 27)).drew
 rw [<- hw2]
 clear hw2
 obtain ⟨g,hg⟩:∃ g,g=w.heap.size:=⟨_,rfl⟩
 rw [<- hg] at B1
 rw [<- hg]
 have hg1:w.heap.size<=g:=by omega
 clear hg
 have K1:=Lib.hid (HKB.out.below W2.out hkl)
 have RA:=Lib.hid (HRA.out.below W2.out)
 have RB:=Lib.hid (HRB.out.below W2.out)
 clear HKB HRA HRB
 refine wpAny_take (i:=0) (oi:=?oi16) (v:=.pointer (some ⟨k,0,none⟩)) ?hi16 (by kernel_rfl) (by kernel_rfl) (by kernel_rfl) ?hQ16 ?hy16 ?rest16
 case hi16=>simp only [zge]; rfl
 case hQ16=>exact fun _ _ _ h=>h
 case hy16=>exact Or.inl ⟨by rfl,by intro w; go_simp⟩
 try simp only [zpt]
 refine wpAny_take (i:=1) (oi:=?oi17) (v:=.pointer (some ⟨k,0,none⟩)) ?hi17 (by kernel_rfl) (by kernel_rfl) (by kernel_rfl) ?hQ17 ?hy17 ?rest17
 case hi17=>simp only [zge]; rfl
 case hQ17=>exact fun _ _ _ h=>h
 case hy17=>exact Or.inl ⟨by rfl,by intro w; go_simp⟩
 try simp only [zpt]
 refine wpAny_take (i:=2) (oi:=?oi18) (v:=.pointer (some ⟨k,1,none⟩)) ?hi18 (by kernel_rfl) (by kernel_rfl) (by kernel_rfl) ?hQ18 ?hy18 ?rest18
 case hi18=>simp only [zge]; rfl
 case hQ18=>exact fun _ _ _ h=>h
 case hy18=>exact Or.inl ⟨by rfl,by intro w; go_simp⟩
 try simp only [zpt]
 refine wpAny_take (i:=5) (oi:=?oi19) (v:=.int .i64 num) ?hi19 (by kernel_rfl) (by kernel_rfl) (by kernel_rfl) ?hQ19 ?hy19 ?rest19
 case hi19=>simp only [zge]; rfl
 case hQ19=>exact fun _ _ _ h=>h
 case hy19=>exact Or.inl ⟨by rfl,by intro w; go_simp⟩
 try simp only [zpt]
 refine wpAny_take (i:=6) (oi:=?oi20) (v:=.slice A n c) ?hi20 (by kernel_rfl) (by kernel_rfl) (by kernel_rfl) ?hQ20 ?hy20 ?rest20
 case hi20=>simp only [zge]; rfl
 case hQ20=>exact fun _ _ _ h=>h
 case hy20=>exact Or.inl ⟨by rfl,by intro w; go_simp⟩
 try simp only [zpt]
 refine wpAny_take (i:=8) (oi:=?oi21) (v:=.slice A' n' c') ?hi21 (by kernel_rfl) (by kernel_rfl) (by kernel_rfl) ?hQ21 ?hy21 ?rest21
 case hi21=>simp only [zge]; rfl
 case hQ21=>exact fun _ _ _ h=>h
 case hy21=>exact Or.inl ⟨by rfl,by intro w; go_simp⟩
 try simp only [zpt]
 refine phaseL (fun i=>if i=10 then [4,7,9] else if i=11 then [3,10] else if i=12 then [11] else if i=13 then [12] else if i=14 then [12] else if i=15 then [13,3,4,7,9,10,11,12] else []) (fun d a w'=>∃ x18 x19 x22 x24 x25 x26 x14 x27 x28 x12:Value,a={ tmps:=#[.pointer (some ⟨k,0,none⟩),.agg kc.toArray,.int .i64 num,.slice A n c,.slice A' n' c',undef,.pointer (some ⟨g,0,none⟩),undef,undef,undef,.slice none 0 0,.bool false,x12,undef,x14,.pointer (some ⟨k,0,none⟩),.pointer (some ⟨k,0,none⟩),.pointer (some ⟨k,1,none⟩),x18,x19,.int .i64 num,.slice A n c,x22,.slice A' n' c',x24,x25,x26,x27,x28,undef,undef,undef],defers:=[] }/\Hid (Below w2.heap.size w2 w')/\(d 3=true->x18 = .map (some r1))/\(d 4=true->x19 = .agg kc.toArray)/\(d 7=true->x22 = .string ⟨ad.toArray⟩)/\(d 9=true->x24 = .string ⟨b.toArray⟩)/\(d 10=true->x25 = .agg cs.toArray)/\(d 11=true->x26 = .tuple #[.slice A3 n3 c3,.bool ok])/\(d 12=true->x14 = .tuple #[.slice A3 n3 c3,.bool ok])/\(d 13=true->x27 = .slice A3 n3 c3)/\(d 14=true->x28 = .bool ok)/\(d 15=true->x12 = .slice A3 n3 c3)) [3,4,7,9,10,11,12,13,14,15] ?step22 1 10 [3,4,7,9,10,11,12,13,14,15] _ _ _ rfl (by decide) (fun _ h=>h) (Fits.of (by kernel_rfl)) ?init22 ?fin22
 case init22=>refine ⟨_,_,_,_,_,_,_,_,_,_,rfl,Below.refl _ _,?_,?_,?_,?_,?_,?_,?_,?_,?_,?_⟩ <;> (intro h; exact absurd h (by decide))
 case step22 =>
  intro i hi d a v22 hI hdi hdeps
  obtain ⟨x18,x19,x22,x24,x25,x26,x14,x27,x28,x12,rfl,BW,h3,h4,h7,h9,h10,h11,h12,h13,h14,h15⟩:=hI
  have hsw:=BW.out.size
  simp only [List.mem_cons,List.not_mem_nil,or_false] at hi
  rcases hi with rfl | rfl | rfl | rfl | rfl | rfl | rfl | rfl | rfl | rfl
  ·have c0:v22.cell? ⟨k,1,none⟩=some (.map (some r1)):=(K1.out.below BW.out K1.out.lt).cell 1
   refine wpOp_step (o:=?os23) ?hos23 (fun K hK=>?_)
   case hos23=>simp only [zge]; rfl
   go_simp
   refine hK _ _ ?_
   clear hK K
   try simp only [zpt]
   exact ⟨_,_,_,_,_,_,_,_,_,_,rfl,BW,fun _=>rfl,fun a=>by first | exact h4 (by simpa using a) | rfl,fun a=>by first | exact h7 (by simpa using a) | rfl,fun a=>by first | exact h9 (by simpa using a) | rfl,fun a=>by first | exact h10 (by simpa using a) | rfl,fun a=>by first | exact h11 (by simpa using a) | rfl,fun a=>by first | exact h12 (by simpa using a) | rfl,fun a=>by first | exact h13 (by simpa using a) | rfl,fun a=>by first | exact h14 (by simpa using a) | rfl,fun a=>by first | exact h15 (by simpa using a) | rfl⟩
  ·refine wpOp_step (o:=?os24) ?hos24 (fun K hK=>?_)
   case hos24=>simp only [zge]; rfl
   refine step_loadW rfl 27 (.tmp 6) rfl g 0 rfl kc _ Tryd.underlying27 rfl IK.out (B1.out.below BW.out B1.out.lt).cells (hK _ _ ?_)
   clear hK K
   try simp only [zpt]
   exact ⟨_,_,_,_,_,_,_,_,_,_,rfl,BW,fun a=>by first | exact h3 (by simpa using a) | rfl,fun _=>rfl,fun a=>by first | exact h7 (by simpa using a) | rfl,fun a=>by first | exact h9 (by simpa using a) | rfl,fun a=>by first | exact h10 (by simpa using a) | rfl,fun a=>by first | exact h11 (by simpa using a) | rfl,fun a=>by first | exact h12 (by simpa using a) | rfl,fun a=>by first | exact h13 (by simpa using a) | rfl,fun a=>by first | exact h14 (by simpa using a) | rfl,fun a=>by first | exact h15 (by simpa using a) | rfl⟩
  ·have hcv:=conv_bytes (RA.out.below BW.out)
   refine wpOp_step (o:=?os25) ?hos25 (fun K hK=>?_)
   case hos25=>simp only [zge]; rfl
   go_simp
   refine hK _ _ ?_
   clear hK K
   try simp only [zpt]
   exact ⟨_,_,_,_,_,_,_,_,_,_,rfl,BW,fun a=>by first | exact h3 (by simpa using a) | rfl,fun a=>by first | exact h4 (by simpa using a) | rfl,fun _=>rfl,fun a=>by first | exact h9 (by simpa using a) | rfl,fun a=>by first | exact h10 (by simpa using a) | rfl,fun a=>by first | exact h11 (by simpa using a) | rfl,fun a=>by first | exact h12 (by simpa using a) | rfl,fun a=>by first | exact h13 (by simpa using a) | rfl,fun a=>by first | exact h14 (by simpa using a) | rfl,fun a=>by first | exact h15 (by simpa using a) | rfl⟩
  ·have hcv:=conv_bytes (RB.out.below BW.out)
   refine wpOp_step (o:=?os26) ?hos26 (fun K hK=>?_)
   case hos26=>simp only [zge]; rfl
   go_simp
   refine hK _ _ ?_
   clear hK K
   try simp only [zpt]
   exact ⟨_,_,_,_,_,_,_,_,_,_,rfl,BW,fun a=>by first | exact h3 (by simpa using a) | rfl,fun a=>by first | exact h4 (by simpa using a) | rfl,fun a=>by first | exact h7 (by simpa using a) | rfl,fun _=>rfl,fun a=>by first | exact h10 (by simpa using a) | rfl,fun a=>by first | exact h11 (by simpa using a) | rfl,fun a=>by first | exact h12 (by simpa using a) | rfl,fun a=>by first | exact h13 (by simpa using a) | rfl,fun a=>by first | exact h14 (by simpa using a) | rfl,fun a=>by first | exact h15 (by simpa using a) | rfl⟩
  ·obtain rfl:=h4 (hdeps 4 (by simp))
   obtain rfl:=h7 (hdeps 7 (by simp))
   obtain rfl:=h9 (hdeps 9 (by simp))
   refine wpOp_step (o:=?os27) ?hos27 (fun K hK=>?_)
   case hos27=>simp only [zge]; rfl
   refine step_build rfl 126 #[(0,.tmp 19),(1,.tmp 20),(2,.tmp 22),(3,.tmp 24)] rfl cs (by simp only [List.map_toArray,List.map_cons,List.map_nil]; exact HBL.out) (hK _ _ ?_)
   clear hK K
   try simp only [zpt]
   exact ⟨_,_,_,_,_,_,_,_,_,_,rfl,BW,fun a=>by first | exact h3 (by simpa using a) | rfl,fun a=>by first | exact h4 (by simpa using a) | rfl,fun a=>by first | exact h7 (by simpa using a) | rfl,fun a=>by first | exact h9 (by simpa using a) | rfl,fun _=>rfl,fun a=>by first | exact h11 (by simpa using a) | rfl,fun a=>by first | exact h12 (by simpa using a) | rfl,fun a=>by first | exact h13 (by simpa using a) | rfl,fun a=>by first | exact h14 (by simpa using a) | rfl,fun a=>by first | exact h15 (by simpa using a) | rfl⟩
  ·obtain rfl:=h3 (hdeps 3 (by simp))
   obtain rfl:=h10 (hdeps 10 (by simp))
   have hlk:=HLK.out v22 ((BW.out.block r1 (by omega)).trans (W2.out.block r1 hrl))
   refine wpOp_step (o:=?os28) ?hos28 (fun K hK=>?_)
   case hos28=>simp only [zge]; rfl
   go_simp
   refine hK _ _ ?_
   clear hK K
   try simp only [zpt]
   exact ⟨_,_,_,_,_,_,_,_,_,_,rfl,BW,fun a=>by first | exact h3 (by simpa using a) | rfl,fun a=>by first | exact h4 (by simpa using a) | rfl,fun a=>by first | exact h7 (by simpa using a) | rfl,fun a=>by first | exact h9 (by simpa using a) | rfl,fun a=>by first | exact h10 (by simpa using a) | rfl,fun _=>rfl,fun a=>by first | exact h12 (by simpa using a) | rfl,fun a=>by first | exact h13 (by simpa using a) | rfl,fun a=>by first | exact h14 (by simpa using a) | rfl,fun a=>by first | exact h15 (by simpa using a) | rfl⟩
  ·obtain rfl:=h11 (hdeps 11 (by simp))
   refine wpOp_step (o:=?os29) ?hos29 (fun K hK=>?_)
   case hos29=>simp only [zge]; rfl
   go_simp
   refine hK _ _ ?_
   clear hK K
   try simp only [zpt]
   exact ⟨_,_,_,_,_,_,_,_,_,_,rfl,BW,fun a=>by first | exact h3 (by simpa using a) | rfl,fun a=>by first | exact h4 (by simpa using a) | rfl,fun a=>by first | exact h7 (by simpa using a) | rfl,fun a=>by first | exact h9 (by simpa using a) | rfl,fun a=>by first | exact h10 (by simpa using a) | rfl,fun a=>by first | exact h11 (by simpa using a) | rfl,fun _=>rfl,fun a=>by first | exact h13 (by simpa using a) | rfl,fun a=>by first | exact h14 (by simpa using a) | rfl,fun a=>by first | exact h15 (by simpa using a) | rfl⟩
  ·obtain rfl:=h12 (hdeps 12 (by simp))
   refine wpOp_step (o:=?os30) ?hos30 (fun K hK=>?_)
   case hos30=>simp only [zge]; rfl
   go_simp
   refine hK _ _ ?_
   clear hK K
   try simp only [zpt]
   exact ⟨_,_,_,_,_,_,_,_,_,_,rfl,BW,fun a=>by first | exact h3 (by simpa using a) | rfl,fun a=>by first | exact h4 (by simpa using a) | rfl,fun a=>by first | exact h7 (by simpa using a) | rfl,fun a=>by first | exact h9 (by simpa using a) | rfl,fun a=>by first | exact h10 (by simpa using a) | rfl,fun a=>by first | exact h11 (by simpa using a) | rfl,fun a=>by first | exact h12 (by simpa using a) | rfl,fun _=>rfl,fun a=>by first | exact h14 (by simpa using a) | rfl,fun a=>by first | exact h15 (by simpa using a) | rfl⟩
  ·obtain rfl:=h12 (hdeps 12 (by simp))
   refine wpOp_step (o:=?os31) ?hos31 (fun K hK=>?_)
   case hos31=>simp only [zge]; rfl
   go_simp
   refine hK _ _ ?_
   clear hK K
   try simp only [zpt]
   exact ⟨_,_,_,_,_,_,_,_,_,_,rfl,BW,fun a=>by first | exact h3 (by simpa using a) | rfl,fun a=>by first | exact h4 (by simpa using a) | rfl,fun a=>by first | exact h7 (by simpa using a) | rfl,fun a=>by first | exact h9 (by simpa using a) | rfl,fun a=>by first | exact h10 (by simpa using a) | rfl,fun a=>by first | exact h11 (by simpa using a) | rfl,fun a=>by first | exact h12 (by simpa using a) | rfl,fun a=>by first | exact h13 (by simpa using a) | rfl,fun _=>rfl,fun a=>by first | exact h15 (by simpa using a) | rfl⟩
  ·obtain rfl:=h13 (hdeps 13 (by simp))
   refine wpOp_step (o:=?os32) ?hos32 (fun K hK=>?_)
   case hos32=>simp only [zge]; rfl
   go_simp
   refine hK _ _ ?_
   clear hK K
   try simp only [zpt]
   exact ⟨_,_,_,_,_,_,_,_,_,_,rfl,BW,fun a=>by first | exact h3 (by simpa using a) | rfl,fun a=>by first | exact h4 (by simpa using a) | rfl,fun a=>by first | exact h7 (by simpa using a) | rfl,fun a=>by first | exact h9 (by simpa using a) | rfl,fun a=>by first | exact h10 (by simpa using a) | rfl,fun a=>by first | exact h11 (by simpa using a) | rfl,fun a=>by first | exact h12 (by simpa using a) | rfl,fun a=>by first | exact h13 (by simpa using a) | rfl,fun a=>by first | exact h14 (by simpa using a) | rfl,fun _=>rfl⟩
 case fin22 =>
  intro a v22 hI
  obtain ⟨x18,x19,x22,x24,x25,x26,x14,x27,x28,x12,rfl,BW,h3,h4,h7,h9,h10,h11,h12,h13,h14,h15⟩:=hI
  obtain rfl:=h3 (by decide)
  obtain rfl:=h4 (by decide)
  obtain rfl:=h7 (by decide)
  obtain rfl:=h9 (by decide)
  obtain rfl:=h10 (by decide)
  obtain rfl:=h11 (by decide)
  obtain rfl:=h12 (by decide)
  obtain rfl:=h13 (by decide)
  obtain rfl:=h14 (by decide)
  obtain rfl:=h15 (by decide)
  have W3:=Lib.hid (W2.out.trans (BW.out.mono W2.out.size))
  have R3:=Lib.hid (HR3.out.below W3.out)
  clear h3 h4 h7 h9 h10 h11 h12 h13 h14 h15 BW W2 RA RB K1 B1 HR3
  try dsimp only
  refine wpAny_take (i:=16) (oi:=?oi33) (v:=.bool ok) ?hi33 (by kernel_rfl) (by kernel_rfl) (by kernel_rfl) ?hQ33 ?hy33 ?rest33
  case hi33=>simp only [zge]; rfl
  case hQ33=>exact fun _ _ _ h=>h
  case hy33=>exact Or.inl ⟨by rfl,by intro w; go_simp⟩
  try simp only [zpt]
  refine wpAny_done (by kernel_rfl) ?_ _
  go_wp2_with fail
  refine (bclone_any R3.out hn3).mono ?_
  rintro e w4 ⟨A4,c4,rfl,hR,hX,hF⟩
  have R4:=Lib.hid hR
  have F4:=Lib.hid hF
  have hs3:=W3.out.size
  have W4:=Lib.hid (W3.out.trans (hX.mono hs3))
  clear hR hF hX
  go_wp2_with fail
  go_ret2
  exact ⟨A4,n3,c4,rfl,R4.out,W4.out,fun y hy h0=>by have:=F4.out y hy h0; omega⟩
end Go.Proofs.YtajgjeialbgijaaDoor
namespace Go.Proofs.YtajgjeialbgijaaDoor
set_option linter.unusedVariables false
set_option linter.unusedSimpArgs false
set_option maxRecDepth 100000
open Go.RowKit
theorem zero28 (W:World):(zeroValue 41).run Tryd.prog W = .ok (.slice none 0 0) W:=by kernel_rfl
theorem BxJ.sealed {w:World} {g k t r1 r2 r3:Nat} {s:Int} {a:Nat} {S:List Bx.SNote} {B L:List Bx.BNote} {ES EB EL:List (Value × Value)} {M:Nat->Prop} (J:BxJ w g k t r1 r2 r3 s a S B L ES EB EL M) {w':World} {a2:Nat} {E':List (Value × Value)} {key ad b out:List UInt8} {num:Int} {A4:Option Addr} {n4 c4:Nat} (h32:key.length=32) (hF:Fr (fun b=>b=t ∨ b=r1) w w') (hT:TapeAt w' t s a2) (hM:MapIs 126 w' r1 E')
  (hE:∀ p,p ∈ E' ↔ p=(lkKey key num ad out,.slice A4 n4 c4) ∨ (p ∈ ES/\p.1 ≠ lkKey key num ad out)) (hR:Rd w' A4 n4 c4 b) (hn4:n4<=3000) (hN:∀ x:Addr,A4=some x->0 < n4->w.heap.size<=x.block) :
  BxJ w' g k t r1 r2 r3 s a2 (⟨key,num,ad,b,out⟩ :: S) B L E' EB EL (fun x=>M x ∨ ∃ y:Addr,A4=some y/\0 < n4/\x=y.block):=by
 obtain ⟨x1,x2,x3,x4,x5,x6,x7,x8,x9,x10,x11,x12,x13,x14,x15⟩:=J.ne
 have hb:∀ b,M b->b ≠ t->b ≠ r1->w'.heap[b]?=w.heap[b]?:=fun b hb h1 h2=>hF.block b (J.lt b hb) (by rintro (h | h) <;> contradiction)
 have mg:=J.mem g (.inl rfl)
 have mk:=J.mem k (.inr (.inl rfl))
 have m2:=J.mem r2 (.inr (.inr (.inr (.inr (.inl rfl)))))
 have m3:=J.mem r3 (.inr (.inr (.inr (.inr (.inr rfl)))))
 exact {
  bg:=(hb g mg x2 x3).trans J.bg
  bk:=(hb k mk x6 x7).trans J.bk
  tp:=hT
  mS:=hM
  mB:=J.mB.keep (hb r2 m2 (Ne.symm x11) (Ne.symm x13))
  mL:=J.mL.keep (hb r3 m3 (Ne.symm x12) (Ne.symm x14))
  sS:=by
   constructor
   ·intro p hp
    rcases (hE p).1 hp with rfl | ⟨h1,h2⟩
    ·refine ⟨key,num,ad,out,b,A4,n4,c4,h32,rfl,hR,hn4,?_,fun x hx h0=>⟨.inr ⟨x,hx,h0,rfl⟩,fun h=>?_⟩⟩
     ·simp [Bx.lookS]
     ·have:=J.lt x.block (J.mem _ h)
      have:=hN x hx h0
      omega
    ·obtain ⟨k2,n2,ad2,c2,b2,A,n,cp,e1,e2,e3,e30,e4,e5⟩:=J.sS.of p h1
     refine ⟨k2,n2,ad2,c2,b2,A,n,cp,e1,e2,?_,e30,?_,fun x hx h0=>⟨.inl (e5 x hx h0).1,(e5 x hx h0).2⟩⟩
     ·refine e3.keep hF.size fun bb off e h0 _=>hb bb (e5 _ e h0).1 (fun h=>(e5 _ e h0).2 (.inr (.inr (.inl h)))) (fun h=>(e5 _ e h0).2 (.inr (.inr (.inr (.inl h)))))
     ·rw [Bx.lookS,if_neg]
      ·exact e4
      ·rintro ⟨rfl,rfl,rfl,rfl⟩
       exact h2 (by rw [e2])
   ·intro k2 n2 ad2 c2 hk2 hl
    by_cases he:key=k2/\num=n2/\ad=ad2/\out=c2
    ·obtain ⟨rfl,rfl,rfl,rfl⟩:=he
     exact ⟨_,(hE _).2 (.inl rfl)⟩
    ·rw [Bx.lookS,if_neg he] at hl
     obtain ⟨v,hv⟩:=J.sS.is k2 n2 ad2 c2 hk2 hl
     exact ⟨v,(hE _).2 (.inr ⟨hv,fun h=>by
      obtain ⟨q1,q2,q3,q4⟩:=lkKey_inj hk2 h32 h
      exact he ⟨q1.symm,q2.symm,q3.symm,q4.symm⟩⟩)⟩
  sB:=J.sB
  sL:=J.sL
  gB:=J.gB
  gL:=J.gL
  ne:=J.ne
  mem:=fun x h=>.inl (J.mem x h)
  lt:=by
   rintro b (h | ⟨y,hy,h0,rfl⟩)
   ·exact Nat.lt_of_lt_of_le (J.lt b h) hF.size
   ·exact hR.in_ h0 y hy }
theorem BxJ.found {w:World} {g k t r1 r2 r3:Nat} {s:Int} {a:Nat} {S:List Bx.SNote} {B L:List Bx.BNote} {ES EB EL:List (Value × Value)} {M:Nat->Prop} (J:BxJ w g k t r1 r2 r3 s a S B L ES EB EL M) {key ad c:List UInt8} {num:Int} (h32:key.length=32) (h1:-9223372036854775808<=num) (h2:num<=9223372036854775807) (ha:ad.length<=1000000) (hc:c.length<=1000000) :
  ∃ A3 n3 c3,(∀ W:World,W.heap[r1]?=w.heap[r1]?->(Instr.lookup 72 (.map (some r1)) (lkKey key num ad c) true).run Tryd.prog W = .ok (.tuple #[.slice A3 n3 c3,.bool (Bx.openBy key num ad c S).2]) W)/\Rd w A3 n3 c3 (Bx.openBy key num ad c S).1/\n3<=3000:=by
 have HK:=keyL h32 h1 h2 (show ad.length<=maxLen by unfold maxLen; omega) (show c.length<=maxLen by unfold maxLen; omega)
 by_cases hv:∃ v,(lkKey key num ad c,v) ∈ ES
 ·obtain ⟨v,hv⟩:=hv
  obtain ⟨k2,n2,ad2,c2,b2,A,n,cp,e1,e2,e3,e30,e4,e5⟩:=J.sS.of _ hv
  injection e2 with e2 e6
  obtain ⟨rfl,rfl,rfl,rfl⟩:=lkKey_inj h32 e1 e2
  have ho:Bx.openBy key num ad c S=(b2,true):=by simp [Bx.openBy,e4]
  rw [ho]
  refine ⟨A,n,cp,fun W hW=>?_,e3,e30⟩
  rcases (J.mS.keep hW).look lawL Tryd.underlying72 (zero28 W) HK with ⟨_,hn⟩ | ⟨v2,hr,hi⟩
  ·exact absurd hv (hn v)
  ·rw [hr]
   have:v2=v:=by
    have h3:=J.mS.once
    obtain ⟨i,hi'⟩:=List.mem_iff_getElem?.1 hi
    obtain ⟨j,hj'⟩:=List.mem_iff_getElem?.1 hv
    have n1:(ES.map (·.1))[i]?=some (lkKey key num ad c):=by rw [List.getElem?_map,hi']; rfl
    have n2:(ES.map (·.1))[j]?=some (lkKey key num ad c):=by rw [List.getElem?_map,hj']; rfl
    have hij:i=j:=(List.getElem?_inj (List.getElem?_eq_some_iff.1 n1).1 h3).1 (n1.trans n2.symm)
    rw [hij,hj'] at hi'
    injection hi' with hi'
    injection hi' with _ hi'
    exact hi'.symm
   rw [this,e6]
 ·have hl:Bx.lookS key num ad c S=none:=by
   cases h:Bx.lookS key num ad c S with
   | none=>rfl
   | some b=>exact absurd (J.sS.is key num ad c h32 (by rw [h]; simp)) hv
  have ho:Bx.openBy key num ad c S=([],false):=by simp [Bx.openBy,hl]
  rw [ho]
  refine ⟨none,0,0,fun W hW=>?_,Rd.nil _ _ _ (by unfold maxLen; omega),by omega⟩
  rcases (J.mS.keep hW).look lawL Tryd.underlying72 (zero28 W) HK with ⟨hr,_⟩ | ⟨v2,hr,hi⟩
  ·exact hr
  ·exact absurd ⟨v2,hi⟩ hv
set_option maxRecDepth 100000 in
theorem bslZ (w:World) (key:List UInt8) (num:Int) (A A':Option Addr) (n c n' c':Nat) (hk:key.length=32):Calls Tryd.prog 41 #[.pointer none,.agg (key.map cellOf).toArray,.int .i64 num,.slice A n c,.slice A' n' c'] w fun e w'=>e = .returned (.slice none 0 0)/\Below w.heap.size w w':=by
 generalize key.map cellOf=kc
 go_enter Tryd.func41,Tryd.ntmps41
 go_wp2_with fail
 go_ret
 exact ⟨rfl,alloc_below w _⟩
set_option maxRecDepth 100000 in
theorem bslN {w:World} {g:Nat} (key:List UInt8) (num:Int) (A A':Option Addr) (n c n' c':Nat) (hk:key.length=32) (hn:num < 0):Calls Tryd.prog 41 #[.pointer (some ⟨g,0,none⟩),.agg (key.map cellOf).toArray,.int .i64 num,.slice A n c,.slice A' n' c'] w fun e w'=>e = .returned (.slice none 0 0)/\Below w.heap.size w w':=by
 have d0:decide (num < 0)=true:=decide_eq_true hn
 generalize key.map cellOf=kc
 go_enter Tryd.func41,Tryd.ntmps41
 go_wp2_with fail
 go_ret
 exact ⟨rfl,alloc_below w _⟩
set_option maxRecDepth 100000 in
set_option maxHeartbeats 4000000 in
theorem bslR {w:World} {g:Nat} {A A':Option Addr} {n c n' c':Nat} {ad b:List UInt8} (key:List UInt8) (num:Int) (hg:Blk w g 66 [.pointer none]) (h32:key.length=32) (hn0:0<=num) (hn1:num<=9223372036854775807) (hra:Rd w A n c ad) (hrb:Rd w A' n' c' b) (hna:n<=3000) (hnb:n'<=3000) :
  Calls Tryd.prog 41 #[.pointer (some ⟨g,0,none⟩),.agg (key.map cellOf).toArray,.int .i64 num,.slice A n c,.slice A' n' c'] w (RetSR w (Ae.sealed key (Bx.nonce num) ad b)):=by
 obtain ⟨out,hout⟩:∃ l,l=Ae.sealed key (Bx.nonce num) ad b:=⟨_,rfl⟩
 rw [<- hout]
 obtain ⟨kc,hkc⟩:∃ kc,kc=key.map cellOf:=⟨_,rfl⟩
 obtain ⟨nc,hnc⟩:∃ nc,nc=(Bx.nonce num).map cellOf:=⟨_,rfl⟩
 have CS:Hid (∀ W,Rd W A n c ad->Rd W A' n' c' b->Calls Tryd.prog 57 #[.agg kc.toArray,.agg nc.toArray,.slice A n c,.slice A' n' c'] W fun e w'=>∃ A n c,e = .returned (.slice A n c)/\Rd w' A n c out/\Below W.heap.size W w'/\∀ x,A=some x->0 < n->W.heap.size<=x.block):=fun W h1 h2=>by
  rw [hkc,hnc,hout]
  exact seal_new key (Bx.nonce num) h32 (Bx.nonce_length num) h1 h2 (by omega) (by omega)
 have CT:Hid (∀ W,Calls Tryd.prog 58 #[.int .i64 num] W fun e w'=>e = .returned (.agg nc.toArray)/\Below W.heap.size W w'):=fun W=>by
  obtain ⟨m,rfl⟩:=Int.eq_ofNat_of_zero_le hn0
  rw [hnc]
  exact twelve_any m W (by omega)
 have IK:Hid ((Tryd.prog.info? 27).map (·.size)=some kc.length):=by unfold Hid; rw [hkc,List.length_map,h32]; kernel_rfl
 have d0:decide (num < 0)=false:=decide_eq_false (by omega)
 have HBG:=Lib.hid hg
 have hgl:=hg.lt
 have HRA:=Lib.hid hra
 have HRB:=Lib.hid hrb
 rw [<- hkc]
 clear hg hra hrb hkc hnc hout h32
 go_enter Tryd.func41,Tryd.ntmps41
 go_upto_region 1 with (fail)
 obtain ⟨w0,hw0⟩:∃ w0,w0=w.alloc (Obj.cells kc.toArray 27):=⟨_,rfl⟩
 have B0:Hid (Blk w0 w.heap.size 27 kc):=by unfold Hid; rw [hw0]; exact Blk.new w _ _
 have W0:Hid (Below w.heap.size w w0):=by unfold Hid; rw [hw0]; exact alloc_below w _
 change Code.wp _ _ _ _ (w.alloc (Obj.cells kc.toArray 27))
 rw [<- hw0]
 clear hw0
 obtain ⟨q,hq⟩:∃ q,q=w.heap.size:=⟨_,rfl⟩
 rw [<- hq] at B0
 rw [<- hq]
 clear hq
 have c0:w0.cell? ⟨g,0,none⟩=some (.pointer none):=(HBG.out.below W0.out hgl).cell 0
 go_upto_region 5 with (fail)
 clear c0
 refine wp_region_any (by kernel_rfl) ?_
 change wpAny _ _ _ _ _ _ _ (World.drew _)
 replace B0:=Lib.hid B0.out.drew
 replace W0:Hid (Below w.heap.size w w0.drew):=W0.out.drew
 generalize w0.drew=w2 at *
 refine wpAny_take (i:=1) (oi:=?oi1) (v:=.int .i64 num) ?hi1 (by kernel_rfl) (by kernel_rfl) (by kernel_rfl) ?hQ1 ?hy1 ?rest1
 case hi1=>simp only [zge]; rfl
 case hQ1=>exact fun _ _ _ h=>h
 case hy1=>exact Or.inl ⟨by rfl,by intro w; go_simp⟩
 try simp only [zpt]
 refine wpAny_take (i:=3) (oi:=?oi2) (v:=.slice A n c) ?hi2 (by kernel_rfl) (by kernel_rfl) (by kernel_rfl) ?hQ2 ?hy2 ?rest2
 case hi2=>simp only [zge]; rfl
 case hQ2=>exact fun _ _ _ h=>h
 case hy2=>exact Or.inl ⟨by rfl,by intro w; go_simp⟩
 try simp only [zpt]
 refine wpAny_take (i:=4) (oi:=?oi3) (v:=.slice A' n' c') ?hi3 (by kernel_rfl) (by kernel_rfl) (by kernel_rfl) ?hQ3 ?hy3 ?rest3
 case hi3=>simp only [zge]; rfl
 case hQ3=>exact fun _ _ _ h=>h
 case hy3=>exact Or.inl ⟨by rfl,by intro w; go_simp⟩
 try simp only [zpt]
 refine phaseL (fun i=>[]) (fun d a w'=>∃ x33 x35:Value,a={ tmps:=#[.pointer (some ⟨g,0,none⟩),.agg kc.toArray,.int .i64 num,.slice A n c,.slice A' n' c',undef,.pointer (some ⟨q,0,none⟩),undef,undef,undef,.slice none 0 0,.bool false,.pointer (some ⟨g,0,none⟩),.bool false,.bool false,.int .i64 num,.bool false,.bool false,.bool false,.pointer (some ⟨g,0,none⟩),.pointer (some ⟨g,0,none⟩),.pointer (some ⟨g,0,none⟩),.pointer none,.bool false,undef,undef,undef,undef,undef,undef,undef,undef,undef,x33,.int .i64 num,x35,.slice A n c,.slice A' n' c',undef],defers:=[] }/\Hid (Below w2.heap.size w2 w')/\(d 0=true->x33 = .agg kc.toArray)/\(d 2=true->x35 = .agg nc.toArray)) [0,2] ?step4 2 2 [0,2] _ _ _ rfl (by decide) (fun _ h=>h) (Fits.of (by kernel_rfl)) ?init4 ?fin4
 case init4=>refine ⟨_,_,rfl,Below.refl _ _,?_,?_⟩ <;> (intro h; exact absurd h (by decide))
 case step4 =>
  intro i hi d a v4 hI hdi hdeps
  obtain ⟨x33,x35,rfl,BW,h0,h2⟩:=hI
  have hsw:=BW.out.size
  simp only [List.mem_cons,List.not_mem_nil,or_false] at hi
  rcases hi with rfl | rfl
  ·refine wpOp_step (o:=?os5) ?hos5 (fun K hK=>?_)
   case hos5=>simp only [zge]; rfl
   refine step_loadW rfl 27 (.tmp 6) rfl q 0 rfl kc _ Tryd.underlying27 rfl IK.out (B0.out.below BW.out B0.out.lt).cells (hK _ _ ?_)
   clear hK K
   try simp only [zpt]
   exact ⟨_,_,rfl,BW,fun _=>rfl,fun a=>by first | exact h2 (by simpa using a) | rfl⟩
  ·refine wpOp_step (o:=?os6) ?hos6 (fun K hK=>?_)
   case hos6=>simp only [zge]; rfl
   go_simp
   refine (CT.out v4).mono ?_
   rintro e u4 ⟨rfl,hX⟩
   refine hK _ _ ?_
   clear hK K
   try simp only [zpt]
   exact ⟨_,_,rfl,BW.out.trans (hX.mono hsw),fun a=>by first | exact h0 (by simpa using a) | rfl,fun _=>rfl⟩
 case fin4 =>
  intro a v4 hI
  obtain ⟨x33,x35,rfl,BW,h0,h2⟩:=hI
  obtain rfl:=h0 (by decide)
  obtain rfl:=h2 (by decide)
  have W3:=Lib.hid (W0.out.trans (BW.out.mono W0.out.size))
  clear h0 h2 BW W0 B0
  try dsimp only
  refine wpAny_ready (rs:=[5]) (by kernel_rfl) (by simp) ?_
  refine AllReady.cons (o:=?p8) ?q8 (fun K hK=>?_) AllReady.nil
  case q8=>simp only [zge]; rfl
  go_simp
  refine (CS.out _ (HRA.out.below W3.out) (HRB.out.below W3.out)).mono ?_
  rintro e w5 ⟨A3,n3,c3,rfl,hR,hX,hF⟩
  refine hK _ _ ?_
  clear hK K
  try simp only [zpt]
  have R3:=Lib.hid hR
  have F3:=Lib.hid hF
  have hs3:=W3.out.size
  have W5:=Lib.hid (W3.out.trans (hX.mono hs3))
  clear hR hF hX
  refine wpAny_take (i:=6) (oi:=?oi9) (v:=.slice A3 n3 c3) ?hi9 (by kernel_rfl) (by kernel_rfl) (by kernel_rfl) ?hQ9 ?hy9 ?rest9
  case hi9=>simp only [zge]; rfl
  case hQ9=>exact fun _ _ _ h=>h
  case hy9=>exact Or.inl ⟨by rfl,by intro w; go_simp⟩
  try simp only [zpt]
  refine wpAny_done (by kernel_rfl) ?_ _
  go_wp2_with fail
  go_ret
  obtain rfl:=R3.out.len
  exact ⟨A3,c3,rfl,R3.out,W5.out,fun y hy h0=>by have:=F3.out y hy h0; omega⟩
set_option maxRecDepth 100000 in
theorem bopZ (w:World) (key:List UInt8) (num:Int) (A A':Option Addr) (n c n' c':Nat) (hk:key.length=32):Calls Tryd.prog 42 #[.pointer none,.agg (key.map cellOf).toArray,.int .i64 num,.slice A n c,.slice A' n' c'] w fun e w'=>e = .returned (.tuple #[.slice none 0 0,.bool false])/\Below w.heap.size w w':=by
 generalize key.map cellOf=kc
 go_enter Tryd.func42,Tryd.ntmps42
 go_wp2_with fail
 go_ret2
 exact ⟨rfl,alloc_below w _⟩
set_option maxRecDepth 100000 in
theorem bopN {w:World} {g:Nat} (key:List UInt8) (num:Int) (A A':Option Addr) (n c n' c':Nat) (hk:key.length=32) (hn:num < 0):Calls Tryd.prog 42 #[.pointer (some ⟨g,0,none⟩),.agg (key.map cellOf).toArray,.int .i64 num,.slice A n c,.slice A' n' c'] w fun e w'=>e = .returned (.tuple #[.slice none 0 0,.bool false])/\Below w.heap.size w w':=by
 have d0:decide (num < 0)=true:=decide_eq_true hn
 generalize key.map cellOf=kc
 go_enter Tryd.func42,Tryd.ntmps42
 go_wp2_with fail
 go_ret2
 exact ⟨rfl,alloc_below w _⟩
set_option maxRecDepth 100000 in
set_option maxHeartbeats 4000000 in
theorem bopR {w:World} {g:Nat} {A A':Option Addr} {n c n' c':Nat} {ad b:List UInt8} (key:List UInt8) (num:Int) (hg:Blk w g 66 [.pointer none]) (h32:key.length=32) (hn0:0<=num) (hn1:num<=9223372036854775807) (hra:Rd w A n c ad) (hrb:Rd w A' n' c' b) (hna:n<=3000) (hnb:n'<=4000) :
  Calls Tryd.prog 42 #[.pointer (some ⟨g,0,none⟩),.agg (key.map cellOf).toArray,.int .i64 num,.slice A n c,.slice A' n' c'] w (RetP w (Ae.opened key (Bx.nonce num) ad b,Ae.opens key (Bx.nonce num) ad b)):=by
 obtain ⟨out,hout⟩:∃ l,l=Ae.opened key (Bx.nonce num) ad b:=⟨_,rfl⟩
 obtain ⟨ok,hok⟩:∃ l,l=Ae.opens key (Bx.nonce num) ad b:=⟨_,rfl⟩
 rw [<- hout,<- hok]
 obtain ⟨kc,hkc⟩:∃ kc,kc=key.map cellOf:=⟨_,rfl⟩
 obtain ⟨nc,hnc⟩:∃ nc,nc=(Bx.nonce num).map cellOf:=⟨_,rfl⟩
 have CS:Hid (∀ W,Rd W A n c ad->Rd W A' n' c' b->Calls Tryd.prog 60 #[.agg kc.toArray,.agg nc.toArray,.slice A n c,.slice A' n' c'] W fun e w'=>∃ A n c,e = .returned (.tuple #[.slice A n c,.bool ok])/\Rd w' A n c out/\Below W.heap.size W w'/\∀ x,A=some x->0 < n->W.heap.size<=x.block):=fun W h1 h2=>by
  rw [hkc,hnc,hout,hok]
  exact open_new key (Bx.nonce num) h32 (Bx.nonce_length num) h1 h2 (by omega) (by omega)
 have CT:Hid (∀ W,Calls Tryd.prog 58 #[.int .i64 num] W fun e w'=>e = .returned (.agg nc.toArray)/\Below W.heap.size W w'):=fun W=>by
  obtain ⟨m,rfl⟩:=Int.eq_ofNat_of_zero_le hn0
  rw [hnc]
  exact twelve_any m W (by omega)
 have IK:Hid ((Tryd.prog.info? 27).map (·.size)=some kc.length):=by unfold Hid; rw [hkc,List.length_map,h32]; kernel_rfl
 have d0:decide (num < 0)=false:=decide_eq_false (by omega)
 have HBG:=Lib.hid hg
 have hgl:=hg.lt
 have HRA:=Lib.hid hra
 have HRB:=Lib.hid hrb
 rw [<- hkc]
 clear hg hra hrb hkc hnc hout hok h32
 go_enter Tryd.func42,Tryd.ntmps42
 go_upto_region 1 with (fail)
 obtain ⟨w0,hw0⟩:∃ w0,w0=w.alloc (Obj.cells kc.toArray 27):=⟨_,rfl⟩
 have B0:Hid (Blk w0 w.heap.size 27 kc):=by unfold Hid; rw [hw0]; exact Blk.new w _ _
 have W0:Hid (Below w.heap.size w w0):=by unfold Hid; rw [hw0]; exact alloc_below w _
 change Code.wp _ _ _ _ (w.alloc (Obj.cells kc.toArray 27))
 rw [<- hw0]
 clear hw0
 obtain ⟨q,hq⟩:∃ q,q=w.heap.size:=⟨_,rfl⟩
 rw [<- hq] at B0
 rw [<- hq]
 clear hq
 have c0:w0.cell? ⟨g,0,none⟩=some (.pointer none):=(HBG.out.below W0.out hgl).cell 0
 go_upto_region 5 with (fail)
 clear c0
 refine wp_region_any (by kernel_rfl) ?_
 change wpAny _ _ _ _ _ _ _ (World.drew _)
 replace B0:=Lib.hid B0.out.drew
 replace W0:Hid (Below w.heap.size w w0.drew):=W0.out.drew
 generalize w0.drew=w2 at *
 refine wpAny_take (i:=1) (oi:=?oi10) (v:=.int .i64 num) ?hi10 (by kernel_rfl) (by kernel_rfl) (by kernel_rfl) ?hQ10 ?hy10 ?rest10
 case hi10=>simp only [zge]; rfl
 case hQ10=>exact fun _ _ _ h=>h
 case hy10=>exact Or.inl ⟨by rfl,by intro w; go_simp⟩
 try simp only [zpt]
 refine wpAny_take (i:=3) (oi:=?oi11) (v:=.slice A n c) ?hi11 (by kernel_rfl) (by kernel_rfl) (by kernel_rfl) ?hQ11 ?hy11 ?rest11
 case hi11=>simp only [zge]; rfl
 case hQ11=>exact fun _ _ _ h=>h
 case hy11=>exact Or.inl ⟨by rfl,by intro w; go_simp⟩
 try simp only [zpt]
 refine wpAny_take (i:=4) (oi:=?oi12) (v:=.slice A' n' c') ?hi12 (by kernel_rfl) (by kernel_rfl) (by kernel_rfl) ?hQ12 ?hy12 ?rest12
 case hi12=>simp only [zge]; rfl
 case hQ12=>exact fun _ _ _ h=>h
 case hy12=>exact Or.inl ⟨by rfl,by intro w; go_simp⟩
 try simp only [zpt]
 refine phaseL (fun i=>[]) (fun d a w'=>∃ x36 x38:Value,a={ tmps:=#[.pointer (some ⟨g,0,none⟩),.agg kc.toArray,.int .i64 num,.slice A n c,.slice A' n' c',undef,.pointer (some ⟨q,0,none⟩),undef,undef,undef,.slice none 0 0,.bool false,.bool false,.pointer (some ⟨g,0,none⟩),.bool false,.bool false,.int .i64 num,.bool false,.bool false,.bool false,.pointer (some ⟨g,0,none⟩),.pointer (some ⟨g,0,none⟩),.pointer (some ⟨g,0,none⟩),.pointer none,.bool false,undef,undef,undef,undef,undef,undef,undef,undef,undef,undef,undef,x36,.int .i64 num,x38,.slice A n c,.slice A' n' c',undef,undef,undef],defers:=[] }/\Hid (Below w2.heap.size w2 w')/\(d 0=true->x36 = .agg kc.toArray)/\(d 2=true->x38 = .agg nc.toArray)) [0,2] ?step13 5 2 [0,2] _ _ _ rfl (by decide) (fun _ h=>h) (Fits.of (by kernel_rfl)) ?init13 ?fin13
 case init13=>refine ⟨_,_,rfl,Below.refl _ _,?_,?_⟩ <;> (intro h; exact absurd h (by decide))
 case step13 =>
  intro i hi d a v13 hI hdi hdeps
  obtain ⟨x36,x38,rfl,BW,h0,h2⟩:=hI
  have hsw:=BW.out.size
  simp only [List.mem_cons,List.not_mem_nil,or_false] at hi
  rcases hi with rfl | rfl
  ·refine wpOp_step (o:=?os14) ?hos14 (fun K hK=>?_)
   case hos14=>simp only [zge]; rfl
   refine step_loadW rfl 27 (.tmp 6) rfl q 0 rfl kc _ Tryd.underlying27 rfl IK.out (B0.out.below BW.out B0.out.lt).cells (hK _ _ ?_)
   clear hK K
   try simp only [zpt]
   exact ⟨_,_,rfl,BW,fun _=>rfl,fun a=>by first | exact h2 (by simpa using a) | rfl⟩
  ·refine wpOp_step (o:=?os15) ?hos15 (fun K hK=>?_)
   case hos15=>simp only [zge]; rfl
   go_simp
   refine (CT.out v13).mono ?_
   rintro e u13 ⟨rfl,hX⟩
   refine hK _ _ ?_
   clear hK K
   try simp only [zpt]
   exact ⟨_,_,rfl,BW.out.trans (hX.mono hsw),fun a=>by first | exact h0 (by simpa using a) | rfl,fun _=>rfl⟩
 case fin13 =>
  intro a v13 hI
  obtain ⟨x36,x38,rfl,BW,h0,h2⟩:=hI
  obtain rfl:=h0 (by decide)
  obtain rfl:=h2 (by decide)
  have W3:=Lib.hid (W0.out.trans (BW.out.mono W0.out.size))
  clear h0 h2 BW W0 B0
  try dsimp only
  refine wpAny_ready (rs:=[5]) (by kernel_rfl) (by simp) ?_
  refine AllReady.cons (o:=?p17) ?q17 (fun K hK=>?_) AllReady.nil
  case q17=>simp only [zge]; rfl
  go_simp
  refine (CS.out _ (HRA.out.below W3.out) (HRB.out.below W3.out)).mono ?_
  rintro e w5 ⟨A3,n3,c3,rfl,hR,hX,hF⟩
  refine hK _ _ ?_
  clear hK K
  try simp only [zpt]
  have R3:=Lib.hid hR
  have F3:=Lib.hid hF
  have hs3:=W3.out.size
  have W5:=Lib.hid (W3.out.trans (hX.mono hs3))
  clear hR hF hX
  refine wpAny_take (i:=6) (oi:=?oi18) (v:=.slice A3 n3 c3) ?hi18 (by kernel_rfl) (by kernel_rfl) (by kernel_rfl) ?hQ18 ?hy18 ?rest18
  case hi18=>simp only [zge]; rfl
  case hQ18=>exact fun _ _ _ h=>h
  case hy18=>exact Or.inl ⟨by rfl,by intro w; go_simp⟩
  try simp only [zpt]
  refine wpAny_take (i:=7) (oi:=?oi19) (v:=.bool ok) ?hi19 (by kernel_rfl) (by kernel_rfl) (by kernel_rfl) ?hQ19 ?hy19 ?rest19
  case hi19=>simp only [zge]; rfl
  case hQ19=>exact fun _ _ _ h=>h
  case hy19=>exact Or.inl ⟨by rfl,by intro w; go_simp⟩
  try simp only [zpt]
  refine wpAny_take (i:=8) (oi:=?oi20) (v:=.slice A3 n3 c3) ?hi20 (by kernel_rfl) (by kernel_rfl) (by kernel_rfl) ?hQ20 ?hy20 ?rest20
  case hi20=>simp only [zge]; rfl
  case hQ20=>exact fun _ _ _ h=>h
  case hy20=>exact Or.inl ⟨by rfl,by intro w; go_simp⟩
  try simp only [zpt]
  refine wpAny_take (i:=9) (oi:=?oi21) (v:=.bool ok) ?hi21 (by kernel_rfl) (by kernel_rfl) (by kernel_rfl) ?hQ21 ?hy21 ?rest21
  case hi21=>simp only [zge]; rfl
  case hQ21=>exact fun _ _ _ h=>h
  case hy21=>exact Or.inl ⟨by rfl,by intro w; go_simp⟩
  try simp only [zpt]
  refine wpAny_done (by kernel_rfl) ?_ _
  go_wp2_with fail
  go_ret2
  exact ⟨A3,n3,c3,rfl,R3.out,W5.out,fun y hy h0=>by have:=F3.out y hy h0; omega⟩
set_option maxRecDepth 100000 in
set_option maxHeartbeats 4000000 in
theorem bslI {w:World} {g k t r1 r2 r3:Nat} {s:Int} {a:Nat} {S:List Bx.SNote} {B L:List Bx.BNote} {ES EB EL:List (Value × Value)} {M:Nat->Prop} {A A':Option Addr} {n c n' c':Nat} {ad b:List UInt8} (key:List UInt8) (num:Int) (J:BxJ w g k t r1 r2 r3 s a S B L ES EB EL M) (hG:Gl w) (hM2:∀ b,M b->2<=b) (ha:a<=900000) (h32:key.length=32) (hn0:0<=num) (hn1:num<=9223372036854775807) (hra:Rd w A n c ad) (hrb:Rd w A' n' c' b) (hoa:Off M A n) (hob:Off M A' n') (hnb:n'<=3000) :
  Calls Tryd.prog 41 #[.pointer (some ⟨g,0,none⟩),.agg (key.map cellOf).toArray,.int .i64 num,.slice A n c,.slice A' n' c'] w (RetS BxAt w g M (Tap.tape s a (n' + 16)) (.ideal s (a + (n' + 16)) (⟨key,num,ad,b,Tap.tape s a (n' + 16)⟩ :: S) B L)):=by
 obtain ⟨kc,hkc⟩:∃ kc,kc=key.map cellOf:=⟨_,rfl⟩
 obtain ⟨out,hout⟩:∃ l,l=Tap.tape s a (n' + 16):=⟨_,rfl⟩
 rw [<- hout]
 have LO:Hid (out.length=n' + 16):=by unfold Hid; rw [hout,Tap.tape_length]
 have mt:=J.mem t (.inr (.inr (.inl rfl)))
 have mr:=J.mem r1 (.inr (.inr (.inr (.inl rfl))))
 have CS:Hid (∀ W,Below w.heap.size w W->Calls Tryd.prog 56 #[.pointer (some ⟨k,0,none⟩),.agg kc.toArray,.int .i64 num,.slice A n c,.slice A' n' c'] W fun e w'=>∃ A3 c3 M',e = .returned (.slice A3 (n' + 16) c3)/\Rd w' A3 (n' + 16) c3 out/\(∀ x:Addr,A3=some x->w.heap.size<=x.block/\¬ M' x.block)/\BxAt w' g (.ideal s (a + (n' + 16)) (⟨key,num,ad,b,out⟩ :: S) B L) M'/\(∀ b,M' b->M b ∨ w.heap.size<=b)/\Fr M w w'):=fun W hW=>by
  have JW:=J.keep hW.size fun b hb=>hW.block b (J.lt b hb)
  obtain ⟨x1,x2,x3,x4,x5,x6,x7,x8,x9,x10,x11,x12,x13,x14,x15⟩:=J.ne
  rw [hkc]
  refine (bseal_any key num (hG.below hW hG.size) (hM2 t mt) JW.bk JW.tp JW.mS h32 (by omega) hn1 (hra.below hW) (hrb.below hW) (fun x hx h0 h=>hoa x hx h0 (by rw [h]; exact mt)) (fun x hx h0 h=>hob x hx h0 (by rw [h]; exact mt)) hnb (by omega) x6 x10 x7).mono ?_
  rintro e w' ⟨A3,c3,A4,c4,E',rfl,h1,h2,h3,h4,h5,h6,h7,h8,h9⟩
  rw [<- hout] at h1 h8
  have hsW:=hW.size
  refine ⟨A3,c3,_,rfl,h1,fun x hx=>⟨by have:=h2 x hx; omega,?_⟩,⟨k,t,r1,r2,r3,E',EB,EL,JW.sealed h32 h9 h6 h7 h8 h3 hnb (fun x hx h0=>h4 x hx h0)⟩,?_,(Fr.of_below hW).trans (h9.mono (by rintro b (rfl | rfl) <;> assumption))⟩
  ·rintro (h | ⟨y,hy,h0,h⟩)
   ·have:=J.lt _ h
    have:=h2 x hx
    omega
   ·exact h5 x y hx hy h0 h
  ·rintro b (h | ⟨y,hy,h0,rfl⟩)
   ·exact .inl h
   ·have:=h4 y hy h0
    exact .inr (by omega)
 have IK:Hid ((Tryd.prog.info? 27).map (·.size)=some kc.length):=by unfold Hid; rw [hkc,List.length_map,h32]; kernel_rfl
 have d0:decide (num < 0)=false:=decide_eq_false (by omega)
 have HBG:=Lib.hid J.bg
 have hgl:=J.bg.lt
 rw [<- hkc]
 clear J hG hM2 hra hrb hoa hob hkc hout h32 mt mr
 go_enter Tryd.func41,Tryd.ntmps41
 go_upto_region 1 with (fail)
 obtain ⟨w0,hw0⟩:∃ w0,w0=w.alloc (Obj.cells kc.toArray 27):=⟨_,rfl⟩
 have B0:Hid (Blk w0 w.heap.size 27 kc):=by unfold Hid; rw [hw0]; exact Blk.new w _ _
 have W0:Hid (Below w.heap.size w w0):=by unfold Hid; rw [hw0]; exact alloc_below w _
 change Code.wp _ _ _ _ (w.alloc (Obj.cells kc.toArray 27))
 rw [<- hw0]
 clear hw0
 obtain ⟨q,hq⟩:∃ q,q=w.heap.size:=⟨_,rfl⟩
 rw [<- hq] at B0
 rw [<- hq]
 clear hq
 have c0:w0.cell? ⟨g,0,none⟩=some (.pointer (some ⟨k,0,none⟩)):=(HBG.out.below W0.out hgl).cell 0
 go_upto_region 4 with (fail)
 clear c0
 refine wp_region_any (by kernel_rfl) ?_
 change wpAny _ _ _ _ _ _ _ (World.drew _)
 replace B0:=Lib.hid B0.out.drew
 replace W0:Hid (Below w.heap.size w w0.drew):=W0.out.drew
 generalize w0.drew=w2 at *
 have BG:=Lib.hid (HBG.out.below W0.out hgl)
 refine wpAny_take (i:=0) (oi:=?oi22) (v:=.pointer (some ⟨g,0,none⟩)) ?hi22 (by kernel_rfl) (by kernel_rfl) (by kernel_rfl) ?hQ22 ?hy22 ?rest22
 case hi22=>simp only [zge]; rfl
 case hQ22=>exact fun _ _ _ h=>h
 case hy22=>exact Or.inl ⟨by rfl,by intro w; go_simp⟩
 try simp only [zpt]
 refine wpAny_take (i:=1) (oi:=?oi23) (v:=.pointer (some ⟨g,0,none⟩)) ?hi23 (by kernel_rfl) (by kernel_rfl) (by kernel_rfl) ?hQ23 ?hy23 ?rest23
 case hi23=>simp only [zge]; rfl
 case hQ23=>exact fun _ _ _ h=>h
 case hy23=>exact Or.inl ⟨by rfl,by intro w; go_simp⟩
 try simp only [zpt]
 refine wpAny_take (i:=2) (oi:=?oi24) (v:=.pointer (some ⟨g,0,none⟩)) ?hi24 (by kernel_rfl) (by kernel_rfl) (by kernel_rfl) ?hQ24 ?hy24 ?rest24
 case hi24=>simp only [zge]; rfl
 case hQ24=>exact fun _ _ _ h=>h
 case hy24=>exact Or.inl ⟨by rfl,by intro w; go_simp⟩
 try simp only [zpt]
 refine wpAny_take (i:=5) (oi:=?oi25) (v:=.int .i64 num) ?hi25 (by kernel_rfl) (by kernel_rfl) (by kernel_rfl) ?hQ25 ?hy25 ?rest25
 case hi25=>simp only [zge]; rfl
 case hQ25=>exact fun _ _ _ h=>h
 case hy25=>exact Or.inl ⟨by rfl,by intro w; go_simp⟩
 try simp only [zpt]
 refine wpAny_take (i:=6) (oi:=?oi26) (v:=.slice A n c) ?hi26 (by kernel_rfl) (by kernel_rfl) (by kernel_rfl) ?hQ26 ?hy26 ?rest26
 case hi26=>simp only [zge]; rfl
 case hQ26=>exact fun _ _ _ h=>h
 case hy26=>exact Or.inl ⟨by rfl,by intro w; go_simp⟩
 try simp only [zpt]
 refine wpAny_take (i:=7) (oi:=?oi27) (v:=.slice A' n' c') ?hi27 (by kernel_rfl) (by kernel_rfl) (by kernel_rfl) ?hQ27 ?hy27 ?rest27
 case hi27=>simp only [zge]; rfl
 case hQ27=>exact fun _ _ _ h=>h
 case hy27=>exact Or.inl ⟨by rfl,by intro w; go_simp⟩
 try simp only [zpt]
 refine phaseL (fun i=>[]) (fun d a w'=>∃ x27 x28:Value,a={ tmps:=#[.pointer (some ⟨g,0,none⟩),.agg kc.toArray,.int .i64 num,.slice A n c,.slice A' n' c',undef,.pointer (some ⟨q,0,none⟩),undef,undef,undef,.slice none 0 0,.bool false,.pointer (some ⟨g,0,none⟩),.bool false,.bool false,.int .i64 num,.bool false,.bool false,.bool true,.pointer (some ⟨g,0,none⟩),.pointer (some ⟨g,0,none⟩),.pointer (some ⟨g,0,none⟩),.pointer (some ⟨k,0,none⟩),.bool true,.pointer (some ⟨g,0,none⟩),.pointer (some ⟨g,0,none⟩),.pointer (some ⟨g,0,none⟩),x27,x28,.int .i64 num,.slice A n c,.slice A' n' c',undef,undef,undef,undef,undef,undef,undef],defers:=[] }/\Hid (Below w2.heap.size w2 w')/\(d 3=true->x27 = .pointer (some ⟨k,0,none⟩))/\(d 4=true->x28 = .agg kc.toArray)) [3,4] ?step28 2 2 [3,4] _ _ _ rfl (by decide) (fun _ h=>h) (Fits.of (by kernel_rfl)) ?init28 ?fin28
 case init28=>refine ⟨_,_,rfl,Below.refl _ _,?_,?_⟩ <;> (intro h; exact absurd h (by decide))
 case step28 =>
  intro i hi d a v28 hI hdi hdeps
  obtain ⟨x27,x28,rfl,BW,h3,h4⟩:=hI
  have hsw:=BW.out.size
  simp only [List.mem_cons,List.not_mem_nil,or_false] at hi
  rcases hi with rfl | rfl
  ·have c0:v28.cell? ⟨g,0,none⟩=some (.pointer (some ⟨k,0,none⟩)):=(BG.out.below BW.out BG.out.lt).cell 0
   refine wpOp_step (o:=?os29) ?hos29 (fun K hK=>?_)
   case hos29=>simp only [zge]; rfl
   go_simp
   refine hK _ _ ?_
   clear hK K
   try simp only [zpt]
   exact ⟨_,_,rfl,BW,fun _=>rfl,fun a=>by first | exact h4 (by simpa using a) | rfl⟩
  ·refine wpOp_step (o:=?os30) ?hos30 (fun K hK=>?_)
   case hos30=>simp only [zge]; rfl
   refine step_loadW rfl 27 (.tmp 6) rfl q 0 rfl kc _ Tryd.underlying27 rfl IK.out (B0.out.below BW.out B0.out.lt).cells (hK _ _ ?_)
   clear hK K
   try simp only [zpt]
   exact ⟨_,_,rfl,BW,fun a=>by first | exact h3 (by simpa using a) | rfl,fun _=>rfl⟩
 case fin28 =>
  intro a v28 hI
  obtain ⟨x27,x28,rfl,BW,h3,h4⟩:=hI
  obtain rfl:=h3 (by decide)
  obtain rfl:=h4 (by decide)
  have W3:=Lib.hid (W0.out.trans (BW.out.mono W0.out.size))
  clear h3 h4 BW W0 B0 BG
  try dsimp only
  refine wpAny_ready (rs:=[8]) (by kernel_rfl) (by simp) ?_
  refine AllReady.cons (o:=?p31) ?q31 (fun K hK=>?_) AllReady.nil
  case q31=>simp only [zge]; rfl
  go_simp
  refine (CS.out _ W3.out).mono ?_
  rintro e w5 ⟨A3,c3,M',rfl,h1,h2,h3,h4,h5⟩
  refine hK _ _ ?_
  clear hK K
  try simp only [zpt]
  have R1:=Lib.hid h1
  have R2:=Lib.hid h2
  have R3:=Lib.hid h3
  have R4:=Lib.hid h4
  have R5:=Lib.hid h5
  clear h1 h2 h3 h4 h5
  refine wpAny_take (i:=9) (oi:=?oi32) (v:=.slice A3 (n' + 16) c3) ?hi32 (by kernel_rfl) (by kernel_rfl) (by kernel_rfl) ?hQ32 ?hy32 ?rest32
  case hi32=>simp only [zge]; rfl
  case hQ32=>exact fun _ _ _ h=>h
  case hy32=>exact Or.inl ⟨by rfl,by intro w; go_simp⟩
  try simp only [zpt]
  refine wpAny_done (by kernel_rfl) ?_ _
  go_wp2_with fail
  go_ret
  refine ⟨A3,c3,M',by rw [LO.out]; rfl,by rw [LO.out]; exact R1.out,R3.out,R5.out,R4.out,R2.out⟩
set_option maxRecDepth 100000 in
theorem bsealL {w:World} {k:Nat} {A A':Option Addr} {n c n' c':Nat} (kc:List Value) (num:Int) (hn:3000 < n') (hn2:n'<=1000000):Calls Tryd.prog 56 #[.pointer (some ⟨k,0,none⟩),.agg kc.toArray,.int .i64 num,.slice A n c,.slice A' n' c'] w fun e w'=>e = .returned (.slice none 0 0)/\Below w.heap.size w w':=by
 have d0:decide ((3000:Int) < (n':Int))=true:=decide_eq_true (by omega)
 go_enter Tryd.func56,Tryd.ntmps56
 go_wp2_with fail
 go_ret
 exact ⟨rfl,alloc_below w _⟩
set_option maxRecDepth 100000 in
set_option maxHeartbeats 4000000 in
theorem bslL {w:World} {g k t r1 r2 r3:Nat} {s:Int} {a:Nat} {S:List Bx.SNote} {B L:List Bx.BNote} {ES EB EL:List (Value × Value)} {M:Nat->Prop} (key:List UInt8) (num:Int) (A A':Option Addr) (n c n' c':Nat) (J:BxJ w g k t r1 r2 r3 s a S B L ES EB EL M) (h32:key.length=32) (hn:3000 < n') (hn2:n'<=1000000) :
  Calls Tryd.prog 41 #[.pointer (some ⟨g,0,none⟩),.agg (key.map cellOf).toArray,.int .i64 num,.slice A n c,.slice A' n' c'] w fun e w'=>e = .returned (.slice none 0 0)/\Below w.heap.size w w':=by
 by_cases hneg:num < 0
 ·exact bslN key num A A' n c n' c' h32 hneg
 obtain ⟨kc,hkc⟩:∃ kc,kc=key.map cellOf:=⟨_,rfl⟩
 have IK:Hid ((Tryd.prog.info? 27).map (·.size)=some kc.length):=by unfold Hid; rw [hkc,List.length_map,h32]; kernel_rfl
 have d0:decide (num < 0)=false:=decide_eq_false hneg
 have HBG:=Lib.hid J.bg
 have hgl:=J.bg.lt
 rw [<- hkc]
 clear J hkc h32 hneg
 go_enter Tryd.func41,Tryd.ntmps41
 go_upto_region 1 with (fail)
 obtain ⟨w0,hw0⟩:∃ w0,w0=w.alloc (Obj.cells kc.toArray 27):=⟨_,rfl⟩
 have B0:Hid (Blk w0 w.heap.size 27 kc):=by unfold Hid; rw [hw0]; exact Blk.new w _ _
 have W0:Hid (Below w.heap.size w w0):=by unfold Hid; rw [hw0]; exact alloc_below w _
 change Code.wp _ _ _ _ (w.alloc (Obj.cells kc.toArray 27))
 rw [<- hw0]
 clear hw0
 obtain ⟨q,hq⟩:∃ q,q=w.heap.size:=⟨_,rfl⟩
 rw [<- hq] at B0
 rw [<- hq]
 clear hq
 have c0:w0.cell? ⟨g,0,none⟩=some (.pointer (some ⟨k,0,none⟩)):=(HBG.out.below W0.out hgl).cell 0
 go_upto_region 4 with (fail)
 clear c0
 refine wp_region_any (by kernel_rfl) ?_
 change wpAny _ _ _ _ _ _ _ (World.drew _)
 replace B0:=Lib.hid B0.out.drew
 replace W0:Hid (Below w.heap.size w w0.drew):=W0.out.drew
 generalize w0.drew=w2 at *
 have BG:=Lib.hid (HBG.out.below W0.out hgl)
 refine wpAny_take (i:=0) (oi:=?oi33) (v:=.pointer (some ⟨g,0,none⟩)) ?hi33 (by kernel_rfl) (by kernel_rfl) (by kernel_rfl) ?hQ33 ?hy33 ?rest33
 case hi33=>simp only [zge]; rfl
 case hQ33=>exact fun _ _ _ h=>h
 case hy33=>exact Or.inl ⟨by rfl,by intro w; go_simp⟩
 try simp only [zpt]
 refine wpAny_take (i:=1) (oi:=?oi34) (v:=.pointer (some ⟨g,0,none⟩)) ?hi34 (by kernel_rfl) (by kernel_rfl) (by kernel_rfl) ?hQ34 ?hy34 ?rest34
 case hi34=>simp only [zge]; rfl
 case hQ34=>exact fun _ _ _ h=>h
 case hy34=>exact Or.inl ⟨by rfl,by intro w; go_simp⟩
 try simp only [zpt]
 refine wpAny_take (i:=2) (oi:=?oi35) (v:=.pointer (some ⟨g,0,none⟩)) ?hi35 (by kernel_rfl) (by kernel_rfl) (by kernel_rfl) ?hQ35 ?hy35 ?rest35
 case hi35=>simp only [zge]; rfl
 case hQ35=>exact fun _ _ _ h=>h
 case hy35=>exact Or.inl ⟨by rfl,by intro w; go_simp⟩
 try simp only [zpt]
 refine wpAny_take (i:=5) (oi:=?oi36) (v:=.int .i64 num) ?hi36 (by kernel_rfl) (by kernel_rfl) (by kernel_rfl) ?hQ36 ?hy36 ?rest36
 case hi36=>simp only [zge]; rfl
 case hQ36=>exact fun _ _ _ h=>h
 case hy36=>exact Or.inl ⟨by rfl,by intro w; go_simp⟩
 try simp only [zpt]
 refine wpAny_take (i:=6) (oi:=?oi37) (v:=.slice A n c) ?hi37 (by kernel_rfl) (by kernel_rfl) (by kernel_rfl) ?hQ37 ?hy37 ?rest37
 case hi37=>simp only [zge]; rfl
 case hQ37=>exact fun _ _ _ h=>h
 case hy37=>exact Or.inl ⟨by rfl,by intro w; go_simp⟩
 try simp only [zpt]
 refine wpAny_take (i:=7) (oi:=?oi38) (v:=.slice A' n' c') ?hi38 (by kernel_rfl) (by kernel_rfl) (by kernel_rfl) ?hQ38 ?hy38 ?rest38
 case hi38=>simp only [zge]; rfl
 case hQ38=>exact fun _ _ _ h=>h
 case hy38=>exact Or.inl ⟨by rfl,by intro w; go_simp⟩
 try simp only [zpt]
 refine phaseL (fun i=>[]) (fun d a w'=>∃ x27 x28:Value,a={ tmps:=#[.pointer (some ⟨g,0,none⟩),.agg kc.toArray,.int .i64 num,.slice A n c,.slice A' n' c',undef,.pointer (some ⟨q,0,none⟩),undef,undef,undef,.slice none 0 0,.bool false,.pointer (some ⟨g,0,none⟩),.bool false,.bool false,.int .i64 num,.bool false,.bool false,.bool true,.pointer (some ⟨g,0,none⟩),.pointer (some ⟨g,0,none⟩),.pointer (some ⟨g,0,none⟩),.pointer (some ⟨k,0,none⟩),.bool true,.pointer (some ⟨g,0,none⟩),.pointer (some ⟨g,0,none⟩),.pointer (some ⟨g,0,none⟩),x27,x28,.int .i64 num,.slice A n c,.slice A' n' c',undef,undef,undef,undef,undef,undef,undef],defers:=[] }/\Hid (Below w2.heap.size w2 w')/\(d 3=true->x27 = .pointer (some ⟨k,0,none⟩))/\(d 4=true->x28 = .agg kc.toArray)) [3,4] ?step39 2 2 [3,4] _ _ _ rfl (by decide) (fun _ h=>h) (Fits.of (by kernel_rfl)) ?init39 ?fin39
 case init39=>refine ⟨_,_,rfl,Below.refl _ _,?_,?_⟩ <;> (intro h; exact absurd h (by decide))
 case step39 =>
  intro i hi d a v39 hI hdi hdeps
  obtain ⟨x27,x28,rfl,BW,h3,h4⟩:=hI
  have hsw:=BW.out.size
  simp only [List.mem_cons,List.not_mem_nil,or_false] at hi
  rcases hi with rfl | rfl
  ·have c0:v39.cell? ⟨g,0,none⟩=some (.pointer (some ⟨k,0,none⟩)):=(BG.out.below BW.out BG.out.lt).cell 0
   refine wpOp_step (o:=?os40) ?hos40 (fun K hK=>?_)
   case hos40=>simp only [zge]; rfl
   go_simp
   refine hK _ _ ?_
   clear hK K
   try simp only [zpt]
   exact ⟨_,_,rfl,BW,fun _=>rfl,fun a=>by first | exact h4 (by simpa using a) | rfl⟩
  ·refine wpOp_step (o:=?os41) ?hos41 (fun K hK=>?_)
   case hos41=>simp only [zge]; rfl
   refine step_loadW rfl 27 (.tmp 6) rfl q 0 rfl kc _ Tryd.underlying27 rfl IK.out (B0.out.below BW.out B0.out.lt).cells (hK _ _ ?_)
   clear hK K
   try simp only [zpt]
   exact ⟨_,_,rfl,BW,fun a=>by first | exact h3 (by simpa using a) | rfl,fun _=>rfl⟩
 case fin39 =>
  intro a v39 hI
  obtain ⟨x27,x28,rfl,BW,h3,h4⟩:=hI
  obtain rfl:=h3 (by decide)
  obtain rfl:=h4 (by decide)
  have W3:=Lib.hid (W0.out.trans (BW.out.mono W0.out.size))
  clear h3 h4 BW W0 B0 BG
  try dsimp only
  refine wpAny_ready (rs:=[8]) (by kernel_rfl) (by simp) ?_
  refine AllReady.cons (o:=?p42) ?q42 (fun K hK=>?_) AllReady.nil
  case q42=>simp only [zge]; rfl
  go_simp
  refine (bsealL kc num hn hn2).mono ?_
  rintro e w5 ⟨rfl,hX⟩
  refine hK _ _ ?_
  clear hK K
  try simp only [zpt]
  have hs3:=W3.out.size
  have W5:=Lib.hid (W3.out.trans (hX.mono hs3))
  clear hX
  refine wpAny_take (i:=9) (oi:=?oi43) (v:=.slice none 0 0) ?hi43 (by kernel_rfl) (by kernel_rfl) (by kernel_rfl) ?hQ43 ?hy43 ?rest43
  case hi43=>simp only [zge]; rfl
  case hQ43=>exact fun _ _ _ h=>h
  case hy43=>exact Or.inl ⟨by rfl,by intro w; go_simp⟩
  try simp only [zpt]
  refine wpAny_done (by kernel_rfl) ?_ _
  go_wp2_with fail
  go_ret
  exact ⟨rfl,W5.out⟩
set_option maxRecDepth 100000 in
set_option maxHeartbeats 4000000 in
theorem bopI {w:World} {g k t r1 r2 r3:Nat} {s:Int} {a:Nat} {S:List Bx.SNote} {B L:List Bx.BNote} {ES EB EL:List (Value × Value)} {M:Nat->Prop} {A A':Option Addr} {n c n' c':Nat} {ad b:List UInt8} (key:List UInt8) (num:Int) (J:BxJ w g k t r1 r2 r3 s a S B L ES EB EL M) (h32:key.length=32) (hn0:0<=num) (hn1:num<=9223372036854775807) (hra:Rd w A n c ad) (hrb:Rd w A' n' c' b) (hna:n<=3000) (hnb:n'<=4000) :
  Calls Tryd.prog 42 #[.pointer (some ⟨g,0,none⟩),.agg (key.map cellOf).toArray,.int .i64 num,.slice A n c,.slice A' n' c'] w (RetP w (Bx.openBy key num ad b S)):=by
 obtain ⟨kc,hkc⟩:∃ kc,kc=key.map cellOf:=⟨_,rfl⟩
 obtain ⟨ol,ok,hol⟩:∃ ol ok,Bx.openBy key num ad b S=(ol,ok):=⟨_,_,rfl⟩
 rw [hol]
 have mr:=J.mem r1 (.inr (.inr (.inr (.inl rfl))))
 have CS:Hid (∀ W,Below w.heap.size w W->Calls Tryd.prog 59 #[.pointer (some ⟨k,0,none⟩),.agg kc.toArray,.int .i64 num,.slice A n c,.slice A' n' c'] W (RetP W (ol,ok))):=fun W hW=>by
  have JW:=J.keep hW.size fun b hb=>hW.block b (J.lt b hb)
  obtain ⟨A3,n3,c3,h1,h2,h3⟩:=JW.found (key:=key) (num:=num) (ad:=ad) (c:=b) h32 (by omega) hn1 (by have:=hra.len; omega) (by have:=hrb.len; omega)
  rw [hol] at h1 h2
  rw [hkc]
  exact bopen_any key num ok JW.bk (JW.lt r1 mr) h32 (hra.below hW) (hrb.below hW) h1 h2 (by omega)
 have IK:Hid ((Tryd.prog.info? 27).map (·.size)=some kc.length):=by unfold Hid; rw [hkc,List.length_map,h32]; kernel_rfl
 have d0:decide (num < 0)=false:=decide_eq_false (by omega)
 have HBG:=Lib.hid J.bg
 have hgl:=J.bg.lt
 rw [<- hkc]
 clear J hra hrb hkc hol h32 mr
 go_enter Tryd.func42,Tryd.ntmps42
 go_upto_region 1 with (fail)
 obtain ⟨w0,hw0⟩:∃ w0,w0=w.alloc (Obj.cells kc.toArray 27):=⟨_,rfl⟩
 have B0:Hid (Blk w0 w.heap.size 27 kc):=by unfold Hid; rw [hw0]; exact Blk.new w _ _
 have W0:Hid (Below w.heap.size w w0):=by unfold Hid; rw [hw0]; exact alloc_below w _
 change Code.wp _ _ _ _ (w.alloc (Obj.cells kc.toArray 27))
 rw [<- hw0]
 clear hw0
 obtain ⟨q,hq⟩:∃ q,q=w.heap.size:=⟨_,rfl⟩
 rw [<- hq] at B0
 rw [<- hq]
 clear hq
 have c0:w0.cell? ⟨g,0,none⟩=some (.pointer (some ⟨k,0,none⟩)):=(HBG.out.below W0.out hgl).cell 0
 go_upto_region 4 with (fail)
 clear c0
 refine wp_region_any (by kernel_rfl) ?_
 change wpAny _ _ _ _ _ _ _ (World.drew _)
 replace B0:=Lib.hid B0.out.drew
 replace W0:Hid (Below w.heap.size w w0.drew):=W0.out.drew
 generalize w0.drew=w2 at *
 have BG:=Lib.hid (HBG.out.below W0.out hgl)
 refine wpAny_take (i:=0) (oi:=?oi44) (v:=.pointer (some ⟨g,0,none⟩)) ?hi44 (by kernel_rfl) (by kernel_rfl) (by kernel_rfl) ?hQ44 ?hy44 ?rest44
 case hi44=>simp only [zge]; rfl
 case hQ44=>exact fun _ _ _ h=>h
 case hy44=>exact Or.inl ⟨by rfl,by intro w; go_simp⟩
 try simp only [zpt]
 refine wpAny_take (i:=1) (oi:=?oi45) (v:=.pointer (some ⟨g,0,none⟩)) ?hi45 (by kernel_rfl) (by kernel_rfl) (by kernel_rfl) ?hQ45 ?hy45 ?rest45
 case hi45=>simp only [zge]; rfl
 case hQ45=>exact fun _ _ _ h=>h
 case hy45=>exact Or.inl ⟨by rfl,by intro w; go_simp⟩
 try simp only [zpt]
 refine wpAny_take (i:=2) (oi:=?oi46) (v:=.pointer (some ⟨g,0,none⟩)) ?hi46 (by kernel_rfl) (by kernel_rfl) (by kernel_rfl) ?hQ46 ?hy46 ?rest46
 case hi46=>simp only [zge]; rfl
 case hQ46=>exact fun _ _ _ h=>h
 case hy46=>exact Or.inl ⟨by rfl,by intro w; go_simp⟩
 try simp only [zpt]
 refine wpAny_take (i:=5) (oi:=?oi47) (v:=.int .i64 num) ?hi47 (by kernel_rfl) (by kernel_rfl) (by kernel_rfl) ?hQ47 ?hy47 ?rest47
 case hi47=>simp only [zge]; rfl
 case hQ47=>exact fun _ _ _ h=>h
 case hy47=>exact Or.inl ⟨by rfl,by intro w; go_simp⟩
 try simp only [zpt]
 refine wpAny_take (i:=6) (oi:=?oi48) (v:=.slice A n c) ?hi48 (by kernel_rfl) (by kernel_rfl) (by kernel_rfl) ?hQ48 ?hy48 ?rest48
 case hi48=>simp only [zge]; rfl
 case hQ48=>exact fun _ _ _ h=>h
 case hy48=>exact Or.inl ⟨by rfl,by intro w; go_simp⟩
 try simp only [zpt]
 refine wpAny_take (i:=7) (oi:=?oi49) (v:=.slice A' n' c') ?hi49 (by kernel_rfl) (by kernel_rfl) (by kernel_rfl) ?hQ49 ?hy49 ?rest49
 case hi49=>simp only [zge]; rfl
 case hQ49=>exact fun _ _ _ h=>h
 case hy49=>exact Or.inl ⟨by rfl,by intro w; go_simp⟩
 try simp only [zpt]
 refine phaseL (fun i=>[]) (fun d a w'=>∃ x28 x29:Value,a={ tmps:=#[.pointer (some ⟨g,0,none⟩),.agg kc.toArray,.int .i64 num,.slice A n c,.slice A' n' c',undef,.pointer (some ⟨q,0,none⟩),undef,undef,undef,.slice none 0 0,.bool false,.bool false,.pointer (some ⟨g,0,none⟩),.bool false,.bool false,.int .i64 num,.bool false,.bool false,.bool true,.pointer (some ⟨g,0,none⟩),.pointer (some ⟨g,0,none⟩),.pointer (some ⟨g,0,none⟩),.pointer (some ⟨k,0,none⟩),.bool true,.pointer (some ⟨g,0,none⟩),.pointer (some ⟨g,0,none⟩),.pointer (some ⟨g,0,none⟩),x28,x29,.int .i64 num,.slice A n c,.slice A' n' c',undef,undef,undef,undef,undef,undef,undef,undef,undef,undef,undef],defers:=[] }/\Hid (Below w2.heap.size w2 w')/\(d 3=true->x28 = .pointer (some ⟨k,0,none⟩))/\(d 4=true->x29 = .agg kc.toArray)) [3,4] ?step50 5 2 [3,4] _ _ _ rfl (by decide) (fun _ h=>h) (Fits.of (by kernel_rfl)) ?init50 ?fin50
 case init50=>refine ⟨_,_,rfl,Below.refl _ _,?_,?_⟩ <;> (intro h; exact absurd h (by decide))
 case step50 =>
  intro i hi d a v50 hI hdi hdeps
  obtain ⟨x28,x29,rfl,BW,h3,h4⟩:=hI
  have hsw:=BW.out.size
  simp only [List.mem_cons,List.not_mem_nil,or_false] at hi
  rcases hi with rfl | rfl
  ·have c0:v50.cell? ⟨g,0,none⟩=some (.pointer (some ⟨k,0,none⟩)):=(BG.out.below BW.out BG.out.lt).cell 0
   refine wpOp_step (o:=?os51) ?hos51 (fun K hK=>?_)
   case hos51=>simp only [zge]; rfl
   go_simp
   refine hK _ _ ?_
   clear hK K
   try simp only [zpt]
   exact ⟨_,_,rfl,BW,fun _=>rfl,fun a=>by first | exact h4 (by simpa using a) | rfl⟩
  ·refine wpOp_step (o:=?os52) ?hos52 (fun K hK=>?_)
   case hos52=>simp only [zge]; rfl
   refine step_loadW rfl 27 (.tmp 6) rfl q 0 rfl kc _ Tryd.underlying27 rfl IK.out (B0.out.below BW.out B0.out.lt).cells (hK _ _ ?_)
   clear hK K
   try simp only [zpt]
   exact ⟨_,_,rfl,BW,fun a=>by first | exact h3 (by simpa using a) | rfl,fun _=>rfl⟩
 case fin50 =>
  intro a v50 hI
  obtain ⟨x28,x29,rfl,BW,h3,h4⟩:=hI
  obtain rfl:=h3 (by decide)
  obtain rfl:=h4 (by decide)
  have W3:=Lib.hid (W0.out.trans (BW.out.mono W0.out.size))
  clear h3 h4 BW W0 B0 BG
  try dsimp only
  refine wpAny_ready (rs:=[8]) (by kernel_rfl) (by simp) ?_
  refine AllReady.cons (o:=?p53) ?q53 (fun K hK=>?_) AllReady.nil
  case q53=>simp only [zge]; rfl
  go_simp
  refine (CS.out _ W3.out).mono ?_
  rintro e w5 ⟨A3,n3,c3,rfl,hR,hX,hF⟩
  refine hK _ _ ?_
  clear hK K
  try simp only [zpt]
  have R3:=Lib.hid hR
  have F3:=Lib.hid hF
  have hs3:=W3.out.size
  have W5:=Lib.hid (W3.out.trans (hX.mono hs3))
  clear hR hF hX
  refine wpAny_take (i:=9) (oi:=?oi54) (v:=.slice A3 n3 c3) ?hi54 (by kernel_rfl) (by kernel_rfl) (by kernel_rfl) ?hQ54 ?hy54 ?rest54
  case hi54=>simp only [zge]; rfl
  case hQ54=>exact fun _ _ _ h=>h
  case hy54=>exact Or.inl ⟨by rfl,by intro w; go_simp⟩
  try simp only [zpt]
  refine wpAny_take (i:=10) (oi:=?oi55) (v:=.bool ok) ?hi55 (by kernel_rfl) (by kernel_rfl) (by kernel_rfl) ?hQ55 ?hy55 ?rest55
  case hi55=>simp only [zge]; rfl
  case hQ55=>exact fun _ _ _ h=>h
  case hy55=>exact Or.inl ⟨by rfl,by intro w; go_simp⟩
  try simp only [zpt]
  refine wpAny_take (i:=11) (oi:=?oi56) (v:=.slice A3 n3 c3) ?hi56 (by kernel_rfl) (by kernel_rfl) (by kernel_rfl) ?hQ56 ?hy56 ?rest56
  case hi56=>simp only [zge]; rfl
  case hQ56=>exact fun _ _ _ h=>h
  case hy56=>exact Or.inl ⟨by rfl,by intro w; go_simp⟩
  try simp only [zpt]
  refine wpAny_take (i:=12) (oi:=?oi57) (v:=.bool ok) ?hi57 (by kernel_rfl) (by kernel_rfl) (by kernel_rfl) ?hQ57 ?hy57 ?rest57
  case hi57=>simp only [zge]; rfl
  case hQ57=>exact fun _ _ _ h=>h
  case hy57=>exact Or.inl ⟨by rfl,by intro w; go_simp⟩
  try simp only [zpt]
  refine wpAny_done (by kernel_rfl) ?_ _
  go_wp2_with fail
  go_ret2
  exact ⟨A3,n3,c3,rfl,R3.out,W5.out,fun y hy h0=>by have:=F3.out y hy h0; omega⟩
end Go.Proofs.YtajgjeialbgijaaDoor
namespace Go.Proofs.YtajgjeialbgijaaDoor
set_option linter.unusedVariables false
set_option linter.unusedSimpArgs false
set_option maxRecDepth 100000
open Go.RowKit
theorem lookB_app (key b:List UInt8) (n:Bx.BNote):∀ (l:List Bx.BNote),Bx.lookB key b (l ++ [n])=(Bx.lookB key b l).or (if n.key=key/\n.b=b then some n.out else none)
 | []=>by simp [Bx.lookB]
 | m :: l=>by
  rw [List.cons_append,Bx.lookB,Bx.lookB,lookB_app key b n l]
  split <;> simp
theorem BRel.found {E:List (Value × Value)} {B:List Bx.BNote} (h:BRel E B) {key b hh:List UInt8} (h32:key.length=32) (hl:Bx.lookB key b B=some hh):(∀ v,(mkKey key b,v) ∈ E->v = .agg (hh.map cellOf).toArray)/\∃ v,(mkKey key b,v) ∈ E:=by
 refine ⟨fun v hv=>?_,h.is key b h32 (by rw [hl]; simp)⟩
 obtain ⟨k2,b2,h2,e1,e2,e3⟩:=h.of _ hv
 injection e2 with e2 e4
 obtain ⟨rfl,rfl⟩:=mkKey_inj h32 e1 e2
 rw [hl] at e3
 injection e3 with e3
 rw [e4,e3]
theorem BRel.lost {E:List (Value × Value)} {B:List Bx.BNote} (h:BRel E B) {key b:List UInt8} (h32:key.length=32) (hl:Bx.lookB key b B=none):∀ v,(mkKey key b,v) ∉ E:=fun v hv=>by
 obtain ⟨k2,b2,h2,e1,e2,e3⟩:=h.of _ hv
 injection e2 with e2 e4
 obtain ⟨rfl,rfl⟩:=mkKey_inj h32 e1 e2
 rw [hl] at e3
 cases e3
theorem BRel.more {E E':List (Value × Value)} {B:List Bx.BNote} (h:BRel E B) {key b out:List UInt8} (h32:key.length=32) (hl:Bx.lookB key b B=none) (hE:∀ p,p ∈ E' ↔ p=(mkKey key b,.agg (out.map cellOf).toArray) ∨ (p ∈ E/\p.1 ≠ mkKey key b)):BRel E' (B ++ [⟨key,b,out⟩]):=by
 constructor
 ·intro p hp
  rcases (hE p).1 hp with rfl | ⟨h1,h2⟩
  ·exact ⟨key,b,out,h32,rfl,by rw [lookB_app,hl]; simp⟩
  ·obtain ⟨k2,b2,o2,e1,e2,e3⟩:=h.of p h1
   exact ⟨k2,b2,o2,e1,e2,by rw [lookB_app,e3]; rfl⟩
 ·intro k2 b2 hk2 hx
  by_cases he:key=k2/\b=b2
  ·obtain ⟨rfl,rfl⟩:=he
   exact ⟨_,(hE _).2 (.inl rfl)⟩
  ·rw [lookB_app,if_neg he,Option.or_none] at hx
   obtain ⟨v,hv⟩:=h.is k2 b2 hk2 hx
   exact ⟨v,(hE _).2 (.inr ⟨hv,fun e=>by
    obtain ⟨q1,q2⟩:=mkKey_inj hk2 h32 e
    exact he ⟨q1.symm,q2.symm⟩⟩)⟩
theorem BxJ.turn {w:World} {g k t r1 r2 r3:Nat} {s:Int} {a:Nat} {S:List Bx.SNote} {B L:List Bx.BNote} {ES EB EL:List (Value × Value)} {M:Nat->Prop} (J:BxJ w g k t r1 r2 r3 s a S B L ES EB EL M) {w':World} {a2:Nat} {r:Nat} (hr:r=r2 ∨ r=r3) (hF:Fr (fun b=>b=t ∨ b=r) w w') (hT:TapeAt w' t s a2) {B' L':List Bx.BNote} {EB' EL':List (Value × Value)} (hB:MapIs 77 w' r2 EB') (hL:MapIs 77 w' r3 EL') (rB:BRel EB' B') (rL:BRel EL' L') (gB:Bx.Good B') (gL:Bx.Good L') :
  BxJ w' g k t r1 r2 r3 s a2 S B' L' ES EB' EL' M:=by
 obtain ⟨x1,x2,x3,x4,x5,x6,x7,x8,x9,x10,x11,x12,x13,x14,x15⟩:=J.ne
 have hb:∀ b,M b->b ≠ t->b ≠ r2->b ≠ r3->w'.heap[b]?=w.heap[b]?:=fun b hb h1 h2 h3=>hF.block b (J.lt b hb) (by rcases hr with rfl | rfl <;> (rintro (h | h) <;> contradiction))
 exact {
  bg:=(hb g (J.mem g (.inl rfl)) x2 x4 x5).trans J.bg
  bk:=(hb k (J.mem k (.inr (.inl rfl))) x6 x8 x9).trans J.bk
  tp:=hT
  mS:=J.mS.keep (hb r1 (J.mem r1 (.inr (.inr (.inr (.inl rfl))))) (Ne.symm x10) x13 x14)
  mB:=hB
  mL:=hL
  sS:=J.sS.keep hF.size fun b hm hx=>hb b hm (fun h=>hx (.inr (.inr (.inl h)))) (fun h=>hx (.inr (.inr (.inr (.inr (.inl h)))))) (fun h=>hx (.inr (.inr (.inr (.inr (.inr h))))))
  sB:=rB
  sL:=rL
  gB:=gB
  gL:=gL
  ne:=J.ne
  mem:=J.mem
  lt:=fun b h=>Nat.lt_of_lt_of_le (J.lt b h) hF.size }
theorem noteB {w:World} {g k t r1 r2 r3:Nat} {s:Int} {a:Nat} {S:List Bx.SNote} {B L:List Bx.BNote} {ES EB EL:List (Value × Value)} {M:Nat->Prop} (J:BxJ w g k t r1 r2 r3 s a S B L ES EB EL M) {key b:List UInt8} (hG:Gl w) (hM2:∀ b,M b->2<=b) (ha:a<=1000000) (h32:key.length=32) (hb:b.length<=100000) :
  Calls Tryd.prog 34 #[.pointer (some ⟨k,0,none⟩),.map (some r2),mkKey key b] w fun e w'=>e = .returned (.agg ((Bx.bookOut s a key b B).map cellOf).toArray)/\BxAt w' g (.ideal s (Bx.bookAt a key b B) S (Bx.bookNext s a key b B) L) M/\Fr M w w':=by
 have mt:=J.mem t (.inr (.inr (.inl rfl)))
 have mr:=J.mem r2 (.inr (.inr (.inr (.inr (.inl rfl)))))
 obtain ⟨x1,x2,x3,x4,x5,x6,x7,x8,x9,x10,x11,x12,x13,x14,x15⟩:=J.ne
 cases hl:Bx.lookB key b B with
 | some hh =>
  obtain ⟨h1,h2⟩:=J.sB.found h32 hl
  refine (note_old (k:=k) J.mB h32 hb (Bx.lookB_length J.gB hl) h1 h2).mono ?_
  rintro e w' ⟨rfl,hX⟩
  refine ⟨by simp [Bx.bookOut,hl],?_,Fr.of_below hX⟩
  have e1:Bx.bookAt a key b B=a:=by simp [Bx.bookAt,hl]
  have e2:Bx.bookNext s a key b B=B:=by simp [Bx.bookNext,hl]
  rw [e1,e2]
  exact ⟨k,t,r1,r2,r3,ES,EB,EL,J.keep hX.size fun b hb=>hX.block b (J.lt b hb)⟩
 | none =>
  refine (note_new hG (hM2 t mt) J.bk J.tp J.mB h32 hb (J.sB.lost h32 hl) ha x6 x11).mono ?_
  rintro e w' ⟨rfl,h1,⟨E',h2,h3⟩,h4⟩
  refine ⟨by simp [Bx.bookOut,hl],?_,h4.mono (by rintro b (rfl | rfl) <;> assumption)⟩
  have e1:Bx.bookAt a key b B=a + 32:=by simp [Bx.bookAt,hl]
  have e2:Bx.bookNext s a key b B=B ++ [⟨key,b,Tap.tape s a 32⟩]:=by simp [Bx.bookNext,hl]
  have e3:=Bx.bookNext_good s a key b B J.gB
  rw [e2] at e3
  rw [e1,e2]
  exact ⟨k,t,r1,r2,r3,ES,E',EL,J.turn (.inl rfl) h4 h1 h2 (J.mL.keep (h4.block r3 (J.lt r3 (J.mem r3 (.inr (.inr (.inr (.inr (.inr rfl))))))) (by rintro (h | h) <;> omega))) (J.sB.more h32 hl h3) J.sL e3 J.gL⟩
theorem noteL {w:World} {g k t r1 r2 r3:Nat} {s:Int} {a:Nat} {S:List Bx.SNote} {B L:List Bx.BNote} {ES EB EL:List (Value × Value)} {M:Nat->Prop} (J:BxJ w g k t r1 r2 r3 s a S B L ES EB EL M) {key b:List UInt8} (hG:Gl w) (hM2:∀ b,M b->2<=b) (ha:a<=1000000) (h32:key.length=32) (hb:b.length<=100000) :
  Calls Tryd.prog 34 #[.pointer (some ⟨k,0,none⟩),.map (some r3),mkKey key b] w fun e w'=>e = .returned (.agg ((Bx.bookOut s a key b L).map cellOf).toArray)/\BxAt w' g (.ideal s (Bx.bookAt a key b L) S B (Bx.bookNext s a key b L)) M/\Fr M w w':=by
 have mt:=J.mem t (.inr (.inr (.inl rfl)))
 have mr:=J.mem r3 (.inr (.inr (.inr (.inr (.inr rfl)))))
 obtain ⟨x1,x2,x3,x4,x5,x6,x7,x8,x9,x10,x11,x12,x13,x14,x15⟩:=J.ne
 cases hl:Bx.lookB key b L with
 | some hh =>
  obtain ⟨h1,h2⟩:=J.sL.found h32 hl
  refine (note_old (k:=k) J.mL h32 hb (Bx.lookB_length J.gL hl) h1 h2).mono ?_
  rintro e w' ⟨rfl,hX⟩
  refine ⟨by simp [Bx.bookOut,hl],?_,Fr.of_below hX⟩
  have e1:Bx.bookAt a key b L=a:=by simp [Bx.bookAt,hl]
  have e2:Bx.bookNext s a key b L=L:=by simp [Bx.bookNext,hl]
  rw [e1,e2]
  exact ⟨k,t,r1,r2,r3,ES,EB,EL,J.keep hX.size fun b hb=>hX.block b (J.lt b hb)⟩
 | none =>
  refine (note_new hG (hM2 t mt) J.bk J.tp J.mL h32 hb (J.sL.lost h32 hl) ha x6 x12).mono ?_
  rintro e w' ⟨rfl,h1,⟨E',h2,h3⟩,h4⟩
  refine ⟨by simp [Bx.bookOut,hl],?_,h4.mono (by rintro b (rfl | rfl) <;> assumption)⟩
  have e1:Bx.bookAt a key b L=a + 32:=by simp [Bx.bookAt,hl]
  have e2:Bx.bookNext s a key b L=L ++ [⟨key,b,Tap.tape s a 32⟩]:=by simp [Bx.bookNext,hl]
  have e3:=Bx.bookNext_good s a key b L J.gL
  rw [e2] at e3
  rw [e1,e2]
  exact ⟨k,t,r1,r2,r3,ES,EB,E',J.turn (.inr rfl) h4 h1 (J.mB.keep (h4.block r2 (J.lt r2 (J.mem r2 (.inr (.inr (.inr (.inr (.inl rfl))))))) (by rintro (h | h) <;> omega))) h2 J.sB (J.sL.more h32 hl h3) J.gB e3⟩
theorem zeroBuilt:Tryd.prog.built 27 []=some (List.replicate 32 (Value.int .u8 0)).toArray:=by kernel_rfl
set_option maxRecDepth 100000 in
theorem bmkZ (w:World) (key:List UInt8) (A:Option Addr) (n c:Nat) (hk:key.length=32):Calls Tryd.prog 25 #[.pointer none,.agg (key.map cellOf).toArray,.slice A n c] w (RetH w zero32):=by
 have IZ:Hid ((Tryd.prog.info? 27).map (·.size)=some (List.replicate 32 (Value.int .u8 0)).length):=by unfold Hid; rw [List.length_replicate]; kernel_rfl
 have OZ:Hid (∀ v ∈ (List.replicate 32 (Value.int .u8 0)),v.oneCell'=true):=fun v hv=>by rw [List.eq_of_mem_replicate hv]; rfl
 have HZ:Hid (zero32.map cellOf=(List.replicate 32 (Value.int .u8 0))):=by unfold Hid zero32; rw [List.map_replicate]; rfl
 unfold RetH
 rw [HZ.out]
 generalize key.map cellOf=kc
 go_enter Tryd.func25,Tryd.ntmps25
 go_upto_region 1 with (fail)
 obtain ⟨w0,hw0⟩:∃ w0,w0=(w.alloc (Obj.cells kc.toArray 27)).alloc (Obj.cells (List.replicate 32 (Value.int .u8 0)).toArray 27):=⟨_,rfl⟩
 have B4:Hid (Blk w0 w.heap.size 27 kc):=by unfold Hid; rw [hw0]; exact (Blk.new w _ _).alloc _
 have B6:Hid (Blk w0 (w.heap.size + 1) 27 (List.replicate 32 (Value.int .u8 0))):=by unfold Hid; rw [hw0]; exact Blk.at_new _ _ _ _ _ rfl (by simp)
 have W0:Hid (Below w.heap.size w w0):=by unfold Hid; rw [hw0]; exact ((Below.refl _ _).alloc (Nat.le_refl _) _).alloc (by simp) _
 have hs0:w.heap.size + 2<=w0.heap.size:=by rw [hw0]; simp
 change Code.wp _ _ _ _ ((w.alloc (Obj.cells kc.toArray 27)).alloc (Obj.cells (List.replicate 32 (Value.int .u8 0)).toArray 27))
 rw [<- hw0]
 clear hw0
 go_wp2_with (first
  | (with_reducible refine build_law rfl 27 #[] rfl (List.replicate 32 (Value.int .u8 0)) (by exact zeroBuilt) ?_)
  | (with_reducible refine storeGen_law rfl 27 (.tmp 6) (.tmp 10) rfl (w.heap.size + 1) rfl (List.replicate 32 (Value.int .u8 0)) rfl 27 (List.replicate 32 (Value.int .u8 0)) IZ.out rfl OZ.out w.heap.size w B6.out W0.out (Nat.le_succ _) ?_; intro w1 B7 X1))
 exact bodyPost_ret (results_cell_row rfl _ _ (w.heap.size + 1) 27 (List.replicate 32 (Value.int .u8 0)).toArray (0,0) _ rfl B7.out Tryd.underlying27 rfl (by rw [IZ.out]; simp)) rfl ⟨rfl,X1.out⟩
set_option maxRecDepth 100000 in
set_option maxHeartbeats 4000000 in
theorem bmkI {w:World} {g k t r1 r2 r3:Nat} {s:Int} {a:Nat} {S:List Bx.SNote} {B L:List Bx.BNote} {ES EB EL:List (Value × Value)} {M:Nat->Prop} {A:Option Addr} {n c:Nat} {b:List UInt8} (key:List UInt8) (J:BxJ w g k t r1 r2 r3 s a S B L ES EB EL M) (hG:Gl w) (hM2:∀ b,M b->2<=b) (ha:a<=900000) (h32:key.length=32) (hrb:Rd w A n c b) (hnb:n<=100000) :
  Calls Tryd.prog 25 #[.pointer (some ⟨g,0,none⟩),.agg (key.map cellOf).toArray,.slice A n c] w (RetM BxAt w g M (Bx.bookOut s a key b B) (.ideal s (Bx.bookAt a key b B) S (Bx.bookNext s a key b B) L)):=by
 obtain ⟨kc,hkc⟩:∃ kc,kc=key.map cellOf:=⟨_,rfl⟩
 obtain ⟨D,hD⟩:∃ D,D=(Bx.bookOut s a key b B).map cellOf:=⟨_,rfl⟩
 have hDl:D.length=32:=by rw [hD,List.length_map,Bx.bookOut_length _ _ _ _ _ J.gB]
 obtain ⟨cs,hcs⟩:∃ cs,cs=kc ++ [Value.string ⟨b.toArray⟩]:=⟨_,rfl⟩
 have K32:kc.length=32:=by rw [hkc,List.length_map,h32]
 have HBL:Hid (Tryd.prog.built 77 [(0,.agg kc.toArray),(1,.string ⟨b.toArray⟩)]=some cs.toArray):=by unfold Hid; rw [hcs]; exact builtM K32 _
 have CN:Hid (∀ W,Below w.heap.size w W->Calls Tryd.prog 34 #[.pointer (some ⟨k,0,none⟩),.map (some r2),.agg cs.toArray] W fun e w'=>e = .returned (.agg D.toArray)/\BxAt w' g (.ideal s (Bx.bookAt a key b B) S (Bx.bookNext s a key b B) L) M/\Fr M W w'):=fun W hW=>by
  have JW:=J.keep hW.size fun b hb=>hW.block b (J.lt b hb)
  have:=noteB JW (key:=key) (b:=b) (hG.below hW hG.size) hM2 (by omega) h32 (by have:=hrb.len; omega)
  rw [hcs,hkc,hD]
  exact this
 have IK:Hid ((Tryd.prog.info? 27).map (·.size)=some kc.length):=by unfold Hid; rw [K32]; kernel_rfl
 have ID:Hid ((Tryd.prog.info? 27).map (·.size)=some D.length):=by unfold Hid; rw [hDl]; kernel_rfl
 have LD:Hid ((List.replicate 32 (Value.int .u8 0)).length=D.length):=by unfold Hid; rw [hDl]; rfl
 have OD:Hid (∀ v ∈ D,v.oneCell'=true):=by unfold Hid; rw [hD]; exact cells_u8 _
 have HBG:=Lib.hid J.bg
 have HBK:=Lib.hid J.bk
 have hgl:=J.bg.lt
 have hkl:=J.bk.lt
 have MLT:Hid (∀ b,M b->b < w.heap.size):=J.lt
 have HRB:=Lib.hid hrb
 unfold RetM
 rw [<- hkc,<- hD]
 clear J hG hM2 hrb hkc hcs hD hDl h32 K32
 go_enter Tryd.func25,Tryd.ntmps25
 go_upto_region 1 with (fail)
 obtain ⟨w0,hw0⟩:∃ w0,w0=(w.alloc (Obj.cells kc.toArray 27)).alloc (Obj.cells (List.replicate 32 (Value.int .u8 0)).toArray 27):=⟨_,rfl⟩
 have B4:Hid (Blk w0 w.heap.size 27 kc):=by unfold Hid; rw [hw0]; exact (Blk.new w _ _).alloc _
 have B6:Hid (Blk w0 (w.heap.size + 1) 27 (List.replicate 32 (Value.int .u8 0))):=by unfold Hid; rw [hw0]; exact Blk.at_new _ _ _ _ _ rfl (by simp)
 have W0:Hid (Below w.heap.size w w0):=by unfold Hid; rw [hw0]; exact ((Below.refl _ _).alloc (Nat.le_refl _) _).alloc (by simp) _
 have hs0:w.heap.size + 2<=w0.heap.size:=by rw [hw0]; simp
 change Code.wp _ _ _ _ ((w.alloc (Obj.cells kc.toArray 27)).alloc (Obj.cells (List.replicate 32 (Value.int .u8 0)).toArray 27))
 rw [<- hw0]
 clear hw0
 have c0:w0.cell? ⟨g,0,none⟩=some (.pointer (some ⟨k,0,none⟩)):=(HBG.out.below W0.out hgl).cell 0
 go_upto_region 4 with (fail)
 clear c0
 refine wp_region_any (by kernel_rfl) ?_
 change wpAny _ _ _ _ _ _ _ (World.drew _)
 replace B4:=Lib.hid B4.out.drew
 replace B6:=Lib.hid B6.out.drew
 replace W0:Hid (Below w.heap.size w w0.drew):=W0.out.drew
 replace hs0:w.heap.size + 2<=w0.drew.heap.size:=hs0
 generalize w0.drew=w2 at *
 obtain ⟨q,hq⟩:∃ q,q=w.heap.size:=⟨_,rfl⟩
 obtain ⟨q1,hq1⟩:∃ q,q=w.heap.size + 1:=⟨_,rfl⟩
 rw [<- hq] at B4
 rw [<- hq1] at B6
 rw [<- hq1,<- hq]
 have hqa:w.heap.size<=q:=by omega
 have hqb:w.heap.size<=q1:=by omega
 have hqc:w.heap.size + 1<=q1/\q1<=w.heap.size + 1:=by omega
 clear hq hq1
 have BG:=Lib.hid (HBG.out.below W0.out hgl)
 have BK:=Lib.hid (HBK.out.below W0.out hkl)
 have RB:=Lib.hid (HRB.out.below W0.out)
 refine wpAny_take (i:=0) (oi:=?oi1) (v:=.pointer (some ⟨g,0,none⟩)) ?hi1 (by kernel_rfl) (by kernel_rfl) (by kernel_rfl) ?hQ1 ?hy1 ?rest1
 case hi1=>simp only [zge]; rfl
 case hQ1=>exact fun _ _ _ h=>h
 case hy1=>exact Or.inl ⟨by rfl,by intro w; go_simp⟩
 try simp only [zpt]
 refine wpAny_take (i:=1) (oi:=?oi2) (v:=.pointer (some ⟨g,0,none⟩)) ?hi2 (by kernel_rfl) (by kernel_rfl) (by kernel_rfl) ?hQ2 ?hy2 ?rest2
 case hi2=>simp only [zge]; rfl
 case hQ2=>exact fun _ _ _ h=>h
 case hy2=>exact Or.inl ⟨by rfl,by intro w; go_simp⟩
 try simp only [zpt]
 refine wpAny_take (i:=2) (oi:=?oi3) (v:=.pointer (some ⟨g,0,none⟩)) ?hi3 (by kernel_rfl) (by kernel_rfl) (by kernel_rfl) ?hQ3 ?hy3 ?rest3
 case hi3=>simp only [zge]; rfl
 case hQ3=>exact fun _ _ _ h=>h
 case hy3=>exact Or.inl ⟨by rfl,by intro w; go_simp⟩
 try simp only [zpt]
 refine wpAny_take (i:=4) (oi:=?oi4) (v:=.pointer (some ⟨g,0,none⟩)) ?hi4 (by kernel_rfl) (by kernel_rfl) (by kernel_rfl) ?hQ4 ?hy4 ?rest4
 case hi4=>simp only [zge]; rfl
 case hQ4=>exact fun _ _ _ h=>h
 case hy4=>exact Or.inl ⟨by rfl,by intro w; go_simp⟩
 try simp only [zpt]
 refine wpAny_take (i:=5) (oi:=?oi5) (v:=.pointer (some ⟨g,0,none⟩)) ?hi5 (by kernel_rfl) (by kernel_rfl) (by kernel_rfl) ?hQ5 ?hy5 ?rest5
 case hi5=>simp only [zge]; rfl
 case hQ5=>exact fun _ _ _ h=>h
 case hy5=>exact Or.inl ⟨by rfl,by intro w; go_simp⟩
 try simp only [zpt]
 refine wpAny_take (i:=6) (oi:=?oi6) (v:=.pointer (some ⟨g,0,none⟩)) ?hi6 (by kernel_rfl) (by kernel_rfl) (by kernel_rfl) ?hQ6 ?hy6 ?rest6
 case hi6=>simp only [zge]; rfl
 case hQ6=>exact fun _ _ _ h=>h
 case hy6=>exact Or.inl ⟨by rfl,by intro w; go_simp⟩
 try simp only [zpt]
 refine wpAny_take (i:=12) (oi:=?oi7) (v:=.slice A n c) ?hi7 (by kernel_rfl) (by kernel_rfl) (by kernel_rfl) ?hQ7 ?hy7 ?rest7
 case hi7=>simp only [zge]; rfl
 case hQ7=>exact fun _ _ _ h=>h
 case hy7=>exact Or.inl ⟨by rfl,by intro w; go_simp⟩
 try simp only [zpt]
 refine phaseL (fun i=>if i=8 then [7] else if i=9 then [8] else if i=10 then [9] else if i=14 then [11,13] else []) (fun d a w'=>∃ x20 x24 x25 x26 x27 x28 x30 x31:Value,a={ tmps:=#[.pointer (some ⟨g,0,none⟩),.agg kc.toArray,.slice A n c,undef,.pointer (some ⟨q,0,none⟩),undef,.pointer (some ⟨q1,0,none⟩),.bool false,.pointer (some ⟨g,0,none⟩),.bool false,undef,.bool true,.pointer (some ⟨g,0,none⟩),.pointer (some ⟨g,0,none⟩),.pointer (some ⟨g,0,none⟩),.pointer (some ⟨k,0,none⟩),.bool true,.pointer (some ⟨g,0,none⟩),.pointer (some ⟨g,0,none⟩),.pointer (some ⟨g,0,none⟩),x20,.pointer (some ⟨g,0,none⟩),.pointer (some ⟨g,0,none⟩),.pointer (some ⟨g,0,none⟩),x24,x25,x26,x27,x28,.slice A n c,x30,x31,undef,undef,undef,undef,undef],defers:=[] }/\Hid (Below w2.heap.size w2 w')/\(d 3=true->x20 = .pointer (some ⟨k,0,none⟩))/\(d 7=true->x24 = .pointer (some ⟨k,0,none⟩))/\(d 8=true->x25 = .pointer (some ⟨k,0,none⟩))/\(d 9=true->x26 = .pointer (some ⟨k,2,none⟩))/\(d 10=true->x27 = .map (some r2))/\(d 11=true->x28 = .agg kc.toArray)/\(d 13=true->x30 = .string ⟨b.toArray⟩)/\(d 14=true->x31 = .agg cs.toArray)) [3,7,8,9,10,11,13,14] ?step8 2 8 [3,7,8,9,10,11,13,14] _ _ _ rfl (by decide) (fun _ h=>h) (Fits.of (by kernel_rfl)) ?init8 ?fin8
 case init8=>refine ⟨_,_,_,_,_,_,_,_,rfl,Below.refl _ _,?_,?_,?_,?_,?_,?_,?_,?_⟩ <;> (intro h; exact absurd h (by decide))
 case step8 =>
  intro i hi d a v8 hI hdi hdeps
  obtain ⟨x20,x24,x25,x26,x27,x28,x30,x31,rfl,BW,h3,h7,h8,h9,h10,h11,h13,h14⟩:=hI
  have hsw:=BW.out.size
  simp only [List.mem_cons,List.not_mem_nil,or_false] at hi
  rcases hi with rfl | rfl | rfl | rfl | rfl | rfl | rfl | rfl
  ·have c0:v8.cell? ⟨g,0,none⟩=some (.pointer (some ⟨k,0,none⟩)):=(BG.out.below BW.out BG.out.lt).cell 0
   refine wpOp_step (o:=?os9) ?hos9 (fun K hK=>?_)
   case hos9=>simp only [zge]; rfl
   go_simp
   refine hK _ _ ?_
   clear hK K
   try simp only [zpt]
   exact ⟨_,_,_,_,_,_,_,_,rfl,BW,fun _=>rfl,fun a=>by first | exact h7 (by simpa using a) | rfl,fun a=>by first | exact h8 (by simpa using a) | rfl,fun a=>by first | exact h9 (by simpa using a) | rfl,fun a=>by first | exact h10 (by simpa using a) | rfl,fun a=>by first | exact h11 (by simpa using a) | rfl,fun a=>by first | exact h13 (by simpa using a) | rfl,fun a=>by first | exact h14 (by simpa using a) | rfl⟩
  ·have c0:v8.cell? ⟨g,0,none⟩=some (.pointer (some ⟨k,0,none⟩)):=(BG.out.below BW.out BG.out.lt).cell 0
   refine wpOp_step (o:=?os10) ?hos10 (fun K hK=>?_)
   case hos10=>simp only [zge]; rfl
   go_simp
   refine hK _ _ ?_
   clear hK K
   try simp only [zpt]
   exact ⟨_,_,_,_,_,_,_,_,rfl,BW,fun a=>by first | exact h3 (by simpa using a) | rfl,fun _=>rfl,fun a=>by first | exact h8 (by simpa using a) | rfl,fun a=>by first | exact h9 (by simpa using a) | rfl,fun a=>by first | exact h10 (by simpa using a) | rfl,fun a=>by first | exact h11 (by simpa using a) | rfl,fun a=>by first | exact h13 (by simpa using a) | rfl,fun a=>by first | exact h14 (by simpa using a) | rfl⟩
  ·obtain rfl:=h7 (hdeps 7 (by simp))
   refine wpOp_step (o:=?os11) ?hos11 (fun K hK=>?_)
   case hos11=>simp only [zge]; rfl
   go_simp
   refine hK _ _ ?_
   clear hK K
   try simp only [zpt]
   exact ⟨_,_,_,_,_,_,_,_,rfl,BW,fun a=>by first | exact h3 (by simpa using a) | rfl,fun a=>by first | exact h7 (by simpa using a) | rfl,fun _=>rfl,fun a=>by first | exact h9 (by simpa using a) | rfl,fun a=>by first | exact h10 (by simpa using a) | rfl,fun a=>by first | exact h11 (by simpa using a) | rfl,fun a=>by first | exact h13 (by simpa using a) | rfl,fun a=>by first | exact h14 (by simpa using a) | rfl⟩
  ·obtain rfl:=h8 (hdeps 8 (by simp))
   refine wpOp_step (o:=?os12) ?hos12 (fun K hK=>?_)
   case hos12=>simp only [zge]; rfl
   go_simp
   refine hK _ _ ?_
   clear hK K
   try simp only [zpt]
   exact ⟨_,_,_,_,_,_,_,_,rfl,BW,fun a=>by first | exact h3 (by simpa using a) | rfl,fun a=>by first | exact h7 (by simpa using a) | rfl,fun a=>by first | exact h8 (by simpa using a) | rfl,fun _=>rfl,fun a=>by first | exact h10 (by simpa using a) | rfl,fun a=>by first | exact h11 (by simpa using a) | rfl,fun a=>by first | exact h13 (by simpa using a) | rfl,fun a=>by first | exact h14 (by simpa using a) | rfl⟩
  ·obtain rfl:=h9 (hdeps 9 (by simp))
   have c0:v8.cell? ⟨k,2,none⟩=some (.map (some r2)):=(BK.out.below BW.out BK.out.lt).cell 2
   refine wpOp_step (o:=?os13) ?hos13 (fun K hK=>?_)
   case hos13=>simp only [zge]; rfl
   go_simp
   refine hK _ _ ?_
   clear hK K
   try simp only [zpt]
   exact ⟨_,_,_,_,_,_,_,_,rfl,BW,fun a=>by first | exact h3 (by simpa using a) | rfl,fun a=>by first | exact h7 (by simpa using a) | rfl,fun a=>by first | exact h8 (by simpa using a) | rfl,fun a=>by first | exact h9 (by simpa using a) | rfl,fun _=>rfl,fun a=>by first | exact h11 (by simpa using a) | rfl,fun a=>by first | exact h13 (by simpa using a) | rfl,fun a=>by first | exact h14 (by simpa using a) | rfl⟩
  ·refine wpOp_step (o:=?os14) ?hos14 (fun K hK=>?_)
   case hos14=>simp only [zge]; rfl
   refine step_loadW rfl 27 (.tmp 4) rfl q 0 rfl kc _ Tryd.underlying27 rfl IK.out (B4.out.below BW.out B4.out.lt).cells (hK _ _ ?_)
   clear hK K
   try simp only [zpt]
   exact ⟨_,_,_,_,_,_,_,_,rfl,BW,fun a=>by first | exact h3 (by simpa using a) | rfl,fun a=>by first | exact h7 (by simpa using a) | rfl,fun a=>by first | exact h8 (by simpa using a) | rfl,fun a=>by first | exact h9 (by simpa using a) | rfl,fun a=>by first | exact h10 (by simpa using a) | rfl,fun _=>rfl,fun a=>by first | exact h13 (by simpa using a) | rfl,fun a=>by first | exact h14 (by simpa using a) | rfl⟩
  ·have hcv:=conv_bytes (RB.out.below BW.out)
   refine wpOp_step (o:=?os15) ?hos15 (fun K hK=>?_)
   case hos15=>simp only [zge]; rfl
   go_simp
   refine hK _ _ ?_
   clear hK K
   try simp only [zpt]
   exact ⟨_,_,_,_,_,_,_,_,rfl,BW,fun a=>by first | exact h3 (by simpa using a) | rfl,fun a=>by first | exact h7 (by simpa using a) | rfl,fun a=>by first | exact h8 (by simpa using a) | rfl,fun a=>by first | exact h9 (by simpa using a) | rfl,fun a=>by first | exact h10 (by simpa using a) | rfl,fun a=>by first | exact h11 (by simpa using a) | rfl,fun _=>rfl,fun a=>by first | exact h14 (by simpa using a) | rfl⟩
  ·obtain rfl:=h11 (hdeps 11 (by simp))
   obtain rfl:=h13 (hdeps 13 (by simp))
   refine wpOp_step (o:=?os16) ?hos16 (fun K hK=>?_)
   case hos16=>simp only [zge]; rfl
   refine step_build rfl 77 #[(0,.tmp 28),(1,.tmp 30)] rfl cs (by simp only [List.map_toArray,List.map_cons,List.map_nil]; exact HBL.out) (hK _ _ ?_)
   clear hK K
   try simp only [zpt]
   exact ⟨_,_,_,_,_,_,_,_,rfl,BW,fun a=>by first | exact h3 (by simpa using a) | rfl,fun a=>by first | exact h7 (by simpa using a) | rfl,fun a=>by first | exact h8 (by simpa using a) | rfl,fun a=>by first | exact h9 (by simpa using a) | rfl,fun a=>by first | exact h10 (by simpa using a) | rfl,fun a=>by first | exact h11 (by simpa using a) | rfl,fun a=>by first | exact h13 (by simpa using a) | rfl,fun _=>rfl⟩
 case fin8 =>
  intro a v8 hI
  obtain ⟨x20,x24,x25,x26,x27,x28,x30,x31,rfl,BW,h3,h7,h8,h9,h10,h11,h13,h14⟩:=hI
  obtain rfl:=h3 (by decide)
  obtain rfl:=h7 (by decide)
  obtain rfl:=h8 (by decide)
  obtain rfl:=h9 (by decide)
  obtain rfl:=h10 (by decide)
  obtain rfl:=h11 (by decide)
  obtain rfl:=h13 (by decide)
  obtain rfl:=h14 (by decide)
  have W3:=Lib.hid (W0.out.trans (BW.out.mono W0.out.size))
  have C6:=Lib.hid (B6.out.below BW.out B6.out.lt)
  clear h3 h7 h8 h9 h10 h11 h13 h14 BW W0 BG BK B4 B6
  try dsimp only
  refine wpAny_ready (rs:=[15]) (by kernel_rfl) (by simp) ?_
  refine AllReady.cons (o:=?p17) ?q17 (fun K hK=>?_) AllReady.nil
  case q17=>simp only [zge]; rfl
  go_simp
  refine (CN.out _ W3.out).mono ?_
  rintro e w5 ⟨rfl,hP,hF⟩
  refine hK _ _ ?_
  clear hK K
  try simp only [zpt]
  have P5:=Lib.hid hP
  have F5:Hid (Fr M w w5):=(Fr.of_below W3.out).trans hF
  have C7:Hid (Blk w5 q1 27 (List.replicate 32 (Value.int .u8 0))):=hF.blk C6.out (fun h=>by have:=MLT.out _ h; omega)
  clear hP hF C6
  refine wpAny_ready (rs:=[16]) (by kernel_rfl) (by simp) ?_
  refine AllReady.cons (o:=?p18) ?q18 (fun K hK=>?_) AllReady.nil
  case q18=>simp only [zge]; rfl
  refine step_storeAll rfl 27 (.tmp 6) (.tmp 32) rfl q1 rfl D rfl 27 (List.replicate 32 (Value.int .u8 0)) C7.out ID.out LD.out OD.out (hK _ _ ?_)
  clear hK K
  try simp only [zpt]
  have F6:Hid (Fr M w (w5.setRow q1 D.toArray)):=F5.out.cut (below_setRow (Below.refl w.heap.size w5) hqb _) (Nat.le_refl _)
  have P6:Hid (BxAt (w5.setRow q1 D.toArray) g (.ideal s (Bx.bookAt a key b B) S (Bx.bookNext s a key b B) L) M):=bxAt_keep P5.out (by simp) (fun b hb=>setRow_other _ _ _ _ (by have:=MLT.out b hb; omega))
  have C8:Hid (Blk (w5.setRow q1 D.toArray) q1 27 D):=C7.out.row
  generalize w5.setRow q1 D.toArray=w6 at *
  refine wpAny_done (by kernel_rfl) ?_ _
  go_wp2_with fail
  exact bodyPost_ret (results_cell_row rfl _ _ q1 27 D.toArray (0,0) _ rfl C8.out Tryd.underlying27 rfl (by rw [ID.out]; simp)) rfl ⟨M,rfl,P6.out,F6.out,fun b hb=>.inl hb⟩
set_option maxRecDepth 100000 in
theorem blbZ (w:World) (key:List UInt8) (b:List UInt8) (hk:key.length=32):Calls Tryd.prog 45 #[.pointer none,.agg (key.map cellOf).toArray,.string ⟨b.toArray⟩] w (RetH w zero32):=by
 have IZ:Hid ((Tryd.prog.info? 27).map (·.size)=some (List.replicate 32 (Value.int .u8 0)).length):=by unfold Hid; rw [List.length_replicate]; kernel_rfl
 have OZ:Hid (∀ v ∈ (List.replicate 32 (Value.int .u8 0)),v.oneCell'=true):=fun v hv=>by rw [List.eq_of_mem_replicate hv]; rfl
 have HZ:Hid (zero32.map cellOf=(List.replicate 32 (Value.int .u8 0))):=by unfold Hid zero32; rw [List.map_replicate]; rfl
 unfold RetH
 rw [HZ.out]
 generalize key.map cellOf=kc
 go_enter Tryd.func45,Tryd.ntmps45
 go_upto_region 1 with (fail)
 obtain ⟨w0,hw0⟩:∃ w0,w0=(w.alloc (Obj.cells kc.toArray 27)).alloc (Obj.cells (List.replicate 32 (Value.int .u8 0)).toArray 27):=⟨_,rfl⟩
 have B4:Hid (Blk w0 w.heap.size 27 kc):=by unfold Hid; rw [hw0]; exact (Blk.new w _ _).alloc _
 have B6:Hid (Blk w0 (w.heap.size + 1) 27 (List.replicate 32 (Value.int .u8 0))):=by unfold Hid; rw [hw0]; exact Blk.at_new _ _ _ _ _ rfl (by simp)
 have W0:Hid (Below w.heap.size w w0):=by unfold Hid; rw [hw0]; exact ((Below.refl _ _).alloc (Nat.le_refl _) _).alloc (by simp) _
 have hs0:w.heap.size + 2<=w0.heap.size:=by rw [hw0]; simp
 change Code.wp _ _ _ _ ((w.alloc (Obj.cells kc.toArray 27)).alloc (Obj.cells (List.replicate 32 (Value.int .u8 0)).toArray 27))
 rw [<- hw0]
 clear hw0
 go_wp2_with (first
  | (with_reducible refine build_law rfl 27 #[] rfl (List.replicate 32 (Value.int .u8 0)) (by exact zeroBuilt) ?_)
  | (with_reducible refine storeGen_law rfl 27 (.tmp 6) (.tmp 10) rfl (w.heap.size + 1) rfl (List.replicate 32 (Value.int .u8 0)) rfl 27 (List.replicate 32 (Value.int .u8 0)) IZ.out rfl OZ.out w.heap.size w B6.out W0.out (Nat.le_succ _) ?_; intro w1 B7 X1))
 exact bodyPost_ret (results_cell_row rfl _ _ (w.heap.size + 1) 27 (List.replicate 32 (Value.int .u8 0)).toArray (0,0) _ rfl B7.out Tryd.underlying27 rfl (by rw [IZ.out]; simp)) rfl ⟨rfl,X1.out⟩
set_option maxRecDepth 100000 in
set_option maxHeartbeats 4000000 in
theorem blbI {w:World} {g k t r1 r2 r3:Nat} {s:Int} {a:Nat} {S:List Bx.SNote} {B L:List Bx.BNote} {ES EB EL:List (Value × Value)} {M:Nat->Prop} {b:List UInt8} (key:List UInt8) (J:BxJ w g k t r1 r2 r3 s a S B L ES EB EL M) (hG:Gl w) (hM2:∀ b,M b->2<=b) (ha:a<=900000) (h32:key.length=32) (hnb:b.length<=100000) :
  Calls Tryd.prog 45 #[.pointer (some ⟨g,0,none⟩),.agg (key.map cellOf).toArray,.string ⟨b.toArray⟩] w (RetM BxAt w g M (Bx.bookOut s a key b L) (.ideal s (Bx.bookAt a key b L) S B (Bx.bookNext s a key b L))):=by
 obtain ⟨kc,hkc⟩:∃ kc,kc=key.map cellOf:=⟨_,rfl⟩
 obtain ⟨D,hD⟩:∃ D,D=(Bx.bookOut s a key b L).map cellOf:=⟨_,rfl⟩
 have hDl:D.length=32:=by rw [hD,List.length_map,Bx.bookOut_length _ _ _ _ _ J.gL]
 obtain ⟨cs,hcs⟩:∃ cs,cs=kc ++ [Value.string ⟨b.toArray⟩]:=⟨_,rfl⟩
 have K32:kc.length=32:=by rw [hkc,List.length_map,h32]
 have HBL:Hid (Tryd.prog.built 77 [(0,.agg kc.toArray),(1,.string ⟨b.toArray⟩)]=some cs.toArray):=by unfold Hid; rw [hcs]; exact builtM K32 _
 have CN:Hid (∀ W,Below w.heap.size w W->Calls Tryd.prog 34 #[.pointer (some ⟨k,0,none⟩),.map (some r3),.agg cs.toArray] W fun e w'=>e = .returned (.agg D.toArray)/\BxAt w' g (.ideal s (Bx.bookAt a key b L) S B (Bx.bookNext s a key b L)) M/\Fr M W w'):=fun W hW=>by
  have JW:=J.keep hW.size fun b hb=>hW.block b (J.lt b hb)
  have:=noteL JW (key:=key) (b:=b) (hG.below hW hG.size) hM2 (by omega) h32 (by omega)
  rw [hcs,hkc,hD]
  exact this
 have IK:Hid ((Tryd.prog.info? 27).map (·.size)=some kc.length):=by unfold Hid; rw [K32]; kernel_rfl
 have ID:Hid ((Tryd.prog.info? 27).map (·.size)=some D.length):=by unfold Hid; rw [hDl]; kernel_rfl
 have LD:Hid ((List.replicate 32 (Value.int .u8 0)).length=D.length):=by unfold Hid; rw [hDl]; rfl
 have OD:Hid (∀ v ∈ D,v.oneCell'=true):=by unfold Hid; rw [hD]; exact cells_u8 _
 have HBG:=Lib.hid J.bg
 have HBK:=Lib.hid J.bk
 have hgl:=J.bg.lt
 have hkl:=J.bk.lt
 have MLT:Hid (∀ b,M b->b < w.heap.size):=J.lt
 unfold RetM
 rw [<- hkc,<- hD]
 clear J hG hM2 hkc hcs hD hDl h32 K32
 go_enter Tryd.func45,Tryd.ntmps45
 go_upto_region 1 with (fail)
 obtain ⟨w0,hw0⟩:∃ w0,w0=(w.alloc (Obj.cells kc.toArray 27)).alloc (Obj.cells (List.replicate 32 (Value.int .u8 0)).toArray 27):=⟨_,rfl⟩
 have B4:Hid (Blk w0 w.heap.size 27 kc):=by unfold Hid; rw [hw0]; exact (Blk.new w _ _).alloc _
 have B6:Hid (Blk w0 (w.heap.size + 1) 27 (List.replicate 32 (Value.int .u8 0))):=by unfold Hid; rw [hw0]; exact Blk.at_new _ _ _ _ _ rfl (by simp)
 have W0:Hid (Below w.heap.size w w0):=by unfold Hid; rw [hw0]; exact ((Below.refl _ _).alloc (Nat.le_refl _) _).alloc (by simp) _
 have hs0:w.heap.size + 2<=w0.heap.size:=by rw [hw0]; simp
 change Code.wp _ _ _ _ ((w.alloc (Obj.cells kc.toArray 27)).alloc (Obj.cells (List.replicate 32 (Value.int .u8 0)).toArray 27))
 rw [<- hw0]
 clear hw0
 have c0:w0.cell? ⟨g,0,none⟩=some (.pointer (some ⟨k,0,none⟩)):=(HBG.out.below W0.out hgl).cell 0
 go_upto_region 4 with (fail)
 clear c0
 refine wp_region_any (by kernel_rfl) ?_
 change wpAny _ _ _ _ _ _ _ (World.drew _)
 replace B4:=Lib.hid B4.out.drew
 replace B6:=Lib.hid B6.out.drew
 replace W0:Hid (Below w.heap.size w w0.drew):=W0.out.drew
 replace hs0:w.heap.size + 2<=w0.drew.heap.size:=hs0
 generalize w0.drew=w2 at *
 obtain ⟨q,hq⟩:∃ q,q=w.heap.size:=⟨_,rfl⟩
 obtain ⟨q1,hq1⟩:∃ q,q=w.heap.size + 1:=⟨_,rfl⟩
 rw [<- hq] at B4
 rw [<- hq1] at B6
 rw [<- hq1,<- hq]
 have hqa:w.heap.size<=q:=by omega
 have hqb:w.heap.size<=q1:=by omega
 have hqc:w.heap.size + 1<=q1/\q1<=w.heap.size + 1:=by omega
 clear hq hq1
 have BG:=Lib.hid (HBG.out.below W0.out hgl)
 have BK:=Lib.hid (HBK.out.below W0.out hkl)
 refine wpAny_take (i:=0) (oi:=?oi19) (v:=.pointer (some ⟨g,0,none⟩)) ?hi19 (by kernel_rfl) (by kernel_rfl) (by kernel_rfl) ?hQ19 ?hy19 ?rest19
 case hi19=>simp only [zge]; rfl
 case hQ19=>exact fun _ _ _ h=>h
 case hy19=>exact Or.inl ⟨by rfl,by intro w; go_simp⟩
 try simp only [zpt]
 refine wpAny_take (i:=1) (oi:=?oi20) (v:=.pointer (some ⟨g,0,none⟩)) ?hi20 (by kernel_rfl) (by kernel_rfl) (by kernel_rfl) ?hQ20 ?hy20 ?rest20
 case hi20=>simp only [zge]; rfl
 case hQ20=>exact fun _ _ _ h=>h
 case hy20=>exact Or.inl ⟨by rfl,by intro w; go_simp⟩
 try simp only [zpt]
 refine wpAny_take (i:=2) (oi:=?oi21) (v:=.pointer (some ⟨g,0,none⟩)) ?hi21 (by kernel_rfl) (by kernel_rfl) (by kernel_rfl) ?hQ21 ?hy21 ?rest21
 case hi21=>simp only [zge]; rfl
 case hQ21=>exact fun _ _ _ h=>h
 case hy21=>exact Or.inl ⟨by rfl,by intro w; go_simp⟩
 try simp only [zpt]
 refine wpAny_take (i:=4) (oi:=?oi22) (v:=.pointer (some ⟨g,0,none⟩)) ?hi22 (by kernel_rfl) (by kernel_rfl) (by kernel_rfl) ?hQ22 ?hy22 ?rest22
 case hi22=>simp only [zge]; rfl
 case hQ22=>exact fun _ _ _ h=>h
 case hy22=>exact Or.inl ⟨by rfl,by intro w; go_simp⟩
 try simp only [zpt]
 refine wpAny_take (i:=5) (oi:=?oi23) (v:=.pointer (some ⟨g,0,none⟩)) ?hi23 (by kernel_rfl) (by kernel_rfl) (by kernel_rfl) ?hQ23 ?hy23 ?rest23
 case hi23=>simp only [zge]; rfl
 case hQ23=>exact fun _ _ _ h=>h
 case hy23=>exact Or.inl ⟨by rfl,by intro w; go_simp⟩
 try simp only [zpt]
 refine wpAny_take (i:=6) (oi:=?oi24) (v:=.pointer (some ⟨g,0,none⟩)) ?hi24 (by kernel_rfl) (by kernel_rfl) (by kernel_rfl) ?hQ24 ?hy24 ?rest24
 case hi24=>simp only [zge]; rfl
 case hQ24=>exact fun _ _ _ h=>h
 case hy24=>exact Or.inl ⟨by rfl,by intro w; go_simp⟩
 try simp only [zpt]
 refine wpAny_take (i:=12) (oi:=?oi25) (v:=.string ⟨b.toArray⟩) ?hi25 (by kernel_rfl) (by kernel_rfl) (by kernel_rfl) ?hQ25 ?hy25 ?rest25
 case hi25=>simp only [zge]; rfl
 case hQ25=>exact fun _ _ _ h=>h
 case hy25=>exact Or.inl ⟨by rfl,by intro w; go_simp⟩
 try simp only [zpt]
 refine phaseL (fun i=>if i=8 then [7] else if i=9 then [8] else if i=10 then [9] else if i=14 then [11,13] else []) (fun d a w'=>∃ x20 x24 x25 x26 x27 x28 x30 x31:Value,a={ tmps:=#[.pointer (some ⟨g,0,none⟩),.agg kc.toArray,.string ⟨b.toArray⟩,undef,.pointer (some ⟨q,0,none⟩),undef,.pointer (some ⟨q1,0,none⟩),.bool false,.pointer (some ⟨g,0,none⟩),.bool false,undef,.bool true,.pointer (some ⟨g,0,none⟩),.pointer (some ⟨g,0,none⟩),.pointer (some ⟨g,0,none⟩),.pointer (some ⟨k,0,none⟩),.bool true,.pointer (some ⟨g,0,none⟩),.pointer (some ⟨g,0,none⟩),.pointer (some ⟨g,0,none⟩),x20,.pointer (some ⟨g,0,none⟩),.pointer (some ⟨g,0,none⟩),.pointer (some ⟨g,0,none⟩),x24,x25,x26,x27,x28,.string ⟨b.toArray⟩,x30,x31,undef,undef,undef,undef,undef,undef,undef],defers:=[] }/\Hid (Below w2.heap.size w2 w')/\(d 3=true->x20 = .pointer (some ⟨k,0,none⟩))/\(d 7=true->x24 = .pointer (some ⟨k,0,none⟩))/\(d 8=true->x25 = .pointer (some ⟨k,0,none⟩))/\(d 9=true->x26 = .pointer (some ⟨k,3,none⟩))/\(d 10=true->x27 = .map (some r3))/\(d 11=true->x28 = .agg kc.toArray)/\(d 13=true->x30 = .string ⟨b.toArray⟩)/\(d 14=true->x31 = .agg cs.toArray)) [3,7,8,9,10,11,13,14] ?step26 2 8 [3,7,8,9,10,11,13,14] _ _ _ rfl (by decide) (fun _ h=>h) (Fits.of (by kernel_rfl)) ?init26 ?fin26
 case init26=>refine ⟨_,_,_,_,_,_,_,_,rfl,Below.refl _ _,?_,?_,?_,?_,?_,?_,?_,?_⟩ <;> (intro h; exact absurd h (by decide))
 case step26 =>
  intro i hi d a v26 hI hdi hdeps
  obtain ⟨x20,x24,x25,x26,x27,x28,x30,x31,rfl,BW,h3,h7,h8,h9,h10,h11,h13,h14⟩:=hI
  have hsw:=BW.out.size
  simp only [List.mem_cons,List.not_mem_nil,or_false] at hi
  rcases hi with rfl | rfl | rfl | rfl | rfl | rfl | rfl | rfl
  ·have c0:v26.cell? ⟨g,0,none⟩=some (.pointer (some ⟨k,0,none⟩)):=(BG.out.below BW.out BG.out.lt).cell 0
   refine wpOp_step (o:=?os27) ?hos27 (fun K hK=>?_)
   case hos27=>simp only [zge]; rfl
   go_simp
   refine hK _ _ ?_
   clear hK K
   try simp only [zpt]
   exact ⟨_,_,_,_,_,_,_,_,rfl,BW,fun _=>rfl,fun a=>by first | exact h7 (by simpa using a) | rfl,fun a=>by first | exact h8 (by simpa using a) | rfl,fun a=>by first | exact h9 (by simpa using a) | rfl,fun a=>by first | exact h10 (by simpa using a) | rfl,fun a=>by first | exact h11 (by simpa using a) | rfl,fun a=>by first | exact h13 (by simpa using a) | rfl,fun a=>by first | exact h14 (by simpa using a) | rfl⟩
  ·have c0:v26.cell? ⟨g,0,none⟩=some (.pointer (some ⟨k,0,none⟩)):=(BG.out.below BW.out BG.out.lt).cell 0
   refine wpOp_step (o:=?os28) ?hos28 (fun K hK=>?_)
   case hos28=>simp only [zge]; rfl
   go_simp
   refine hK _ _ ?_
   clear hK K
   try simp only [zpt]
   exact ⟨_,_,_,_,_,_,_,_,rfl,BW,fun a=>by first | exact h3 (by simpa using a) | rfl,fun _=>rfl,fun a=>by first | exact h8 (by simpa using a) | rfl,fun a=>by first | exact h9 (by simpa using a) | rfl,fun a=>by first | exact h10 (by simpa using a) | rfl,fun a=>by first | exact h11 (by simpa using a) | rfl,fun a=>by first | exact h13 (by simpa using a) | rfl,fun a=>by first | exact h14 (by simpa using a) | rfl⟩
  ·obtain rfl:=h7 (hdeps 7 (by simp))
   refine wpOp_step (o:=?os29) ?hos29 (fun K hK=>?_)
   case hos29=>simp only [zge]; rfl
   go_simp
   refine hK _ _ ?_
   clear hK K
   try simp only [zpt]
   exact ⟨_,_,_,_,_,_,_,_,rfl,BW,fun a=>by first | exact h3 (by simpa using a) | rfl,fun a=>by first | exact h7 (by simpa using a) | rfl,fun _=>rfl,fun a=>by first | exact h9 (by simpa using a) | rfl,fun a=>by first | exact h10 (by simpa using a) | rfl,fun a=>by first | exact h11 (by simpa using a) | rfl,fun a=>by first | exact h13 (by simpa using a) | rfl,fun a=>by first | exact h14 (by simpa using a) | rfl⟩
  ·obtain rfl:=h8 (hdeps 8 (by simp))
   refine wpOp_step (o:=?os30) ?hos30 (fun K hK=>?_)
   case hos30=>simp only [zge]; rfl
   go_simp
   refine hK _ _ ?_
   clear hK K
   try simp only [zpt]
   exact ⟨_,_,_,_,_,_,_,_,rfl,BW,fun a=>by first | exact h3 (by simpa using a) | rfl,fun a=>by first | exact h7 (by simpa using a) | rfl,fun a=>by first | exact h8 (by simpa using a) | rfl,fun _=>rfl,fun a=>by first | exact h10 (by simpa using a) | rfl,fun a=>by first | exact h11 (by simpa using a) | rfl,fun a=>by first | exact h13 (by simpa using a) | rfl,fun a=>by first | exact h14 (by simpa using a) | rfl⟩
  ·obtain rfl:=h9 (hdeps 9 (by simp))
   have c0:v26.cell? ⟨k,3,none⟩=some (.map (some r3)):=(BK.out.below BW.out BK.out.lt).cell 3
   refine wpOp_step (o:=?os31) ?hos31 (fun K hK=>?_)
   case hos31=>simp only [zge]; rfl
   go_simp
   refine hK _ _ ?_
   clear hK K
   try simp only [zpt]
   exact ⟨_,_,_,_,_,_,_,_,rfl,BW,fun a=>by first | exact h3 (by simpa using a) | rfl,fun a=>by first | exact h7 (by simpa using a) | rfl,fun a=>by first | exact h8 (by simpa using a) | rfl,fun a=>by first | exact h9 (by simpa using a) | rfl,fun _=>rfl,fun a=>by first | exact h11 (by simpa using a) | rfl,fun a=>by first | exact h13 (by simpa using a) | rfl,fun a=>by first | exact h14 (by simpa using a) | rfl⟩
  ·refine wpOp_step (o:=?os32) ?hos32 (fun K hK=>?_)
   case hos32=>simp only [zge]; rfl
   refine step_loadW rfl 27 (.tmp 4) rfl q 0 rfl kc _ Tryd.underlying27 rfl IK.out (B4.out.below BW.out B4.out.lt).cells (hK _ _ ?_)
   clear hK K
   try simp only [zpt]
   exact ⟨_,_,_,_,_,_,_,_,rfl,BW,fun a=>by first | exact h3 (by simpa using a) | rfl,fun a=>by first | exact h7 (by simpa using a) | rfl,fun a=>by first | exact h8 (by simpa using a) | rfl,fun a=>by first | exact h9 (by simpa using a) | rfl,fun a=>by first | exact h10 (by simpa using a) | rfl,fun _=>rfl,fun a=>by first | exact h13 (by simpa using a) | rfl,fun a=>by first | exact h14 (by simpa using a) | rfl⟩
  ·refine wpOp_step (o:=?os33) ?hos33 (fun K hK=>?_)
   case hos33=>simp only [zge]; rfl
   go_simp
   refine (sclone_any b v26 (by omega)).mono ?_
   rintro e u26 ⟨rfl,hX⟩
   refine hK _ _ ?_
   clear hK K
   try simp only [zpt]
   exact ⟨_,_,_,_,_,_,_,_,rfl,BW.out.trans (hX.mono hsw),fun a=>by first | exact h3 (by simpa using a) | rfl,fun a=>by first | exact h7 (by simpa using a) | rfl,fun a=>by first | exact h8 (by simpa using a) | rfl,fun a=>by first | exact h9 (by simpa using a) | rfl,fun a=>by first | exact h10 (by simpa using a) | rfl,fun a=>by first | exact h11 (by simpa using a) | rfl,fun _=>rfl,fun a=>by first | exact h14 (by simpa using a) | rfl⟩
  ·obtain rfl:=h11 (hdeps 11 (by simp))
   obtain rfl:=h13 (hdeps 13 (by simp))
   refine wpOp_step (o:=?os34) ?hos34 (fun K hK=>?_)
   case hos34=>simp only [zge]; rfl
   refine step_build rfl 77 #[(0,.tmp 28),(1,.tmp 30)] rfl cs (by simp only [List.map_toArray,List.map_cons,List.map_nil]; exact HBL.out) (hK _ _ ?_)
   clear hK K
   try simp only [zpt]
   exact ⟨_,_,_,_,_,_,_,_,rfl,BW,fun a=>by first | exact h3 (by simpa using a) | rfl,fun a=>by first | exact h7 (by simpa using a) | rfl,fun a=>by first | exact h8 (by simpa using a) | rfl,fun a=>by first | exact h9 (by simpa using a) | rfl,fun a=>by first | exact h10 (by simpa using a) | rfl,fun a=>by first | exact h11 (by simpa using a) | rfl,fun a=>by first | exact h13 (by simpa using a) | rfl,fun _=>rfl⟩
 case fin26 =>
  intro a v26 hI
  obtain ⟨x20,x24,x25,x26,x27,x28,x30,x31,rfl,BW,h3,h7,h8,h9,h10,h11,h13,h14⟩:=hI
  obtain rfl:=h3 (by decide)
  obtain rfl:=h7 (by decide)
  obtain rfl:=h8 (by decide)
  obtain rfl:=h9 (by decide)
  obtain rfl:=h10 (by decide)
  obtain rfl:=h11 (by decide)
  obtain rfl:=h13 (by decide)
  obtain rfl:=h14 (by decide)
  have W3:=Lib.hid (W0.out.trans (BW.out.mono W0.out.size))
  have C6:=Lib.hid (B6.out.below BW.out B6.out.lt)
  clear h3 h7 h8 h9 h10 h11 h13 h14 BW W0 BG BK B4 B6
  try dsimp only
  refine wpAny_ready (rs:=[15]) (by kernel_rfl) (by simp) ?_
  refine AllReady.cons (o:=?p35) ?q35 (fun K hK=>?_) AllReady.nil
  case q35=>simp only [zge]; rfl
  go_simp
  refine (CN.out _ W3.out).mono ?_
  rintro e w5 ⟨rfl,hP,hF⟩
  refine hK _ _ ?_
  clear hK K
  try simp only [zpt]
  have P5:=Lib.hid hP
  have F5:Hid (Fr M w w5):=(Fr.of_below W3.out).trans hF
  have C7:Hid (Blk w5 q1 27 (List.replicate 32 (Value.int .u8 0))):=hF.blk C6.out (fun h=>by have:=MLT.out _ h; omega)
  clear hP hF C6
  refine wpAny_ready (rs:=[16]) (by kernel_rfl) (by simp) ?_
  refine AllReady.cons (o:=?p36) ?q36 (fun K hK=>?_) AllReady.nil
  case q36=>simp only [zge]; rfl
  refine step_storeAll rfl 27 (.tmp 6) (.tmp 32) rfl q1 rfl D rfl 27 (List.replicate 32 (Value.int .u8 0)) C7.out ID.out LD.out OD.out (hK _ _ ?_)
  clear hK K
  try simp only [zpt]
  have F6:Hid (Fr M w (w5.setRow q1 D.toArray)):=F5.out.cut (below_setRow (Below.refl w.heap.size w5) hqb _) (Nat.le_refl _)
  have P6:Hid (BxAt (w5.setRow q1 D.toArray) g (.ideal s (Bx.bookAt a key b L) S B (Bx.bookNext s a key b L)) M):=bxAt_keep P5.out (by simp) (fun b hb=>setRow_other _ _ _ _ (by have:=MLT.out b hb; omega))
  have C8:Hid (Blk (w5.setRow q1 D.toArray) q1 27 D):=C7.out.row
  generalize w5.setRow q1 D.toArray=w6 at *
  refine wpAny_done (by kernel_rfl) ?_ _
  go_wp2_with fail
  exact bodyPost_ret (results_cell_row rfl _ _ q1 27 D.toArray (0,0) _ rfl C8.out Tryd.underlying27 rfl (by rw [ID.out]; simp)) rfl ⟨M,rfl,P6.out,F6.out,fun b hb=>.inl hb⟩
end Go.Proofs.YtajgjeialbgijaaDoor
namespace Go.Proofs.YtajgjeialbgijaaDoor
set_option linter.unusedVariables false
set_option linter.unusedSimpArgs false
set_option maxRecDepth 100000
open Go.RowKit
theorem blk_rd32 {w:World} {g:Nat} {T:TypeId} {m:List UInt8} (hb:Blk w g T (m.map cellOf)) (hl:m.length=32):Rd w (some ⟨g,0,none⟩) 32 32 m :=
 Rd.of_block hb hl (Nat.le_refl _) (by unfold maxLen; omega) (fun j hj=>by
  rw [Nat.zero_add]
  simp [cellOf,List.getD_eq_getElem?_getD,List.getElem?_eq_getElem (show j < m.length by omega)])
theorem conv_str (l:List UInt8) (hl:l.length<=1000000) (W:World):∃ c W',(convert 9 41 (.string ⟨l.toArray⟩)).run Tryd.prog W = .ok (.slice (some ⟨W.heap.size,0,none⟩) l.length c) W'/\Rd W' (some ⟨W.heap.size,0,none⟩) l.length c l/\Below W.heap.size W W':=by
 have hsz:(⟨l.toArray⟩:ByteArray).size=l.length:=by show l.toArray.size=_; simp
 have hr:=run_bytes_of_string (P:=Tryd.prog) W 9 41 5 ⟨l.toArray⟩ Tryd.underlying9 Tryd.underlying41 Tryd.underlying5
 have h1:=grownCap_ge W l.length 0 5
 have h2:=grownCap_le_maxLen W l.length 0 5 (by unfold maxLen; omega)
 rw [hsz] at hr
 generalize grownCap W l.length 0 5=c at *
 generalize hfr:((bytesRow ⟨l.toArray⟩ c).size,(bytesRow ⟨l.toArray⟩ c).size + 1)=fr at *
 refine ⟨c,_,hr,⟨rfl,h1,h2,fun h0=>⟨W.heap.size,0,rfl,?_,fun j hj=>?_⟩⟩,?_⟩
 ·show W.heap.size < (W.drew.alloc _).heap.size
  have:W.drew.heap.size=W.heap.size:=rfl
  simp
 ·have hb:(W.drew.alloc (.cells (bytesRow ⟨l.toArray⟩ c) 5 fr)).heap[W.heap.size]?=some (.cells (bytesRow ⟨l.toArray⟩ c) 5 fr):=heap_alloc_new W.drew _
  rw [Nat.zero_add,cell_of_row _ _ j _ 5 fr hb]
  unfold bytesRow
  have hj2:j < (l.toArray.map (fun b=>Value.int .u8 b.toNat)).size:=by simpa using hj
  rw [Array.getElem?_append_left hj2]
  simp [cellOf,List.getD_eq_getElem?_getD,hj]
 ·exact ((Below.refl _ _).drew).alloc (Nat.le_refl _) _
set_option maxRecDepth 100000 in
set_option maxHeartbeats 2000000 in
theorem bmkR {w:World} {g:Nat} {A:Option Addr} {n c:Nat} {b:List UInt8} (key:List UInt8) (hG:Gl w) (hg:Blk w g 66 [.pointer none]) (h32:key.length=32) (hrb:Rd w A n c b) (hnb:n<=100000) :
  Calls Tryd.prog 25 #[.pointer (some ⟨g,0,none⟩),.agg (key.map cellOf).toArray,.slice A n c] w (RetH w (Sha.hmac key b)):=by
 obtain ⟨kc,hkc⟩:∃ kc,kc=key.map cellOf:=⟨_,rfl⟩
 obtain ⟨D,hD⟩:∃ D,D=(Sha.hmac key b).map cellOf:=⟨_,rfl⟩
 have hDl:D.length=32:=by rw [hD,List.length_map,Sha.hmac_length]
 have ID:Hid ((Tryd.prog.info? 27).map (·.size)=some D.length):=by unfold Hid; rw [hDl]; kernel_rfl
 have LD:Hid ((List.replicate 32 (Value.int .u8 0)).length=D.length):=by unfold Hid; rw [hDl]; rfl
 have OD:Hid (∀ v ∈ D,v.oneCell'=true):=by unfold Hid; rw [hD]; exact cells_u8 _
 have CH:Hid (∀ (W:World) (A1:Option Addr) (q c1:Nat),Gl W->Blk W q 27 kc->RdP W A1 1 [b]->Calls Tryd.prog 35 #[.slice (some ⟨q,0,none⟩) 32 32,.slice A1 1 c1] W fun e w'=>e = .returned (.agg D.toArray)/\Below W.heap.size W w'):=fun W A1 q c1 h1 h2 h3=>by
  rw [hkc] at h2
  refine (hmac_any (c':=c1) h1 (blk_rd32 h2 h32) (by omega) h3 (by omega) (by simp; have:=hrb.len; omega)).mono ?_
  rintro e w' ⟨D',rfl,hS,hX⟩
  have e1:D'=D:=by
   rw [hS,hD]
   simp
  rw [e1]
  exact ⟨rfl,hX⟩
 have HG:=Lib.hid hG
 have HBG:=Lib.hid hg
 have hgl:=hg.lt
 have HRB:=Lib.hid hrb
 unfold RetH
 rw [<- hkc,<- hD]
 clear hG hg hrb hkc hD hDl h32
 go_enter Tryd.func25,Tryd.ntmps25
 go_upto_region 1 with (fail)
 obtain ⟨w0,hw0⟩:∃ w0,w0=(w.alloc (Obj.cells kc.toArray 27)).alloc (Obj.cells (List.replicate 32 (Value.int .u8 0)).toArray 27):=⟨_,rfl⟩
 have B4:Hid (Blk w0 w.heap.size 27 kc):=by unfold Hid; rw [hw0]; exact (Blk.new w _ _).alloc _
 have B6:Hid (Blk w0 (w.heap.size + 1) 27 (List.replicate 32 (Value.int .u8 0))):=by unfold Hid; rw [hw0]; exact Blk.at_new _ _ _ _ _ rfl (by simp)
 have W0:Hid (Below w.heap.size w w0):=by unfold Hid; rw [hw0]; exact ((Below.refl _ _).alloc (Nat.le_refl _) _).alloc (by simp) _
 have hs0:w.heap.size + 2<=w0.heap.size:=by rw [hw0]; simp
 change Code.wp _ _ _ _ ((w.alloc (Obj.cells kc.toArray 27)).alloc (Obj.cells (List.replicate 32 (Value.int .u8 0)).toArray 27))
 rw [<- hw0]
 clear hw0
 have c0:w0.cell? ⟨g,0,none⟩=some (.pointer none):=(HBG.out.below W0.out hgl).cell 0
 go_upto_region 5 with (fail)
 clear c0
 obtain ⟨q,hq⟩:∃ q,q=w.heap.size:=⟨_,rfl⟩
 obtain ⟨q1,hq1⟩:∃ q,q=w.heap.size + 1:=⟨_,rfl⟩
 rw [<- hq] at B4
 rw [<- hq1] at B6
 rw [<- hq1,<- hq]
 have hqa:w.heap.size<=q:=by omega
 have hqb:w.heap.size<=q1:=by omega
 have hqc:q1 < w0.heap.size:=B6.out.lt
 clear hq hq1
 have hsl:=fun W=>sliceAt_all 27 32 Tryd.underlying27 q 0 W
 go_wp2_with fail
 have X1:=alloc_below w0 (.cells #[.slice A n c] 41)
 refine (CH.out _ _ _ _ (HG.out.below (W0.out.trans (X1.mono (by omega))) HG.out.size) (B4.out.below X1 B4.out.lt) (lit_parts1 w0 (HRB.out.below W0.out))).mono ?_
 rintro e w3 ⟨rfl,hX⟩
 have X3:=X1.trans (hX.mono X1.size)
 clear X1 hX
 have B8:=Lib.hid (B6.out.below X3 B6.out.lt)
 have W3:=Lib.hid (W0.out.trans (X3.mono (by omega)))
 clear X3 hsl B4 B6 W0
 go_wp2_with (first
  | (with_reducible refine storeGen_law rfl 27 (.tmp 6) (.tmp 36) rfl q1 rfl D rfl 27 (List.replicate 32 (Value.int .u8 0)) ID.out LD.out OD.out w.heap.size w B8.out W3.out hqb ?_; intro w4 B9 X4))
 exact bodyPost_ret (results_cell_row rfl _ _ q1 27 D.toArray (0,0) _ rfl B9.out Tryd.underlying27 rfl (by rw [ID.out]; simp)) rfl ⟨rfl,X4.out⟩
set_option maxRecDepth 100000 in
set_option maxHeartbeats 2000000 in
theorem blbR {w:World} {g:Nat} {b:List UInt8} (key:List UInt8) (hG:Gl w) (hg:Blk w g 66 [.pointer none]) (h32:key.length=32) (hnb:b.length<=100000) :
  Calls Tryd.prog 45 #[.pointer (some ⟨g,0,none⟩),.agg (key.map cellOf).toArray,.string ⟨b.toArray⟩] w (RetH w (Sha.hmac key (1 :: b))):=by
 obtain ⟨kc,hkc⟩:∃ kc,kc=key.map cellOf:=⟨_,rfl⟩
 obtain ⟨D,hD⟩:∃ D,D=(Sha.hmac key (1 :: b)).map cellOf:=⟨_,rfl⟩
 have hDl:D.length=32:=by rw [hD,List.length_map,Sha.hmac_length]
 have ID:Hid ((Tryd.prog.info? 27).map (·.size)=some D.length):=by unfold Hid; rw [hDl]; kernel_rfl
 have LD:Hid ((List.replicate 32 (Value.int .u8 0)).length=D.length):=by unfold Hid; rw [hDl]; rfl
 have OD:Hid (∀ v ∈ D,v.oneCell'=true):=by unfold Hid; rw [hD]; exact cells_u8 _
 have CH:Hid (∀ (W:World) (A1:Option Addr) (q c1:Nat),Gl W->Blk W q 27 kc->RdP W A1 2 [[1],b]->Calls Tryd.prog 35 #[.slice (some ⟨q,0,none⟩) 32 32,.slice A1 2 c1] W fun e w'=>e = .returned (.agg D.toArray)/\Below W.heap.size W w'):=fun W A1 q c1 h1 h2 h3=>by
  rw [hkc] at h2
  refine (hmac_any (c':=c1) h1 (blk_rd32 h2 h32) (by omega) h3 (by omega) (by simp; omega)).mono ?_
  rintro e w' ⟨D',rfl,hS,hX⟩
  have e1:D'=D:=by
   rw [hS,hD]
   simp
  rw [e1]
  exact ⟨rfl,hX⟩
 have HG:=Lib.hid hG
 have HBG:=Lib.hid hg
 have hgl:=hg.lt
 unfold RetH
 rw [<- hkc,<- hD]
 clear hG hg hkc hD hDl h32
 go_enter Tryd.func45,Tryd.ntmps45
 go_upto_region 1 with (fail)
 obtain ⟨w0,hw0⟩:∃ w0,w0=(w.alloc (Obj.cells kc.toArray 27)).alloc (Obj.cells (List.replicate 32 (Value.int .u8 0)).toArray 27):=⟨_,rfl⟩
 have B4:Hid (Blk w0 w.heap.size 27 kc):=by unfold Hid; rw [hw0]; exact (Blk.new w _ _).alloc _
 have B6:Hid (Blk w0 (w.heap.size + 1) 27 (List.replicate 32 (Value.int .u8 0))):=by unfold Hid; rw [hw0]; exact Blk.at_new _ _ _ _ _ rfl (by simp)
 have W0:Hid (Below w.heap.size w w0):=by unfold Hid; rw [hw0]; exact ((Below.refl _ _).alloc (Nat.le_refl _) _).alloc (by simp) _
 have hs0:w.heap.size + 2<=w0.heap.size:=by rw [hw0]; simp
 change Code.wp _ _ _ _ ((w.alloc (Obj.cells kc.toArray 27)).alloc (Obj.cells (List.replicate 32 (Value.int .u8 0)).toArray 27))
 rw [<- hw0]
 clear hw0
 have c0:w0.cell? ⟨g,0,none⟩=some (.pointer none):=(HBG.out.below W0.out hgl).cell 0
 go_upto_region 5 with (fail)
 clear c0
 obtain ⟨q,hq⟩:∃ q,q=w.heap.size:=⟨_,rfl⟩
 obtain ⟨q1,hq1⟩:∃ q,q=w.heap.size + 1:=⟨_,rfl⟩
 rw [<- hq] at B4
 rw [<- hq1] at B6
 rw [<- hq1,<- hq]
 have hqa:w.heap.size<=q:=by omega
 have hqb:w.heap.size<=q1:=by omega
 have hqc:q1 < w0.heap.size:=B6.out.lt
 clear hq hq1
 have hsl:=fun W=>sliceAt_all 27 32 Tryd.underlying27 q 0 W
 obtain ⟨cb,w1,hcv,hRb,hXb⟩:=conv_str b (by omega) (w0.alloc (.cells #[.int .u8 1] 5))
 have X1:=alloc_below w0 (.cells #[.int .u8 1] 5)
 have R1:Rd w1 (some ⟨w0.heap.size,0,none⟩) 1 1 [1]:=(Rd.of_block (off:=0) (n:=1) (c:=1) (l:=[1]) (Blk.at_new w0 _ 5 [.int .u8 1] _ rfl rfl) rfl (Nat.le_refl _) (by unfold maxLen; omega) (fun j hj=>by obtain rfl:j=0:=(by omega); rfl)).below hXb
 have X2:=X1.trans (hXb.mono X1.size)
 have RL:=Lib.hid (lit_parts2 w1 R1 hRb rfl)
 have X4:=Lib.hid (X2.trans ((alloc_below w1 (.cells #[.slice (some ⟨w0.heap.size,0,none⟩) 1 1,.slice (some ⟨(w0.alloc (.cells #[.int .u8 1] 5)).heap.size,0,none⟩) b.length cb] 41)).mono X2.size))
 clear hRb hXb X1 R1 X2
 have hsz1:(w0.alloc (.cells #[.int .u8 1] 5)).heap.size=w0.heap.size + 1:=by simp
 rw [hsz1] at hcv RL X4
 go_wp2_with fail
 refine (CH.out _ _ _ _ (HG.out.below (W0.out.trans (X4.out.mono (by omega))) HG.out.size) (B4.out.below X4.out B4.out.lt) RL.out).mono ?_
 rintro e w3 ⟨rfl,hX⟩
 have X3:=X4.out.trans (hX.mono X4.out.size)
 clear X4 hX hcv RL
 have B8:=Lib.hid (B6.out.below X3 B6.out.lt)
 have W3:=Lib.hid (W0.out.trans (X3.mono (by omega)))
 clear X3 hsl B4 B6 W0
 go_wp2_with (first
  | (with_reducible refine storeGen_law rfl 27 (.tmp 6) (.tmp 38) rfl q1 rfl D rfl 27 (List.replicate 32 (Value.int .u8 0)) ID.out LD.out OD.out w.heap.size w B8.out W3.out hqb ?_; intro w4 B9 X4))
 exact bodyPost_ret (results_cell_row rfl _ _ q1 27 D.toArray (0,0) _ rfl B9.out Tryd.underlying27 rfl (by rw [ID.out]; simp)) rfl ⟨rfl,X4.out⟩
set_option maxRecDepth 100000 in
theorem bisZ (w:World) (key h:List UInt8) (A:Option Addr) (n c:Nat):Calls Tryd.prog 30 #[.pointer none,.agg (key.map cellOf).toArray,.slice A n c,.agg (h.map cellOf).toArray] w fun e w'=>e = .returned (.bool false)/\Below w.heap.size w w':=by
 generalize key.map cellOf=kc
 generalize h.map cellOf=hc
 go_enter Tryd.func30,Tryd.ntmps30
 go_wp2_with fail
 go_ret
 exact ⟨rfl,((Below.refl _ _).alloc (Nat.le_refl _) _).alloc (by simp) _⟩
set_option maxRecDepth 100000 in
set_option maxHeartbeats 4000000 in
theorem bisR {w:World} {g:Nat} {A:Option Addr} {n c:Nat} {b:List UInt8} (key h:List UInt8) (hG:Gl w) (hg:Blk w g 66 [.pointer none]) (h32:key.length=32) (hh:h.length=32) (hrb:Rd w A n c b) (hnb:n<=100000) :
  Calls Tryd.prog 30 #[.pointer (some ⟨g,0,none⟩),.agg (key.map cellOf).toArray,.slice A n c,.agg (h.map cellOf).toArray] w fun e w'=>e = .returned (.bool (decide (Sha.hmac key b=h)))/\Below w.heap.size w w':=by
 obtain ⟨kc,hkc⟩:∃ kc,kc=key.map cellOf:=⟨_,rfl⟩
 obtain ⟨hc,hhc⟩:∃ kc,kc=h.map cellOf:=⟨_,rfl⟩
 obtain ⟨m,hm⟩:∃ m,m=Sha.hmac key b:=⟨_,rfl⟩
 have LM:Hid (m.length=32):=by unfold Hid; rw [hm,Sha.hmac_length]
 obtain ⟨D,hD⟩:∃ D,D=m.map cellOf:=⟨_,rfl⟩
 have hDl:D.length=32:=by rw [hD,List.length_map,LM.out]
 have ID:Hid ((Tryd.prog.info? 27).map (·.size)=some D.length):=by unfold Hid; rw [hDl]; kernel_rfl
 have LD:Hid ((List.replicate 32 (Value.int .u8 0)).length=D.length):=by unfold Hid; rw [hDl]; rfl
 have OD:Hid (∀ v ∈ D,v.oneCell'=true):=by unfold Hid; rw [hD]; exact cells_u8 _
 have CH:Hid (∀ (W:World) (A1:Option Addr) (q c1:Nat),Gl W->Blk W q 27 kc->RdP W A1 1 [b]->Calls Tryd.prog 35 #[.slice (some ⟨q,0,none⟩) 32 32,.slice A1 1 c1] W fun e w'=>e = .returned (.agg D.toArray)/\Below W.heap.size W w'):=fun W A1 q c1 h1 h2 h3=>by
  rw [hkc] at h2
  refine (hmac_any (c':=c1) h1 (blk_rd32 h2 h32) (by omega) h3 (by omega) (by simp; have:=hrb.len; omega)).mono ?_
  rintro e w' ⟨D',rfl,hS,hX⟩
  have e1:D'=D:=by
   rw [hS,hD,hm]
   simp
  rw [e1]
  exact ⟨rfl,hX⟩
 have CSM:Hid (∀ (W:World) (qa qb:Nat),Blk W qa 27 D->Blk W qb 27 hc->Calls Tryd.prog 40 #[.slice (some ⟨qa,0,none⟩) 32 32,.slice (some ⟨qb,0,none⟩) 32 32] W fun e w'=>e = .returned (.bool (decide (m=h)))/\Below W.heap.size W w'):=fun W qa qb h1 h2=>by
  rw [hD] at h1
  rw [hhc] at h2
  exact same_any (blk_rd32 h1 LM.out) (blk_rd32 h2 hh)
 have HG:=Lib.hid hG
 have HBG:=Lib.hid hg
 have hgl:=hg.lt
 have HRB:=Lib.hid hrb
 rw [<- hkc,<- hhc,<- hm]
 clear hG hg hrb hkc hhc hD hDl h32 hh hm
 go_enter Tryd.func30,Tryd.ntmps30
 go_upto_region 1 with (fail)
 obtain ⟨w0,hw0⟩:∃ w0,w0=(w.alloc (Obj.cells kc.toArray 27)).alloc (Obj.cells hc.toArray 27):=⟨_,rfl⟩
 have B4:Hid (Blk w0 w.heap.size 27 kc):=by unfold Hid; rw [hw0]; exact (Blk.new w _ _).alloc _
 have B6:Hid (Blk w0 (w.heap.size + 1) 27 hc):=by unfold Hid; rw [hw0]; exact Blk.at_new _ _ _ _ _ rfl (by simp)
 have W0:Hid (Below w.heap.size w w0):=by unfold Hid; rw [hw0]; exact ((Below.refl _ _).alloc (Nat.le_refl _) _).alloc (by simp) _
 have hs0:w.heap.size + 2<=w0.heap.size:=by rw [hw0]; simp
 change Code.wp _ _ _ _ ((w.alloc (Obj.cells kc.toArray 27)).alloc (Obj.cells hc.toArray 27))
 rw [<- hw0]
 clear hw0
 have c0:w0.cell? ⟨g,0,none⟩=some (.pointer none):=(HBG.out.below W0.out hgl).cell 0
 go_upto_region 6 with (fail)
 clear c0
 obtain ⟨q,hq⟩:∃ q,q=w.heap.size:=⟨_,rfl⟩
 obtain ⟨q1,hq1⟩:∃ q,q=w.heap.size + 1:=⟨_,rfl⟩
 rw [<- hq] at B4
 rw [<- hq1] at B6
 rw [<- hq1,<- hq]
 have hqa:w.heap.size<=q:=by omega
 have hqb:w.heap.size<=q1:=by omega
 have hqc:q1 < w0.heap.size:=B6.out.lt
 clear hq hq1
 have hsl:=fun W=>sliceAt_all 27 32 Tryd.underlying27 q 0 W
 go_wp2_with fail
 have X1:=alloc_below w0 (.cells #[.slice A n c] 41)
 refine (CH.out _ _ _ _ (HG.out.below (W0.out.trans (X1.mono (by omega))) HG.out.size) (B4.out.below X1 B4.out.lt) (lit_parts1 w0 (HRB.out.below W0.out))).mono ?_
 rintro e w3 ⟨rfl,hX⟩
 have X3:=X1.trans (hX.mono X1.size)
 have B8:=Lib.hid (B6.out.below X3 B6.out.lt)
 have W3:=Lib.hid (W0.out.trans (X3.mono (by omega)))
 clear X1 hX X3 hsl B4 B6 W0
 go_upto_region 7 with (first
  | ((with_reducible refine storeGen_law rfl 27 (.tmp 11) (.tmp 45) rfl w3.heap.size rfl D rfl 27 (List.replicate 32 (Value.int .u8 0)) ID.out LD.out OD.out w3.heap.size w3 ?_ ?_ (Nat.le_refl _) ?_)
     ·exact Blk.at_new _ _ 27 _ _ (by rfl) rfl
     ·exact (Below.refl _ _).alloc (Nat.le_refl _) _
     intro w4 B9 X4))
 obtain ⟨q2,hq2⟩:∃ q,q=w3.heap.size:=⟨_,rfl⟩
 rw [<- hq2] at B9
 rw [<- hq2]
 clear hq2
 replace B8:=Lib.hid (B8.out.below X4.out B8.out.lt).drew
 replace B9:=Lib.hid B9.out.drew
 have hs3:=W3.out.size
 have W4:=Lib.hid (W3.out.trans (X4.out.mono hs3)).drew
 clear W3 X4
 refine wp_region_any (by kernel_rfl) ?_
 change wpAny _ _ _ _ _ _ _ (World.drew _)
 generalize w4.drew=w5 at *
 have hsa:=fun W=>sliceAt_all 27 32 Tryd.underlying27 q2 0 W
 have hsb:=fun W=>sliceAt_all 27 32 Tryd.underlying27 q1 0 W
 refine wpAny_take (i:=0) (oi:=?oi1) (v:=.slice (some ⟨q2,0,none⟩) 32 32) ?hi1 (by kernel_rfl) (by kernel_rfl) (by kernel_rfl) ?hQ1 ?hy1 ?rest1
 case hi1=>simp only [zge]; rfl
 case hQ1=>exact fun _ _ _ h=>h
 case hy1=>exact Or.inl ⟨by rfl,by intro w; go_simp⟩
 try simp only [zpt]
 refine wpAny_take (i:=1) (oi:=?oi2) (v:=.slice (some ⟨q1,0,none⟩) 32 32) ?hi2 (by kernel_rfl) (by kernel_rfl) (by kernel_rfl) ?hQ2 ?hy2 ?rest2
 case hi2=>simp only [zge]; rfl
 case hQ2=>exact fun _ _ _ h=>h
 case hy2=>exact Or.inl ⟨by rfl,by intro w; go_simp⟩
 try simp only [zpt]
 refine wpAny_ready (rs:=[2]) (by kernel_rfl) (by simp) ?_
 refine AllReady.cons (o:=?p3) ?q3 (fun K hK=>?_) AllReady.nil
 case q3=>simp only [zge]; rfl
 go_simp
 refine (CSM.out w5 q2 q1 B9.out B8.out).mono ?_
 rintro e w6 ⟨rfl,hX⟩
 refine hK _ _ ?_
 clear hK K
 try simp only [zpt]
 have hs4:=W4.out.size
 have W6:=Lib.hid (W4.out.trans (hX.mono hs4))
 clear hX hsa hsb
 refine wpAny_take (i:=3) (oi:=?oi4) (v:=.bool (decide (m=h))) ?hi4 (by kernel_rfl) (by kernel_rfl) (by kernel_rfl) ?hQ4 ?hy4 ?rest4
 case hi4=>simp only [zge]; rfl
 case hQ4=>exact fun _ _ _ h=>h
 case hy4=>exact Or.inl ⟨by rfl,by intro w; go_simp⟩
 try simp only [zpt]
 refine wpAny_done (by kernel_rfl) ?_ _
 go_wp2_with fail
 go_ret
 exact ⟨rfl,W6.out⟩
theorem BxJ.marked {w:World} {g k t r1 r2 r3:Nat} {s:Int} {a:Nat} {S:List Bx.SNote} {B L:List Bx.BNote} {ES EB EL:List (Value × Value)} {M:Nat->Prop} (J:BxJ w g k t r1 r2 r3 s a S B L ES EB EL M) {key b:List UInt8} (h32:key.length=32) (hb:b.length<=100000):∃ vc ok,(∀ W:World,W.heap[r2]?=w.heap[r2]?->(Instr.lookup 73 (.map (some r2)) (mkKey key b) true).run Tryd.prog W = .ok (.tuple #[.agg (List.map cellOf vc).toArray,.bool ok]) W)/\List.length vc=32/\∀ h,(ok && sameB vc h)=decide (Bx.lookB key b B=some h):=by
 have HK:=keyM (b:=b) h32 (by unfold maxLen; omega)
 cases hl:Bx.lookB key b B with
 | some hh =>
  obtain ⟨h1,h2⟩:=J.sB.found h32 hl
  refine ⟨hh,true,fun W hW=>?_,Bx.lookB_length J.gB hl,fun h=>?_⟩
  ·rcases (J.mB.keep hW).look lawM Tryd.underlying73 (zero34 W) HK with ⟨_,hn⟩ | ⟨v,hr,hi⟩
   ·obtain ⟨v,hv⟩:=h2
    exact absurd hv (hn v)
   ·rw [hr,h1 v hi]
  ·simp [sameB]
 | none =>
  refine ⟨zero32,false,fun W hW=>?_,by simp [zero32],fun h=>by simp⟩
  rcases (J.mB.keep hW).look lawM Tryd.underlying73 (zero34 W) HK with ⟨hr,_⟩ | ⟨v,hr,hi⟩
  ·rw [hr,show zero32.map cellOf=(List.replicate 32 (Value.int .u8 0)) by unfold zero32; rw [List.map_replicate]; rfl]
  ·exact absurd hi (J.sB.lost h32 hl v)
theorem load_when {P:Program} {ops:Array Oper} {rest:List Oper} {o:Oper} {a:Act} {w:World} {Q:Exit->Act->World->Prop} (hgd:Region.wanted o (yielded ops a.tmps)=true) (ty:TypeId) (x:Operand) (ho:o.op = .load ty x)
  (b off:Nat) (hx:a.eval x = .pointer (some ⟨b,off,none⟩)) (l:List Value) (d:TypeDesc) (hu:P.underlying ty=some d) (hd:(match d with | .struct _ | .array _ _=>true | _=>false)=true)
  (hi:(P.info? ty).map (·.size)=some l.length) (h:∀ j v,l[j]?=some v->w.cell? ⟨b,off + j,none⟩=some v)
  (hk:wpList P ops Q rest (a.put o.dst (.agg l.toArray)) w):wpList P ops Q (o :: rest) a w:=by
 refine wpList_step fun K hK=>?_
 rw [if_pos hgd]
 unfold Oper.wp execOp
 simp only [ho,hx,Instr.loadAt,Instr.sureAddr,Sem.run_bind,Sem.run_pure,Result.andThen_ok,run_loadVar_list w ty b off l d hu hd hi h]
 exact hK _ _ hk
set_option maxRecDepth 100000 in
set_option maxHeartbeats 4000000 in
theorem bisI {w:World} {g k t r1 r2 r3:Nat} {s:Int} {a:Nat} {S:List Bx.SNote} {B L:List Bx.BNote} {ES EB EL:List (Value × Value)} {M:Nat->Prop} {A:Option Addr} {n c:Nat} {b:List UInt8} (key h:List UInt8) (J:BxJ w g k t r1 r2 r3 s a S B L ES EB EL M) (h32:key.length=32) (hh:h.length=32) (hrb:Rd w A n c b) (hnb:n<=100000) :
  Calls Tryd.prog 30 #[.pointer (some ⟨g,0,none⟩),.agg (key.map cellOf).toArray,.slice A n c,.agg (h.map cellOf).toArray] w fun e w'=>e = .returned (.bool (decide (Bx.lookB key b B=some h)))/\Below w.heap.size w w':=by
 obtain ⟨vl,ok,hlk,hvl,hres⟩:=J.marked (key:=key) (b:=b) h32 (by have:=hrb.len; omega)
 rw [<- hres h]
 obtain ⟨kc,hkc⟩:∃ kc,kc=key.map cellOf:=⟨_,rfl⟩
 obtain ⟨hc,hhc⟩:∃ kc,kc=h.map cellOf:=⟨_,rfl⟩
 obtain ⟨D,hD⟩:∃ D,D=vl.map cellOf:=⟨_,rfl⟩
 obtain ⟨cs,hcs⟩:∃ cs,cs=kc ++ [Value.string ⟨b.toArray⟩]:=⟨_,rfl⟩
 rw [show mkKey key b = .agg cs.toArray by rw [hcs,hkc]; rfl,<- hD] at hlk
 have HLK:=Lib.hid hlk
 have K32:kc.length=32:=by rw [hkc,List.length_map,h32]
 have H32:hc.length=32:=by rw [hhc,List.length_map,hh]
 have HBL:Hid (Tryd.prog.built 77 [(0,.agg kc.toArray),(1,.string ⟨b.toArray⟩)]=some cs.toArray):=by unfold Hid; rw [hcs]; exact builtM K32 _
 have IK:Hid ((Tryd.prog.info? 27).map (·.size)=some kc.length):=by unfold Hid; rw [K32]; kernel_rfl
 have IH:Hid ((Tryd.prog.info? 27).map (·.size)=some hc.length):=by unfold Hid; rw [H32]; kernel_rfl
 have hDl:D.length=32:=by rw [hD,List.length_map,hvl]
 have ID:Hid ((Tryd.prog.info? 27).map (·.size)=some D.length):=by unfold Hid; rw [hDl]; kernel_rfl
 have LD:Hid ((List.replicate 32 (Value.int .u8 0)).length=D.length):=by unfold Hid; rw [hDl]; rfl
 have OD:Hid (∀ v ∈ D,v.oneCell'=true):=by unfold Hid; rw [hD]; exact cells_u8 _
 have EQ:Hid (∀ W,(Op.equalIn 10000 27 (.agg D.toArray) (.agg hc.toArray)).run Tryd.prog W = .ok (sameB vl h) W):=fun W=>by rw [hD,hhc]; exact equal30 vl h hvl hh W
 have DL:=Lib.hid hDl
 have HBG:=Lib.hid J.bg
 have HBK:=Lib.hid J.bk
 have hgl:=J.bg.lt
 have hkl:=J.bk.lt
 have hrl:=J.mB.lt
 have HRB:=Lib.hid hrb
 rw [<- hkc,<- hhc]
 obtain ⟨sb,hsb⟩:∃ sb,sb=sameB vl h:=⟨_,rfl⟩
 rw [<- hsb] at EQ
 rw [<- hsb]
 clear J hrb hkc hhc hcs hD hDl h32 hh K32 H32 hlk hres hvl hsb
 go_enter Tryd.func30,Tryd.ntmps30
 go_upto_region 1 with (fail)
 obtain ⟨w0,hw0⟩:∃ w0,w0=(w.alloc (Obj.cells kc.toArray 27)).alloc (Obj.cells hc.toArray 27):=⟨_,rfl⟩
 have B4:Hid (Blk w0 w.heap.size 27 kc):=by unfold Hid; rw [hw0]; exact (Blk.new w _ _).alloc _
 have B6:Hid (Blk w0 (w.heap.size + 1) 27 hc):=by unfold Hid; rw [hw0]; exact Blk.at_new _ _ _ _ _ rfl (by simp)
 have W0:Hid (Below w.heap.size w w0):=by unfold Hid; rw [hw0]; exact ((Below.refl _ _).alloc (Nat.le_refl _) _).alloc (by simp) _
 have hs0:w.heap.size + 2<=w0.heap.size:=by rw [hw0]; simp
 change Code.wp _ _ _ _ ((w.alloc (Obj.cells kc.toArray 27)).alloc (Obj.cells hc.toArray 27))
 rw [<- hw0]
 clear hw0
 have c0:w0.cell? ⟨g,0,none⟩=some (.pointer (some ⟨k,0,none⟩)):=(HBG.out.below W0.out hgl).cell 0
 go_upto_region 4 with (fail)
 clear c0
 obtain ⟨q,hq⟩:∃ q,q=w.heap.size:=⟨_,rfl⟩
 obtain ⟨q1,hq1⟩:∃ q,q=w.heap.size + 1:=⟨_,rfl⟩
 rw [<- hq] at B4
 rw [<- hq1] at B6
 rw [<- hq1,<- hq]
 have hqa:w.heap.size<=q:=by omega
 have hqb:w.heap.size<=q1:=by omega
 have hqc:q1 < w0.heap.size:=B6.out.lt
 clear hq hq1
 refine wp_region_any (by kernel_rfl) ?_
 change wpAny _ _ _ _ _ _ _ (World.drew _)
 replace B4:=Lib.hid B4.out.drew
 replace B6:=Lib.hid B6.out.drew
 replace W0:Hid (Below w.heap.size w w0.drew):=W0.out.drew
 replace hqc:q1 < w0.drew.heap.size:=hqc
 replace hs0:w.heap.size + 2<=w0.drew.heap.size:=hs0
 generalize w0.drew=w2 at *
 have BG:=Lib.hid (HBG.out.below W0.out hgl)
 have BK:=Lib.hid (HBK.out.below W0.out hkl)
 have RB:=Lib.hid (HRB.out.below W0.out)
 refine wpAny_take (i:=0) (oi:=?oi5) (v:=.pointer (some ⟨g,0,none⟩)) ?hi5 (by kernel_rfl) (by kernel_rfl) (by kernel_rfl) ?hQ5 ?hy5 ?rest5
 case hi5=>simp only [zge]; rfl
 case hQ5=>exact fun _ _ _ h=>h
 case hy5=>exact Or.inl ⟨by rfl,by intro w; go_simp⟩
 try simp only [zpt]
 refine wpAny_take (i:=1) (oi:=?oi6) (v:=.pointer (some ⟨g,0,none⟩)) ?hi6 (by kernel_rfl) (by kernel_rfl) (by kernel_rfl) ?hQ6 ?hy6 ?rest6
 case hi6=>simp only [zge]; rfl
 case hQ6=>exact fun _ _ _ h=>h
 case hy6=>exact Or.inl ⟨by rfl,by intro w; go_simp⟩
 try simp only [zpt]
 refine wpAny_take (i:=2) (oi:=?oi7) (v:=.pointer (some ⟨g,0,none⟩)) ?hi7 (by kernel_rfl) (by kernel_rfl) (by kernel_rfl) ?hQ7 ?hy7 ?rest7
 case hi7=>simp only [zge]; rfl
 case hQ7=>exact fun _ _ _ h=>h
 case hy7=>exact Or.inl ⟨by rfl,by intro w; go_simp⟩
 try simp only [zpt]
 refine wpAny_take (i:=8) (oi:=?oi8) (v:=.slice A n c) ?hi8 (by kernel_rfl) (by kernel_rfl) (by kernel_rfl) ?hQ8 ?hy8 ?rest8
 case hi8=>simp only [zge]; rfl
 case hQ8=>exact fun _ _ _ h=>h
 case hy8=>exact Or.inl ⟨by rfl,by intro w; go_simp⟩
 try simp only [zpt]
 refine phaseL (fun i=>if i=4 then [3] else if i=5 then [4] else if i=6 then [5] else if i=10 then [7,9] else if i=11 then [6,10] else if i=12 then [11] else if i=13 then [12] else if i=14 then [12] else if i=16 then [15,13,3,4,5,6,7,9,10,11,12] else []) (fun d a w'=>∃ x25 x26 x27 x28 x29 x31 x32 x33 x21 x34 x35 x9:Value,a={ tmps:=#[.pointer (some ⟨g,0,none⟩),.agg kc.toArray,.slice A n c,.agg hc.toArray,undef,.pointer (some ⟨q,0,none⟩),undef,.pointer (some ⟨q1,0,none⟩),.bool false,x9,undef,undef,.bool false,.pointer (some ⟨g,0,none⟩),.bool false,.bool true,.pointer (some ⟨g,0,none⟩),.pointer (some ⟨g,0,none⟩),.pointer (some ⟨g,0,none⟩),.pointer (some ⟨k,0,none⟩),.bool true,x21,.pointer (some ⟨g,0,none⟩),.pointer (some ⟨g,0,none⟩),.pointer (some ⟨g,0,none⟩),x25,x26,x27,x28,x29,.slice A n c,x31,x32,x33,x34,x35,undef,undef,undef,undef,undef,undef,undef,undef,undef,undef,undef,undef,undef],defers:=[] }/\Hid (Below w2.heap.size w2 w')/\(d 3=true->x25 = .pointer (some ⟨k,0,none⟩))/\(d 4=true->x26 = .pointer (some ⟨k,0,none⟩))/\(d 5=true->x27 = .pointer (some ⟨k,2,none⟩))/\(d 6=true->x28 = .map (some r2))/\(d 7=true->x29 = .agg kc.toArray)/\(d 9=true->x31 = .string ⟨b.toArray⟩)/\(d 10=true->x32 = .agg cs.toArray)/\(d 11=true->x33 = .tuple #[.agg D.toArray,.bool ok])/\(d 12=true->x21 = .tuple #[.agg D.toArray,.bool ok])/\(d 13=true->x34 = .agg D.toArray)/\(d 14=true->x35 = .bool ok)/\(d 15=true->Hid (∃ g2,x9 = .pointer (some ⟨g2,0,none⟩)/\w2.heap.size<=g2/\∃ cs2:List Value,cs2.length=32/\Blk w' g2 27 cs2/\(d 16=true->cs2=D)))/\(d 16=true->d 15=true)) [3,4,5,6,7,9,10,11,12,13,14,15,16] ?step9 1 13 [3,4,5,6,7,9,10,11,12,13,14,15,16] _ _ _ rfl (by decide) (fun _ h=>h) (Fits.of (by kernel_rfl)) ?init9 ?fin9
 case init9=>refine ⟨_,_,_,_,_,_,_,_,_,_,_,_,rfl,Below.refl _ _,?_,?_,?_,?_,?_,?_,?_,?_,?_,?_,?_,?_,?_⟩ <;> (intro h; exact absurd h (by decide))
 case step9 =>
  intro i hi d a v9 hI hdi hdeps
  obtain ⟨x25,x26,x27,x28,x29,x31,x32,x33,x21,x34,x35,x9,rfl,BW,h3,h4,h5,h6,h7,h9,h10,h11,h12,h13,h14,h15,h16⟩:=hI
  have hsw:=BW.out.size
  simp only [List.mem_cons,List.not_mem_nil,or_false] at hi
  rcases hi with rfl | rfl | rfl | rfl | rfl | rfl | rfl | rfl | rfl | rfl | rfl | rfl | rfl
  ·have c0:v9.cell? ⟨g,0,none⟩=some (.pointer (some ⟨k,0,none⟩)):=(BG.out.below BW.out BG.out.lt).cell 0
   refine wpOp_step (o:=?os10) ?hos10 (fun K hK=>?_)
   case hos10=>simp only [zge]; rfl
   go_simp
   refine hK _ _ ?_
   clear hK K
   try simp only [zpt]
   exact ⟨_,_,_,_,_,_,_,_,_,_,_,_,rfl,BW,fun _=>rfl,fun a=>by first | exact h4 (by simpa using a) | rfl,fun a=>by first | exact h5 (by simpa using a) | rfl,fun a=>by first | exact h6 (by simpa using a) | rfl,fun a=>by first | exact h7 (by simpa using a) | rfl,fun a=>by first | exact h9 (by simpa using a) | rfl,fun a=>by first | exact h10 (by simpa using a) | rfl,fun a=>by first | exact h11 (by simpa using a) | rfl,fun a=>by first | exact h12 (by simpa using a) | rfl,fun a=>by first | exact h13 (by simpa using a) | rfl,fun a=>by first | exact h14 (by simpa using a) | rfl,fun a=>by obtain ⟨g2,e,hge,cs2,hl2,hb2,hd2⟩:=(h15 (by simpa using a)).out; exact ⟨g2,e,hge,cs2,hl2,hb2,fun b=>hd2 (by simpa using b)⟩,fun a=>by have:=h16 (by simpa using a); simp [this]⟩
  ·obtain rfl:=h3 (hdeps 3 (by simp))
   refine wpOp_step (o:=?os11) ?hos11 (fun K hK=>?_)
   case hos11=>simp only [zge]; rfl
   go_simp
   refine hK _ _ ?_
   clear hK K
   try simp only [zpt]
   exact ⟨_,_,_,_,_,_,_,_,_,_,_,_,rfl,BW,fun a=>by first | exact h3 (by simpa using a) | rfl,fun _=>rfl,fun a=>by first | exact h5 (by simpa using a) | rfl,fun a=>by first | exact h6 (by simpa using a) | rfl,fun a=>by first | exact h7 (by simpa using a) | rfl,fun a=>by first | exact h9 (by simpa using a) | rfl,fun a=>by first | exact h10 (by simpa using a) | rfl,fun a=>by first | exact h11 (by simpa using a) | rfl,fun a=>by first | exact h12 (by simpa using a) | rfl,fun a=>by first | exact h13 (by simpa using a) | rfl,fun a=>by first | exact h14 (by simpa using a) | rfl,fun a=>by obtain ⟨g2,e,hge,cs2,hl2,hb2,hd2⟩:=(h15 (by simpa using a)).out; exact ⟨g2,e,hge,cs2,hl2,hb2,fun b=>hd2 (by simpa using b)⟩,fun a=>by have:=h16 (by simpa using a); simp [this]⟩
  ·obtain rfl:=h4 (hdeps 4 (by simp))
   refine wpOp_step (o:=?os12) ?hos12 (fun K hK=>?_)
   case hos12=>simp only [zge]; rfl
   go_simp
   refine hK _ _ ?_
   clear hK K
   try simp only [zpt]
   exact ⟨_,_,_,_,_,_,_,_,_,_,_,_,rfl,BW,fun a=>by first | exact h3 (by simpa using a) | rfl,fun a=>by first | exact h4 (by simpa using a) | rfl,fun _=>rfl,fun a=>by first | exact h6 (by simpa using a) | rfl,fun a=>by first | exact h7 (by simpa using a) | rfl,fun a=>by first | exact h9 (by simpa using a) | rfl,fun a=>by first | exact h10 (by simpa using a) | rfl,fun a=>by first | exact h11 (by simpa using a) | rfl,fun a=>by first | exact h12 (by simpa using a) | rfl,fun a=>by first | exact h13 (by simpa using a) | rfl,fun a=>by first | exact h14 (by simpa using a) | rfl,fun a=>by obtain ⟨g2,e,hge,cs2,hl2,hb2,hd2⟩:=(h15 (by simpa using a)).out; exact ⟨g2,e,hge,cs2,hl2,hb2,fun b=>hd2 (by simpa using b)⟩,fun a=>by have:=h16 (by simpa using a); simp [this]⟩
  ·obtain rfl:=h5 (hdeps 5 (by simp))
   have c0:v9.cell? ⟨k,2,none⟩=some (.map (some r2)):=(BK.out.below BW.out BK.out.lt).cell 2
   refine wpOp_step (o:=?os13) ?hos13 (fun K hK=>?_)
   case hos13=>simp only [zge]; rfl
   go_simp
   refine hK _ _ ?_
   clear hK K
   try simp only [zpt]
   exact ⟨_,_,_,_,_,_,_,_,_,_,_,_,rfl,BW,fun a=>by first | exact h3 (by simpa using a) | rfl,fun a=>by first | exact h4 (by simpa using a) | rfl,fun a=>by first | exact h5 (by simpa using a) | rfl,fun _=>rfl,fun a=>by first | exact h7 (by simpa using a) | rfl,fun a=>by first | exact h9 (by simpa using a) | rfl,fun a=>by first | exact h10 (by simpa using a) | rfl,fun a=>by first | exact h11 (by simpa using a) | rfl,fun a=>by first | exact h12 (by simpa using a) | rfl,fun a=>by first | exact h13 (by simpa using a) | rfl,fun a=>by first | exact h14 (by simpa using a) | rfl,fun a=>by obtain ⟨g2,e,hge,cs2,hl2,hb2,hd2⟩:=(h15 (by simpa using a)).out; exact ⟨g2,e,hge,cs2,hl2,hb2,fun b=>hd2 (by simpa using b)⟩,fun a=>by have:=h16 (by simpa using a); simp [this]⟩
  ·refine wpOp_step (o:=?os14) ?hos14 (fun K hK=>?_)
   case hos14=>simp only [zge]; rfl
   refine step_loadW rfl 27 (.tmp 5) rfl q 0 rfl kc _ Tryd.underlying27 rfl IK.out (B4.out.below BW.out B4.out.lt).cells (hK _ _ ?_)
   clear hK K
   try simp only [zpt]
   exact ⟨_,_,_,_,_,_,_,_,_,_,_,_,rfl,BW,fun a=>by first | exact h3 (by simpa using a) | rfl,fun a=>by first | exact h4 (by simpa using a) | rfl,fun a=>by first | exact h5 (by simpa using a) | rfl,fun a=>by first | exact h6 (by simpa using a) | rfl,fun _=>rfl,fun a=>by first | exact h9 (by simpa using a) | rfl,fun a=>by first | exact h10 (by simpa using a) | rfl,fun a=>by first | exact h11 (by simpa using a) | rfl,fun a=>by first | exact h12 (by simpa using a) | rfl,fun a=>by first | exact h13 (by simpa using a) | rfl,fun a=>by first | exact h14 (by simpa using a) | rfl,fun a=>by obtain ⟨g2,e,hge,cs2,hl2,hb2,hd2⟩:=(h15 (by simpa using a)).out; exact ⟨g2,e,hge,cs2,hl2,hb2,fun b=>hd2 (by simpa using b)⟩,fun a=>by have:=h16 (by simpa using a); simp [this]⟩
  ·have hcv:=conv_bytes (RB.out.below BW.out)
   refine wpOp_step (o:=?os15) ?hos15 (fun K hK=>?_)
   case hos15=>simp only [zge]; rfl
   go_simp
   refine hK _ _ ?_
   clear hK K
   try simp only [zpt]
   exact ⟨_,_,_,_,_,_,_,_,_,_,_,_,rfl,BW,fun a=>by first | exact h3 (by simpa using a) | rfl,fun a=>by first | exact h4 (by simpa using a) | rfl,fun a=>by first | exact h5 (by simpa using a) | rfl,fun a=>by first | exact h6 (by simpa using a) | rfl,fun a=>by first | exact h7 (by simpa using a) | rfl,fun _=>rfl,fun a=>by first | exact h10 (by simpa using a) | rfl,fun a=>by first | exact h11 (by simpa using a) | rfl,fun a=>by first | exact h12 (by simpa using a) | rfl,fun a=>by first | exact h13 (by simpa using a) | rfl,fun a=>by first | exact h14 (by simpa using a) | rfl,fun a=>by obtain ⟨g2,e,hge,cs2,hl2,hb2,hd2⟩:=(h15 (by simpa using a)).out; exact ⟨g2,e,hge,cs2,hl2,hb2,fun b=>hd2 (by simpa using b)⟩,fun a=>by have:=h16 (by simpa using a); simp [this]⟩
  ·obtain rfl:=h7 (hdeps 7 (by simp))
   obtain rfl:=h9 (hdeps 9 (by simp))
   refine wpOp_step (o:=?os16) ?hos16 (fun K hK=>?_)
   case hos16=>simp only [zge]; rfl
   refine step_build rfl 77 #[(0,.tmp 29),(1,.tmp 31)] rfl cs (by simp only [List.map_toArray,List.map_cons,List.map_nil]; exact HBL.out) (hK _ _ ?_)
   clear hK K
   try simp only [zpt]
   exact ⟨_,_,_,_,_,_,_,_,_,_,_,_,rfl,BW,fun a=>by first | exact h3 (by simpa using a) | rfl,fun a=>by first | exact h4 (by simpa using a) | rfl,fun a=>by first | exact h5 (by simpa using a) | rfl,fun a=>by first | exact h6 (by simpa using a) | rfl,fun a=>by first | exact h7 (by simpa using a) | rfl,fun a=>by first | exact h9 (by simpa using a) | rfl,fun _=>rfl,fun a=>by first | exact h11 (by simpa using a) | rfl,fun a=>by first | exact h12 (by simpa using a) | rfl,fun a=>by first | exact h13 (by simpa using a) | rfl,fun a=>by first | exact h14 (by simpa using a) | rfl,fun a=>by obtain ⟨g2,e,hge,cs2,hl2,hb2,hd2⟩:=(h15 (by simpa using a)).out; exact ⟨g2,e,hge,cs2,hl2,hb2,fun b=>hd2 (by simpa using b)⟩,fun a=>by have:=h16 (by simpa using a); simp [this]⟩
  ·obtain rfl:=h6 (hdeps 6 (by simp))
   obtain rfl:=h10 (hdeps 10 (by simp))
   have hlk:=HLK.out v9 ((BW.out.block r2 (by omega)).trans (W0.out.block r2 hrl))
   refine wpOp_step (o:=?os17) ?hos17 (fun K hK=>?_)
   case hos17=>simp only [zge]; rfl
   go_simp
   refine hK _ _ ?_
   clear hK K
   try simp only [zpt]
   exact ⟨_,_,_,_,_,_,_,_,_,_,_,_,rfl,BW,fun a=>by first | exact h3 (by simpa using a) | rfl,fun a=>by first | exact h4 (by simpa using a) | rfl,fun a=>by first | exact h5 (by simpa using a) | rfl,fun a=>by first | exact h6 (by simpa using a) | rfl,fun a=>by first | exact h7 (by simpa using a) | rfl,fun a=>by first | exact h9 (by simpa using a) | rfl,fun a=>by first | exact h10 (by simpa using a) | rfl,fun _=>rfl,fun a=>by first | exact h12 (by simpa using a) | rfl,fun a=>by first | exact h13 (by simpa using a) | rfl,fun a=>by first | exact h14 (by simpa using a) | rfl,fun a=>by obtain ⟨g2,e,hge,cs2,hl2,hb2,hd2⟩:=(h15 (by simpa using a)).out; exact ⟨g2,e,hge,cs2,hl2,hb2,fun b=>hd2 (by simpa using b)⟩,fun a=>by have:=h16 (by simpa using a); simp [this]⟩
  ·obtain rfl:=h11 (hdeps 11 (by simp))
   refine wpOp_step (o:=?os18) ?hos18 (fun K hK=>?_)
   case hos18=>simp only [zge]; rfl
   go_simp
   refine hK _ _ ?_
   clear hK K
   try simp only [zpt]
   exact ⟨_,_,_,_,_,_,_,_,_,_,_,_,rfl,BW,fun a=>by first | exact h3 (by simpa using a) | rfl,fun a=>by first | exact h4 (by simpa using a) | rfl,fun a=>by first | exact h5 (by simpa using a) | rfl,fun a=>by first | exact h6 (by simpa using a) | rfl,fun a=>by first | exact h7 (by simpa using a) | rfl,fun a=>by first | exact h9 (by simpa using a) | rfl,fun a=>by first | exact h10 (by simpa using a) | rfl,fun a=>by first | exact h11 (by simpa using a) | rfl,fun _=>rfl,fun a=>by first | exact h13 (by simpa using a) | rfl,fun a=>by first | exact h14 (by simpa using a) | rfl,fun a=>by obtain ⟨g2,e,hge,cs2,hl2,hb2,hd2⟩:=(h15 (by simpa using a)).out; exact ⟨g2,e,hge,cs2,hl2,hb2,fun b=>hd2 (by simpa using b)⟩,fun a=>by have:=h16 (by simpa using a); simp [this]⟩
  ·obtain rfl:=h12 (hdeps 12 (by simp))
   refine wpOp_step (o:=?os19) ?hos19 (fun K hK=>?_)
   case hos19=>simp only [zge]; rfl
   go_simp
   refine hK _ _ ?_
   clear hK K
   try simp only [zpt]
   exact ⟨_,_,_,_,_,_,_,_,_,_,_,_,rfl,BW,fun a=>by first | exact h3 (by simpa using a) | rfl,fun a=>by first | exact h4 (by simpa using a) | rfl,fun a=>by first | exact h5 (by simpa using a) | rfl,fun a=>by first | exact h6 (by simpa using a) | rfl,fun a=>by first | exact h7 (by simpa using a) | rfl,fun a=>by first | exact h9 (by simpa using a) | rfl,fun a=>by first | exact h10 (by simpa using a) | rfl,fun a=>by first | exact h11 (by simpa using a) | rfl,fun a=>by first | exact h12 (by simpa using a) | rfl,fun _=>rfl,fun a=>by first | exact h14 (by simpa using a) | rfl,fun a=>by obtain ⟨g2,e,hge,cs2,hl2,hb2,hd2⟩:=(h15 (by simpa using a)).out; exact ⟨g2,e,hge,cs2,hl2,hb2,fun b=>hd2 (by simpa using b)⟩,fun a=>by have:=h16 (by simpa using a); simp [this]⟩
  ·obtain rfl:=h12 (hdeps 12 (by simp))
   refine wpOp_step (o:=?os20) ?hos20 (fun K hK=>?_)
   case hos20=>simp only [zge]; rfl
   go_simp
   refine hK _ _ ?_
   clear hK K
   try simp only [zpt]
   exact ⟨_,_,_,_,_,_,_,_,_,_,_,_,rfl,BW,fun a=>by first | exact h3 (by simpa using a) | rfl,fun a=>by first | exact h4 (by simpa using a) | rfl,fun a=>by first | exact h5 (by simpa using a) | rfl,fun a=>by first | exact h6 (by simpa using a) | rfl,fun a=>by first | exact h7 (by simpa using a) | rfl,fun a=>by first | exact h9 (by simpa using a) | rfl,fun a=>by first | exact h10 (by simpa using a) | rfl,fun a=>by first | exact h11 (by simpa using a) | rfl,fun a=>by first | exact h12 (by simpa using a) | rfl,fun a=>by first | exact h13 (by simpa using a) | rfl,fun _=>rfl,fun a=>by obtain ⟨g2,e,hge,cs2,hl2,hb2,hd2⟩:=(h15 (by simpa using a)).out; exact ⟨g2,e,hge,cs2,hl2,hb2,fun b=>hd2 (by simpa using b)⟩,fun a=>by have:=h16 (by simpa using a); simp [this]⟩
  ·have hX:=alloc_below v9 (.cells (List.replicate 32 (Value.int .u8 0)).toArray 27)
   refine wpOp_step (o:=?os21) ?hos21 (fun K hK=>?_)
   case hos21=>simp only [zge]; rfl
   go_simp
   refine hK _ _ ?_
   clear hK K
   try simp only [zpt]
   exact ⟨_,_,_,_,_,_,_,_,_,_,_,_,rfl,BW.out.trans (hX.mono hsw),fun a=>by first | exact h3 (by simpa using a) | rfl,fun a=>by first | exact h4 (by simpa using a) | rfl,fun a=>by first | exact h5 (by simpa using a) | rfl,fun a=>by first | exact h6 (by simpa using a) | rfl,fun a=>by first | exact h7 (by simpa using a) | rfl,fun a=>by first | exact h9 (by simpa using a) | rfl,fun a=>by first | exact h10 (by simpa using a) | rfl,fun a=>by first | exact h11 (by simpa using a) | rfl,fun a=>by first | exact h12 (by simpa using a) | rfl,fun a=>by first | exact h13 (by simpa using a) | rfl,fun a=>by first | exact h14 (by simpa using a) | rfl,fun _=>⟨_,rfl,hsw,(List.replicate 32 (Value.int .u8 0)),by simp,Blk.at_new _ _ _ _ _ (by rfl) rfl,fun h=>absurd (h16 (by simpa using h)) (by rw [hdi]; decide)⟩,fun a=>by have:=h16 (by simpa using a); simp [this]⟩
  ·obtain ⟨g2,rfl,hge,cs2,hl2,hb2,hd2⟩:=(h15 (hdeps 15 (by simp))).out
   obtain rfl:=h13 (hdeps 13 (by simp))
   refine wpOp_step (o:=?os22) ?hos22 (fun K hK=>?_)
   case hos22=>simp only [zge]; rfl
   refine step_storeAll rfl 27 (.tmp 9) (.tmp 34) rfl g2 rfl D rfl 27 cs2 hb2 ID.out (by rw [hl2,DL.out]) OD.out (hK _ _ ?_)
   clear hK K
   try simp only [zpt]
   exact ⟨_,_,_,_,_,_,_,_,_,_,_,_,rfl,below_setRow BW.out hge _,fun a=>by first | exact h3 (by simpa using a) | rfl,fun a=>by first | exact h4 (by simpa using a) | rfl,fun a=>by first | exact h5 (by simpa using a) | rfl,fun a=>by first | exact h6 (by simpa using a) | rfl,fun a=>by first | exact h7 (by simpa using a) | rfl,fun a=>by first | exact h9 (by simpa using a) | rfl,fun a=>by first | exact h10 (by simpa using a) | rfl,fun a=>by first | exact h11 (by simpa using a) | rfl,fun a=>by first | exact h12 (by simpa using a) | rfl,fun a=>by first | exact h13 (by simpa using a) | rfl,fun a=>by first | exact h14 (by simpa using a) | rfl,fun _=>⟨g2,rfl,hge,D,DL.out,hb2.row,fun _=>rfl⟩,fun _=>by simp [hdeps 15 (by simp)]⟩
 case fin9 =>
  intro a v9 hI
  obtain ⟨x25,x26,x27,x28,x29,x31,x32,x33,x21,x34,x35,x9,rfl,BW,h3,h4,h5,h6,h7,h9,h10,h11,h12,h13,h14,h15,h16⟩:=hI
  obtain rfl:=h3 (by decide)
  obtain rfl:=h4 (by decide)
  obtain rfl:=h5 (by decide)
  obtain rfl:=h6 (by decide)
  obtain rfl:=h7 (by decide)
  obtain rfl:=h9 (by decide)
  obtain rfl:=h10 (by decide)
  obtain rfl:=h11 (by decide)
  obtain rfl:=h12 (by decide)
  obtain rfl:=h13 (by decide)
  obtain rfl:=h14 (by decide)
  obtain ⟨g2,rfl,hge,cs2,hl2,hb2,hd2⟩:=(h15 (by decide)).out
  obtain rfl:=hd2 (by decide)
  have W3:=Lib.hid (W0.out.trans (BW.out.mono W0.out.size))
  have C9:=Lib.hid hb2
  have C7:=Lib.hid (B6.out.below BW.out B6.out.lt)
  clear h3 h4 h5 h6 h7 h9 h10 h11 h12 h13 h14 h15 h16 hd2 hb2 hl2 BW W0 B4 B6 BG BK RB HLK
  try dsimp only
  refine wpAny_take (i:=17) (oi:=?oi23) (v:=.bool ok) ?hi23 (by kernel_rfl) (by kernel_rfl) (by kernel_rfl) ?hQ23 ?hy23 ?rest23
  case hi23=>simp only [zge]; rfl
  case hQ23=>exact fun _ _ _ h=>h
  case hy23=>exact Or.inl ⟨by rfl,by intro w; go_simp⟩
  try simp only [zpt]
  refine wpAny_done (by kernel_rfl) ?_ _
  cases ok with
  | false =>
   go_wp2_with fail
   go_ret
   exact ⟨rfl,W3.out⟩
  | true =>
   have hee:=EQ.out
   go_wp2_with (first
    | (with_reducible refine load_when rfl 27 (.tmp 9) rfl g2 0 rfl cs2 _ Tryd.underlying27 rfl ID.out C9.out.cells ?_)
    | (with_reducible refine load_when rfl 27 (.tmp 7) rfl q1 0 rfl hc _ Tryd.underlying27 rfl IH.out C7.out.cells ?_))
   go_ret
   exact ⟨by simp,W3.out⟩
theorem boxOk:BoxOk BxAt where
 lt h hm:=bxAt_lt h hm
 keep h hs hb:=bxAt_keep h hs hb
 good h:=bxAt_good h
 newR w p:=bnewR w p
 newI hT:=bnewI hT
 newN w:=bnewN w
 newO w m p h0 h1:=bnewO w m p h0 h1
 slR key num _ hP hk h0 h1 ha hb hn hn':=bslR key num hP.1 hk h0 h1 ha hb hn hn'
 slI key num hG hM hP ha hk h0 h1 hra hrb hoa hob hn':=by
  obtain ⟨k,t,r1,r2,r3,ES,EB,EL,J⟩:=hP
  exact bslI key num J hG hM ha hk h0 h1 hra hrb hoa hob hn'
 slN key num A A' n c n' c' _ hk hn:=bslN key num A A' n c n' c' hk hn
 slL key num A A' n c n' c' hP hk h1 h2:=by
  obtain ⟨k,t,r1,r2,r3,ES,EB,EL,J⟩:=hP
  exact bslL key num A A' n c n' c' J hk h1 h2
 slZ w key num A A' n c n' c' hk:=bslZ w key num A A' n c n' c' hk
 opR key num _ hP hk h0 h1 ha hb hn hn':=bopR key num hP.1 hk h0 h1 ha hb hn hn'
 opI key num _ hP hk h0 h1 hra hrb hn hn':=by
  obtain ⟨k,t,r1,r2,r3,ES,EB,EL,J⟩:=hP
  exact bopI key num J hk h0 h1 hra hrb hn hn'
 opN key num A A' n c n' c' _ hk hn:=bopN key num A A' n c n' c' hk hn
 opZ w key num A A' n c n' c' hk:=bopZ w key num A A' n c n' c' hk
 mkR key hG hP hk hr hn:=bmkR key hG hP.1 hk hr hn
 mkI key hG hM hP ha hk hr _ hn:=by
  obtain ⟨k,t,r1,r2,r3,ES,EB,EL,J⟩:=hP
  exact bmkI key J hG hM ha hk hr hn
 mkZ w key A n c hk:=bmkZ w key A n c hk
 isR key h hG hP hk hh hr hn:=bisR key h hG hP.1 hk hh hr hn
 isI key h _ hP hk hh hr hn:=by
  obtain ⟨k,t,r1,r2,r3,ES,EB,EL,J⟩:=hP
  exact bisI key h J hk hh hr hn
 isZ w key h A n c _ _:=bisZ w key h A n c
 lbR key name hG hP hk hn:=blbR key hG hP.1 hk hn
 lbI key name hG hM hP ha hk hn:=by
  obtain ⟨k,t,r1,r2,r3,ES,EB,EL,J⟩:=hP
  exact blbI key J hG hM ha hk hn
 lbZ w key name hk:=blbZ w key name hk
end Go.Proofs.YtajgjeialbgijaaDoor
