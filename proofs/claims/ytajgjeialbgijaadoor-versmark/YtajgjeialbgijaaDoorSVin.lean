import Derived.Lib.SmallJoins
import Derived.OpenShut
import Derived.RowKit
import Derived.Test.YtajgjeialbgijaaDoorSRz
import Derived.Test.YtajgjeialbgijaaDoorSVm
namespace Go.Proofs.YtajgjeialbgijaaDoor
set_option linter.unusedVariables false
set_option linter.unusedSimpArgs false
set_option maxRecDepth 100000
open Go.Joins Go.ChangeShapes Go.WideShapes Go.RowKit Vs
theorem ints4_in {H:Type} {enc:TypeId × Value->H} {w:World} {b0:Nat} {sp:Nat->Bool} {held:Bool} {fuel:Nat} {cs:List Value} {y:DataW H × List MemPlace} (h:DataW.trod enc Tryd.prog w b0 sp held fuel 28 cs=some y):∃ l:List Int,l.length=4/\(∀ z ∈ l,In z)/\cs=l.map iv:=by
 obtain ⟨xs,m,_,_,hl,hlen,hx⟩:=DataW.trod_array Tryd.underlying28 h
 have hl:cs.length=4:=hl.trans (by kernel_rfl)
 have hc1:Tryd.prog.cellsOf 2=1:=by kernel_rfl
 rw [hc1] at hx
 have each:∀ i (h1:i < cs.length),∃ z,In z/\cs[i]=iv z:=fun i h1=>by
  have hxi:=hx i (by omega)
  rw [List.getElem?_eq_getElem (by omega)] at hxi
  obtain ⟨a,ea,_,wa⟩:=DataW.trod_int Tryd.underlying2 hxi
  rw [Nat.mul_one,List.drop_eq_getElem_cons h1] at ea
  exact ⟨a,by show -9223372036854775808<=a/\a<=9223372036854775807; simpa [Lit.wf,IntKind.min,IntKind.max,IntKind.signed,IntKind.bits] using wa,(List.cons.inj ea).1⟩
 match cs,hl,each with
 | [a,b,c,d],_,each =>
  obtain ⟨z0,i0,e0⟩:=each 0 (by show 0 < 4; omega)
  obtain ⟨z1,i1,e1⟩:=each 1 (by show 1 < 4; omega)
  obtain ⟨z2,i2,e2⟩:=each 2 (by show 2 < 4; omega)
  obtain ⟨z3,i3,e3⟩:=each 3 (by show 3 < 4; omega)
  simp only [List.getElem_cons_zero,List.getElem_cons_succ] at e0 e1 e2 e3
  refine ⟨[z0,z1,z2,z3],rfl,fun z hz=>?_,by rw [e0,e1,e2,e3]; rfl⟩
  simp only [List.mem_cons,List.not_mem_nil,or_false] at hz
  rcases hz with rfl | rfl | rfl | rfl
  ·exact i0
  ·exact i1
  ·exact i2
  ·exact i3
theorem wf_in {n:Int} (h:(Lit.int .i64 n).wf=true):In n:=by
 show -9223372036854775808<=n/\n<=9223372036854775807
 simpa [Lit.wf,IntKind.min,IntKind.max,IntKind.signed,IntKind.bits] using h
theorem cut_list {α:Type} (L:List α) (k m:Nat):L.drop k=(L.drop k).take m ++ L.drop (k + m):=by
 rw [<- List.drop_drop]
 exact (List.take_append_drop m (L.drop k)).symm
theorem vers_in {H:Type} {enc:TypeId × Value->H} {W:World} {r:Reach} {b0:Nat} {v:Value} {d:DataW H} {p:List MemPlace} (hv:Value.okWide Tryd.prog W r b0 30 v) (h:DataW.Trod enc Tryd.prog W 0 (fun _=>true) true 30 v d p):∃ q:V,Ok q/\v=vval q:=by
 obtain ⟨cs,rfl,hsz⟩:=okWide_struct Tryd.underlying30 hv
 obtain ⟨fuel,hf⟩:=h
 obtain ⟨xs,n,_,_,hl,hlen,hF⟩:=DataW.trod_struct Tryd.underlying30 hf
 have hlen:xs.length=8:=hlen
 have hl:cs.toList.length=104:=hl.trans (by kernel_rfl)
 have hc1:Tryd.prog.cellsOf 3=1:=by kernel_rfl
 have hc2:Tryd.prog.cellsOf 2=1:=by kernel_rfl
 have hc3:Tryd.prog.cellsOf 27=32:=by kernel_rfl
 have hc4:Tryd.prog.cellsOf 28=4:=by kernel_rfl
 have h0:DataW.trod enc Tryd.prog W 0 (fun _=>true) true n 3 ((cs.toList.drop 0).take (Tryd.prog.cellsOf 3))=xs[0]?:=hF 0 _ rfl
 have h1:DataW.trod enc Tryd.prog W 0 (fun _=>true) true n 2 ((cs.toList.drop 1).take (Tryd.prog.cellsOf 2))=xs[1]?:=hF 1 _ rfl
 have h2:DataW.trod enc Tryd.prog W 0 (fun _=>true) true n 2 ((cs.toList.drop 2).take (Tryd.prog.cellsOf 2))=xs[2]?:=hF 2 _ rfl
 have h3:DataW.trod enc Tryd.prog W 0 (fun _=>true) true n 27 ((cs.toList.drop 3).take (Tryd.prog.cellsOf 27))=xs[3]?:=hF 3 _ rfl
 have h4:DataW.trod enc Tryd.prog W 0 (fun _=>true) true n 27 ((cs.toList.drop 35).take (Tryd.prog.cellsOf 27))=xs[4]?:=hF 4 _ rfl
 have h5:DataW.trod enc Tryd.prog W 0 (fun _=>true) true n 2 ((cs.toList.drop 67).take (Tryd.prog.cellsOf 2))=xs[5]?:=hF 5 _ rfl
 have h6:DataW.trod enc Tryd.prog W 0 (fun _=>true) true n 28 ((cs.toList.drop 68).take (Tryd.prog.cellsOf 28))=xs[6]?:=hF 6 _ rfl
 have h7:DataW.trod enc Tryd.prog W 0 (fun _=>true) true n 27 ((cs.toList.drop 72).take (Tryd.prog.cellsOf 27))=xs[7]?:=hF 7 _ rfl
 rw [List.getElem?_eq_getElem (by omega)] at h0 h1 h2 h3 h4 h5 h6 h7
 simp only [hc1,hc2,hc3,hc4] at h0 h1 h2 h3 h4 h5 h6 h7
 obtain ⟨c,e0,_,w0⟩:=DataW.trod_int Tryd.underlying3 h0
 obtain ⟨m,e1,_,w1⟩:=DataW.trod_int Tryd.underlying2 h1
 obtain ⟨k,e2,_,w2⟩:=DataW.trod_int Tryd.underlying2 h2
 obtain ⟨pr,hpr,e3⟩:=u8s_in h3
 obtain ⟨ro,hro,e4⟩:=u8s_in h4
 obtain ⟨ep,e5,_,w5⟩:=DataW.trod_int Tryd.underlying2 h5
 obtain ⟨ve,hve,hvi,e6⟩:=ints4_in h6
 obtain ⟨tg,htg,e7⟩:=u8s_in h7
 clear h0 h1 h2 h3 h4 h5 h6 h7 hF hf hv
 refine ⟨⟨c,m,k,pr,ro,ep,ve,tg⟩,⟨hpr,hro,hve,htg,wf_in w0,wf_in w1,wf_in w2,wf_in w5,hvi⟩,?_⟩
 obtain ⟨L,hL⟩:∃ L,L=cs.toList:=⟨_,rfl⟩
 rw [<- hL] at e0 e1 e2 e3 e4 e5 e6 e7 hl
 have e8:L.drop 104=[]:=List.drop_eq_nil_of_le (by omega)
 have e:L=(L.drop 0).take 1 ++ ((L.drop 1).take 1 ++ ((L.drop 2).take 1 ++ ((L.drop 3).take 32 ++ ((L.drop 35).take 32 ++ ((L.drop 67).take 1 ++ ((L.drop 68).take 4 ++ ((L.drop 72).take 32 ++ L.drop 104))))))) :=
  (cut_list L 0 1).trans (congrArg _ ((cut_list L 1 1).trans (congrArg _ ((cut_list L 2 1).trans (congrArg _ ((cut_list L 3 32).trans (congrArg _ ((cut_list L 35 32).trans (congrArg _ ((cut_list L 67 1).trans (congrArg _ ((cut_list L 68 4).trans (congrArg _ (cut_list L 72 32))))))))))))))
 rw [e0,e1,e2,e3,e4,e5,e6,e7,e8,List.append_nil] at e
 show Value.agg cs=Value.agg _
 congr 1
 rw [<- Array.toArray_toList (xs:=cs),<- hL]
 exact congrArg List.toArray e
end Go.Proofs.YtajgjeialbgijaaDoor
