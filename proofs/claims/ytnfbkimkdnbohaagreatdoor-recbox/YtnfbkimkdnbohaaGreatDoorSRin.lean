import Derived.Lib.SmallJoins
import Derived.RowKit
import Derived.Test.YtnfbkimkdnbohaaGreatDoorProg
set_option linter.unusedVariables false
set_option linter.unusedSimpArgs false
set_option maxRecDepth 100000
set_option maxHeartbeats 8000000
namespace Go.Proofs.YtnfbkimkdnbohaaGreatDoor
open Go.Joins Go.ChangeShapes Go.WideShapes Go.RowKit
theorem rec_in {H:Type} {enc:TypeId × Value->H} {W:World} {r:Reach} {b0 b1:Nat} {sp:Nat->Bool} {held:Bool} {v:Value} {d:DataW H} {p:List MemPlace} (hv:Value.okWide Tryz.prog W r b0 23 v) (h:DataW.Trod enc Tryz.prog W b1 sp held 23 v d p) :
  ∃ (x:Int) (g:Bool) (l:List UInt8),v = .agg #[.int .i64 x,.bool g,.string ⟨l.toArray⟩]/\l.length<=9223372036854775807:=by
 obtain ⟨v0,v1,v2,y0,y1,y2,n,rfl,_,_,h0,h1,h2⟩:=open_agg3 Tryz.underlying23 (by kernel_rfl) (by kernel_rfl) hv h
 obtain ⟨x,e0,_,_⟩:=DataW.trod_int Tryz.underlying2 h0
 obtain ⟨g,e1,_⟩:=DataW.trod_bool Tryz.underlying4 h1
 obtain ⟨s,e2,_,hs⟩:=DataW.trod_string Tryz.underlying9 h2
 obtain rfl:=(List.cons.inj e0).1
 obtain rfl:=(List.cons.inj e1).1
 obtain rfl:=(List.cons.inj e2).1
 have hl:s.data.toList.length=s.size:=by rw [Array.length_toList]; rfl
 unfold maxLen at hs
 exact ⟨x,g,s.data.toList,by rw [Array.toArray_toList],by omega⟩
end Go.Proofs.YtnfbkimkdnbohaaGreatDoor
