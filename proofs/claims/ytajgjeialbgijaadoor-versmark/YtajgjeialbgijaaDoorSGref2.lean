import Derived.Deep.LoopGhost
import Derived.Lib.AppendStr
import Derived.Test.YtajgjeialbgijaaDoorSGpol
import Derived.Test.YtajgjeialbgijaaDoorSGref1
import Derived.Test.YtajgjeialbgijaaDoorSGrow
namespace Go.Proofs.YtajgjeialbgijaaDoor
set_option linter.unusedVariables false
set_option linter.unusedSimpArgs false
set_option maxRecDepth 100000
open Go.RowKit
end Go.Proofs.YtajgjeialbgijaaDoor
namespace Go.Proofs.YtajgjeialbgijaaDoor
set_option linter.unusedVariables false
set_option linter.unusedSimpArgs false
set_option maxRecDepth 100000
open Go.RowKit
def m1 (l:List Int):Nat->List Int
 | 0=>l
 | t + 1=>(m1 l t).set (4 * t + 3) ((m1 l t).getD (4 * t + 3) 0 % 16)
def m2 (l:List Int):Nat->List Int
 | 0=>l
 | t + 1=>(m2 l t).set (4 * t + 4) ((m2 l t).getD (4 * t + 4) 0 - (m2 l t).getD (4 * t + 4) 0 % 4)
end Go.Proofs.YtajgjeialbgijaaDoor
namespace Go.Proofs.YtajgjeialbgijaaDoor
set_option linter.unusedVariables false
set_option linter.unusedSimpArgs false
set_option maxRecDepth 100000
open Go.RowKit
end Go.Proofs.YtajgjeialbgijaaDoor
namespace Go.Proofs.YtajgjeialbgijaaDoor
set_option linter.unusedVariables false
set_option linter.unusedSimpArgs false
set_option maxRecDepth 100000
open Go.RowKit
def zeroS (n:Nat):ByteArray:=⟨(List.replicate n (0:UInt8)).toArray⟩
theorem zeroS_size (n:Nat):(zeroS n).size=n:=by simp [zeroS,ByteArray.size]
theorem zero_cells (n:Nat) (w:World):(Builtin.firstCells 1 n (.string (zeroS n))).run Tryd.prog w = .ok (Builtin.zeroCells #[.int .u8 0] n) w:=by
 have h1:(zeroS n).extract 0 n=zeroS n:=by
  have:=ByteArray.extract_zero_size (b:=zeroS n)
  rw [zeroS_size] at this
  exact this
 simp [Builtin.firstCells,h1]
 apply Array.ext'
 simp [zeroS,Builtin.zeroCells]
 apply List.ext_getElem
 ·simp
 ·intro i h1 h2
  simp [Nat.mod_one]
theorem append_zeros (w:World) (ty:TypeId) (base:Option Addr) (sLen sCap:Nat) (n:Nat) (h:sLen + n<=1000000) (hcap:sLen<=sCap) :
  (Builtin.append_ #[41,3] ty #[.slice base sLen sCap,.int .i64 (n:Int)]).run Tryd.prog w=(Builtin.append_ #[41,9] ty #[.slice base sLen sCap,.string (zeroS n)]).run Tryd.prog w:=by
 obtain ⟨i0,hi,hz0,hz1,hz2⟩:=info_parts info5
 have h1:IntKind.i64.wrap (n:Int)=(n:Int):=by rw [IntKind.wrap_i64]; omega
 have h2:¬ ((n:Int) < 0):=by omega
 have h3:¬ ((281474976710656:Int) < (n:Int)):=by omega
 have h4:¬ ((9223372036854775807:Int) < (sLen:Int) + (n:Int)):=by omega
 have hzc:(Value.int .u8 0).cells=#[.int .u8 0]:=rfl
 rcases Nat.eq_zero_or_pos n with h0 | h0
 ·subst h0
  have h5:¬ ((9223372036854775807:Int) < (sLen:Int)):=by omega
  have h6:IntKind.i64.wrap 0=0:=by decide
  have hzz:=zero_cells 0
  simp [Builtin.zeroCells] at hzz
  simp [Builtin.append_,run_underlying Tryd.underlying41,run_underlying Tryd.underlying3,run_underlying Tryd.underlying9,sizeOf,typeInfo,hi,hz0,hz1,hz2,asInt,asIntOf,h6,h5,Builtin.lenOf,zeroS_size,hcap,hzz]
 ·have h7:¬ n=0:=by omega
  by_cases hroom:sLen + n<=sCap
  ·simp [Builtin.append_,run_underlying Tryd.underlying41,run_underlying Tryd.underlying3,run_underlying Tryd.underlying9,sizeOf,typeInfo,zeroValue,hi,hz0,hz1,hz2,asInt,asIntOf,h1,h2,h3,h4,h7,Builtin.lenOf,zeroS_size,hroom,zero_cells,hzc]
  ·have h8:¬ 281474976710656 < Builtin.nextslicecap (sLen + n) sCap:=by
    have:=growslice_fits (need:=sLen + n) (old:=sCap) (bytes:=1) (by omega) (by omega)
    omega
   simp [Builtin.append_,run_underlying Tryd.underlying41,run_underlying Tryd.underlying3,run_underlying Tryd.underlying9,sizeOf,typeInfo,zeroValue,hi,hz0,hz1,hz2,asInt,asIntOf,h1,h2,h3,h4,h7,h8,Builtin.lenOf,zeroS_size,hroom,zero_cells,hzc]
theorem zero_bytes (n:Nat):Lib.strCells (zeroS n)=(List.replicate n (0:UInt8)).map cellOf:=by
 simp [Lib.strCells,zeroS,cellOf]
theorem run_zeros {wr:World} {B:Nat} {v:Value} {l:List UInt8} (ty:TypeId) (n:Nat) (hown:Ow wr B v l) (hlen:l.length + n<=1000000) (hB:B<=wr.heap.size) :
  ∃ v' w',(Builtin.append_ #[41,3] ty #[v,.int .i64 (n:Int)]).run Tryd.prog wr = .ok v' w'/\Ow w' B v' (l ++ List.replicate n 0)/\wr.grownBy w' v.ownBlock:=by
 obtain ⟨i0,hi,hz0,hz1,hz2⟩:=info_parts info5
 obtain ⟨v',w',hrun,h2,h3,_⟩:=Lib.run_append_own_string (P:=Tryd.prog) wr B 41 9 ty 5 i0 Tryd.underlying41 Tryd.underlying9 hi hz0 hz1 hz2 v l.length (l.map cellOf) hown (zeroS n) (by rw [zeroS_size]; unfold maxLen; omega) (by rw [zeroS_size]; omega) hB
 rw [zeroS_size,zero_bytes,<- List.map_append] at h2
 refine ⟨v',w',?_,by unfold Ow; simpa using h2,h3⟩
 rw [<- hrun]
 rcases hown.2 with ⟨rfl,h0⟩ | ⟨g,cap,cur,rfl,_,_,hnc,_⟩
 ·exact append_zeros wr ty none 0 0 n (by omega) (Nat.le_refl _)
 ·exact append_zeros wr ty _ _ _ n (by omega) hnc
theorem zeros_law {ops:Array Oper} {rest:List Oper} {o:Oper} {a:Act} {Q:Exit->Act->World->Prop} {wr w0:World} {B:Nat} {v:Value} {l:List UInt8} {n:Nat} (hgd:o.guard=none) (s x:Operand)
  (ho:o.op = .call { callee:=.builtin .append,args:=#[s,x],argTypes:=#[41,3] }) (hs:a.eval s=v) (hx:a.eval x = .int .i64 (n:Int)) (hown:Ow wr B v l)
  (hlen:l.length + n<=1000000) (hB:B<=wr.heap.size) (hbel:Below B w0 wr)
  (h:∀ v' w',Hid (Ow w' B v' (l ++ List.replicate n 0))->Hid (Below B w0 w')->wpList Tryd.prog ops Q rest (a.put o.dst v') w'):wpList Tryd.prog ops Q (o :: rest) a wr:=by
 obtain ⟨v',w',hrun,h2,h3⟩:=run_zeros o.type n hown hlen hB
 refine wpList_plain hgd fun K hK=>?_
 unfold Oper.wp execOp
 simp only [ho,resolve,invoke,builtin,Sem.run_bind,Sem.run_pure,Result.andThen_ok,List.map_toArray,List.map_cons,List.map_nil,hs,hx,hrun]
 exact hK _ _ (h v' w' h2 (hbel.grown h3 hB fun k hk=>(World.ownsRow.lt hown k hk).1))
end Go.Proofs.YtajgjeialbgijaaDoor
