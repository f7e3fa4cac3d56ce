/- Contracts of the document's Seal and Open. -/
import Derived.Test.YtpbfeobifpmjbaaDoorAeR
import Derived.Test.YtpbfeobifpmjbaaDoorGrow
namespace Go.Proofs.YtpbfeobifpmjbaaDoor
set_option linter.unusedVariables false
set_option linter.unusedSimpArgs false
set_option maxRecDepth 100000
open Go.RowKit

/-- A whole array is loaded in a guarded part of a region that draws. -/
theorem step_loadW {P : Program} {ops : Array Oper} {op : Oper} {a : Act} {w : World} {K : Act → World → Prop} {Q : Exit → Act → World → Prop} {E : Prop} (hgd : Region.wanted op (yielded ops a.tmps) = true) (ty : TypeId) (x : Operand) (ho : op.op = .load ty x)
    (b off : Nat) (hx : a.eval x = .pointer (some ⟨b, off, none⟩)) (l : List Value) (d : TypeDesc) (hu : P.underlying ty = some d) (hd : (match d with | .struct _ | .array _ _ => true | _ => false) = true)
    (hi : (P.info? ty).map (·.size) = some l.length) (h : ∀ j v, l[j]? = some v → w.cell? ⟨b, off + j, none⟩ = some v)
    (hk : K (a.put op.dst (.agg l.toArray)) w) : if Region.wanted op (yielded ops a.tmps) = true then op.wp P a w K Q else E := by
  rw [if_pos hgd]
  unfold Oper.wp execOp
  simp only [ho, hx, Instr.loadAt, Instr.sureAddr, Sem.run_bind, Sem.run_pure, Result.andThen_ok, run_loadVar_list w ty b off l d hu hd hi h]
  exact hk

end Go.Proofs.YtpbfeobifpmjbaaDoor
