/- Package tape answers as the document says. -/
import Derived.Test.YtpbfeobifpmjbaaDoorTapN
import Derived.Test.YtpbfeobifpmjbaaDoorTk
namespace Go.Proofs.YtpbfeobifpmjbaaDoor
set_option linter.unusedVariables false
set_option linter.unusedSimpArgs false
set_option maxRecDepth 100000
open Go.RowKit

theorem TapeAt.by_ {w w' : World} {g : Nat} {s : Int} {a : Nat} {row : Option Nat} (h : TapeAt w g s a) (hb : w.grownBy w' row) (hne : row ≠ some g) : TapeAt w' g s a :=
  ⟨(hb.block g h.blk.lt (fun e => hne e.symm)).trans h.blk, h.lo, h.hi⟩
theorem tapeOk : TapeOk TapeAt TapeMem where
  lt h := h.blk.lt
  below h hb := ⟨h.blk.below hb h.blk.lt, h.lo, h.hi⟩
  apart h _ hne hb := h.by_ hb (fun e => hne (Option.some.inj e).symm)
  mlt h hm := by unfold TapeMem at hm; subst hm; exact h.blk.lt
  belowM _ _ hm := hm
  apartM _ _ _ _ hm := hm
  own h hr hb := ⟨h.by_ hb (fun e => hr _ e rfl), fun _ hm => hm⟩
  new s w h1 h2 := tnew_any s w h1 h2
  next n hG h2 hT hn ha := (tnext_any n hG h2 hT hn ha).mono fun _ _ ⟨A, c, e, hR, hT', hW, hf⟩ => ⟨A, c, e, hR, hT', hW, fun _ => hf, fun _ hm => .inl hm⟩
  none_ n _ hn := tnone_any n hn
  nilNext n w := tnilNext n w
  copy hT := tcopy_any hT
  nilCopy w := tnilCopy w
end Go.Proofs.YtpbfeobifpmjbaaDoor
