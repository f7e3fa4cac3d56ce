/-
  DERIVED. GIVEN WITH THE SEED: THE CARDS: each row of YtknpngeaodlmhaaDoorRows.lean that lists a variable, with what it lists TIED to the program's text (the seventh form; the later family's looks); each row that meets fmt, with fmt's text TOLD by the authors' own Lean function (tested against real Go, not proved from fmt's source: count such statements apart). THE CARD IS WHAT COUNTS. Prove the row's statement (the work); the ties are given (YtknpngeaodlmhaaDoorTie.lean); close each card by the builder's one call (the guide's Derived/Test/ToyasCard.lean, 'card_holds'). Laid BY PROGRAM, IN A SANDBOX (cutbox-door.mjs). By AI agents, Wed Nov 11 2026. No macro, syntax, notation, axiom, sorry.
-/
import Derived.Test.YtknpngeaodlmhaaDoorRows
import GoSem.ClaimSeven
namespace Go.Proofs.YtknpngeaodlmhaaDoor
namespace Rows

/-- THE TIED CARD OF 'indenturelaw4.ChachaAll'. -/
def chachaAllCard : Claim7 := { stood := { row := chachaAllRow, standIns := [], harness := (true, "a2586ddb8b428ba8b1f227932666945a05d9a1a753eeefecb88cfdb00030f28b"), looks := false }, kinds := [], alts := [], laidByText := true, laidKinds := [.data, .data], laidTests := true, laidLooks := .later }
def ChachaAllCardSaid : Prop := Claim7.holds Tryd.pinned (.plain (OpenSpec.ofChange chachaAllSpec)) chachaAllCard

/-- THE TIED CARD OF 'indenturelaw4.ChachaTwice'. -/
def chachaTwiceCard : Claim7 := { stood := { row := chachaTwiceRow, standIns := [], harness := (true, "a2586ddb8b428ba8b1f227932666945a05d9a1a753eeefecb88cfdb00030f28b"), looks := false }, kinds := [], alts := [], laidByText := true, laidKinds := [.data, .data], laidTests := true, laidLooks := .later }
def ChachaTwiceCardSaid : Prop := Claim7.holds Tryd.pinned (.plain (OpenSpec.ofChange chachaTwiceSpec)) chachaTwiceCard

/-- THE TIED CARD OF 'indenturelaw4.PolyAll'. -/
def polyAllCard : Claim7 := { stood := { row := polyAllRow, standIns := [], harness := (true, "a2586ddb8b428ba8b1f227932666945a05d9a1a753eeefecb88cfdb00030f28b"), looks := false }, kinds := [], alts := [], laidByText := true, laidKinds := [.data, .data], laidTests := true, laidLooks := .later }
def PolyAllCardSaid : Prop := Claim7.holds Tryd.pinned (.plain (OpenSpec.ofChange polyAllSpec)) polyAllCard

/-- THE TIED CARD OF 'indenturelaw4.PolyEdges'. -/
def polyEdgesCard : Claim7 := { stood := { row := polyEdgesRow, standIns := [], harness := (true, "a2586ddb8b428ba8b1f227932666945a05d9a1a753eeefecb88cfdb00030f28b"), looks := false }, kinds := [], alts := [], laidByText := true, laidKinds := [.data, .data], laidTests := true, laidLooks := .later }
def PolyEdgesCardSaid : Prop := Claim7.holds Tryd.pinned (.plain (OpenSpec.ofChange polyEdgesSpec)) polyEdgesCard

/-- THE TIED CARD OF 'indenturelaw4.AeadAll'. -/
def aeadAllCard : Claim7 := { stood := { row := aeadAllRow, standIns := [], harness := (true, "a2586ddb8b428ba8b1f227932666945a05d9a1a753eeefecb88cfdb00030f28b"), looks := false }, kinds := [], alts := [], laidByText := true, laidKinds := [.data, .data], laidTests := true, laidLooks := .later }
def AeadAllCardSaid : Prop := Claim7.holds Tryd.pinned (.plain (OpenSpec.ofChange aeadAllSpec)) aeadAllCard

/-- THE TIED CARD OF 'indenturelaw4.AeadAny'. -/
def aeadAnyCard : Claim7 := { stood := { row := aeadAnyRow, standIns := [], harness := (true, "a2586ddb8b428ba8b1f227932666945a05d9a1a753eeefecb88cfdb00030f28b"), looks := false }, kinds := [], alts := [], laidByText := true, laidKinds := [.data, .data], laidTests := true, laidLooks := .later }
def AeadAnyCardSaid : Prop := Claim7.holds Tryd.pinned (.plain (OpenSpec.ofChange aeadAnySpec)) aeadAnyCard

/-- THE TIED CARD OF 'indenturelaw4.ChachaKeys'. -/
def chachaKeysCard : Claim7 := { stood := { row := chachaKeysRow, standIns := [], harness := (true, "a2586ddb8b428ba8b1f227932666945a05d9a1a753eeefecb88cfdb00030f28b"), looks := false }, kinds := [], alts := [], laidByText := true, laidKinds := [.data, .data], laidTests := true, laidLooks := .later }
def ChachaKeysCardSaid : Prop := Claim7.holds Tryd.pinned (.plain (OpenSpec.ofChange chachaKeysSpec)) chachaKeysCard

/-- THE TIED CARD OF 'indenturelaw4.ChachaRound'. -/
def chachaRoundCard : Claim7 := { stood := { row := chachaRoundRow, standIns := [], harness := (true, "a2586ddb8b428ba8b1f227932666945a05d9a1a753eeefecb88cfdb00030f28b"), looks := false }, kinds := [], alts := [], laidByText := true, laidKinds := [.data, .data], laidTests := true, laidLooks := .later }
def ChachaRoundCardSaid : Prop := Claim7.holds Tryd.pinned (.plain (OpenSpec.ofChange chachaRoundSpec)) chachaRoundCard

/-- THE TIED CARD OF 'indenturelaw4.PolyParts'. -/
def polyPartsCard : Claim7 := { stood := { row := polyPartsRow, standIns := [], harness := (true, "a2586ddb8b428ba8b1f227932666945a05d9a1a753eeefecb88cfdb00030f28b"), looks := false }, kinds := [], alts := [], laidByText := true, laidKinds := [.data, .data], laidTests := true, laidLooks := .later }
def PolyPartsCardSaid : Prop := Claim7.holds Tryd.pinned (.plain (OpenSpec.ofChange polyPartsSpec)) polyPartsCard

/-- THE TIED CARD OF 'indenturelaw4.PolyZero'. -/
def polyZeroCard : Claim7 := { stood := { row := polyZeroRow, standIns := [], harness := (true, "a2586ddb8b428ba8b1f227932666945a05d9a1a753eeefecb88cfdb00030f28b"), looks := false }, kinds := [], alts := [], laidByText := true, laidKinds := [.data, .data], laidTests := true, laidLooks := .later }
def PolyZeroCardSaid : Prop := Claim7.holds Tryd.pinned (.plain (OpenSpec.ofChange polyZeroSpec)) polyZeroCard

/-- THE TIED CARD OF 'indenturelaw4.AeadLens'. -/
def aeadLensCard : Claim7 := { stood := { row := aeadLensRow, standIns := [], harness := (true, "a2586ddb8b428ba8b1f227932666945a05d9a1a753eeefecb88cfdb00030f28b"), looks := false }, kinds := [], alts := [], laidByText := true, laidKinds := [.data, .data], laidTests := true, laidLooks := .later }
def AeadLensCardSaid : Prop := Claim7.holds Tryd.pinned (.plain (OpenSpec.ofChange aeadLensSpec)) aeadLensCard

/-- THE SECOND FORM's CARD OF 'indenturelaw4.ChachaAll'. -/
def chachaAllUptoCard : Claim7 := { stood := { row := chachaAllUptoRow, standIns := [], harness := (true, "a2586ddb8b428ba8b1f227932666945a05d9a1a753eeefecb88cfdb00030f28b"), looks := false }, kinds := [], alts := [], laidByText := true, laidKinds := [.data, .data], laidTests := true, laidLooks := .later }
def ChachaAllUptoCardSaid : Prop := Claim7.holds Tryd.pinned (.plain (OpenSpec.upto chachaAllSpec)) chachaAllUptoCard

/-- THE SECOND FORM's CARD OF 'indenturelaw4.ChachaTwice'. -/
def chachaTwiceUptoCard : Claim7 := { stood := { row := chachaTwiceUptoRow, standIns := [], harness := (true, "a2586ddb8b428ba8b1f227932666945a05d9a1a753eeefecb88cfdb00030f28b"), looks := false }, kinds := [], alts := [], laidByText := true, laidKinds := [.data, .data], laidTests := true, laidLooks := .later }
def ChachaTwiceUptoCardSaid : Prop := Claim7.holds Tryd.pinned (.plain (OpenSpec.upto chachaTwiceSpec)) chachaTwiceUptoCard

/-- THE SECOND FORM's CARD OF 'indenturelaw4.PolyAll'. -/
def polyAllUptoCard : Claim7 := { stood := { row := polyAllUptoRow, standIns := [], harness := (true, "a2586ddb8b428ba8b1f227932666945a05d9a1a753eeefecb88cfdb00030f28b"), looks := false }, kinds := [], alts := [], laidByText := true, laidKinds := [.data, .data], laidTests := true, laidLooks := .later }
def PolyAllUptoCardSaid : Prop := Claim7.holds Tryd.pinned (.plain (OpenSpec.upto polyAllSpec)) polyAllUptoCard

/-- THE SECOND FORM's CARD OF 'indenturelaw4.PolyEdges'. -/
def polyEdgesUptoCard : Claim7 := { stood := { row := polyEdgesUptoRow, standIns := [], harness := (true, "a2586ddb8b428ba8b1f227932666945a05d9a1a753eeefecb88cfdb00030f28b"), looks := false }, kinds := [], alts := [], laidByText := true, laidKinds := [.data, .data], laidTests := true, laidLooks := .later }
def PolyEdgesUptoCardSaid : Prop := Claim7.holds Tryd.pinned (.plain (OpenSpec.upto polyEdgesSpec)) polyEdgesUptoCard

/-- THE SECOND FORM's CARD OF 'indenturelaw4.AeadAll'. -/
def aeadAllUptoCard : Claim7 := { stood := { row := aeadAllUptoRow, standIns := [], harness := (true, "a2586ddb8b428ba8b1f227932666945a05d9a1a753eeefecb88cfdb00030f28b"), looks := false }, kinds := [], alts := [], laidByText := true, laidKinds := [.data, .data], laidTests := true, laidLooks := .later }
def AeadAllUptoCardSaid : Prop := Claim7.holds Tryd.pinned (.plain (OpenSpec.upto aeadAllSpec)) aeadAllUptoCard

/-- THE SECOND FORM's CARD OF 'indenturelaw4.AeadAny'. -/
def aeadAnyUptoCard : Claim7 := { stood := { row := aeadAnyUptoRow, standIns := [], harness := (true, "a2586ddb8b428ba8b1f227932666945a05d9a1a753eeefecb88cfdb00030f28b"), looks := false }, kinds := [], alts := [], laidByText := true, laidKinds := [.data, .data], laidTests := true, laidLooks := .later }
def AeadAnyUptoCardSaid : Prop := Claim7.holds Tryd.pinned (.plain (OpenSpec.upto aeadAnySpec)) aeadAnyUptoCard

/-- THE SECOND FORM's CARD OF 'indenturelaw4.ChachaKeys'. -/
def chachaKeysUptoCard : Claim7 := { stood := { row := chachaKeysUptoRow, standIns := [], harness := (true, "a2586ddb8b428ba8b1f227932666945a05d9a1a753eeefecb88cfdb00030f28b"), looks := false }, kinds := [], alts := [], laidByText := true, laidKinds := [.data, .data], laidTests := true, laidLooks := .later }
def ChachaKeysUptoCardSaid : Prop := Claim7.holds Tryd.pinned (.plain (OpenSpec.upto chachaKeysSpec)) chachaKeysUptoCard

/-- THE SECOND FORM's CARD OF 'indenturelaw4.ChachaRound'. -/
def chachaRoundUptoCard : Claim7 := { stood := { row := chachaRoundUptoRow, standIns := [], harness := (true, "a2586ddb8b428ba8b1f227932666945a05d9a1a753eeefecb88cfdb00030f28b"), looks := false }, kinds := [], alts := [], laidByText := true, laidKinds := [.data, .data], laidTests := true, laidLooks := .later }
def ChachaRoundUptoCardSaid : Prop := Claim7.holds Tryd.pinned (.plain (OpenSpec.upto chachaRoundSpec)) chachaRoundUptoCard

/-- THE SECOND FORM's CARD OF 'indenturelaw4.PolyParts'. -/
def polyPartsUptoCard : Claim7 := { stood := { row := polyPartsUptoRow, standIns := [], harness := (true, "a2586ddb8b428ba8b1f227932666945a05d9a1a753eeefecb88cfdb00030f28b"), looks := false }, kinds := [], alts := [], laidByText := true, laidKinds := [.data, .data], laidTests := true, laidLooks := .later }
def PolyPartsUptoCardSaid : Prop := Claim7.holds Tryd.pinned (.plain (OpenSpec.upto polyPartsSpec)) polyPartsUptoCard

/-- THE SECOND FORM's CARD OF 'indenturelaw4.PolyZero'. -/
def polyZeroUptoCard : Claim7 := { stood := { row := polyZeroUptoRow, standIns := [], harness := (true, "a2586ddb8b428ba8b1f227932666945a05d9a1a753eeefecb88cfdb00030f28b"), looks := false }, kinds := [], alts := [], laidByText := true, laidKinds := [.data, .data], laidTests := true, laidLooks := .later }
def PolyZeroUptoCardSaid : Prop := Claim7.holds Tryd.pinned (.plain (OpenSpec.upto polyZeroSpec)) polyZeroUptoCard

/-- THE SECOND FORM's CARD OF 'indenturelaw4.AeadLens'. -/
def aeadLensUptoCard : Claim7 := { stood := { row := aeadLensUptoRow, standIns := [], harness := (true, "a2586ddb8b428ba8b1f227932666945a05d9a1a753eeefecb88cfdb00030f28b"), looks := false }, kinds := [], alts := [], laidByText := true, laidKinds := [.data, .data], laidTests := true, laidLooks := .later }
def AeadLensUptoCardSaid : Prop := Claim7.holds Tryd.pinned (.plain (OpenSpec.upto aeadLensSpec)) aeadLensUptoCard
end Rows
end Go.Proofs.YtknpngeaodlmhaaDoor
