/-
  DERIVED. GIVEN WITH THE SEED: THE CARDS: each row of YtfnahdabjjiipaaDoorRows.lean that lists a variable, with what it lists TIED to the program's text (the seventh form; the later family's looks); each row that meets fmt, with fmt's text TOLD by the authors' own Lean function (tested against real Go, not proved from fmt's source: count such statements apart). THE CARD IS WHAT COUNTS. Prove the row's statement (the work); the ties are given (YtfnahdabjjiipaaDoorTie.lean); close each card by the builder's one call (the guide's Derived/Test/ToyasCard.lean, 'card_holds'). Laid BY PROGRAM, IN A SANDBOX (cutbox-door.mjs). By AI agents, Wed Nov 11 2026. No macro, syntax, notation, axiom, sorry.
-/
import Derived.Test.YtfnahdabjjiipaaDoorRows
import GoSem.ClaimSeven
namespace Go.Proofs.YtfnahdabjjiipaaDoor
namespace Rows

/-- THE TIED CARD OF 'indenturelaw7.TapeAll'. -/
def tapeAllCard : Claim7 := { stood := { row := tapeAllRow, standIns := [], harness := (true, "2530becb785ac43460c69618d9cae1fc48b6a054fa432d83625a0a12b194ee1b"), looks := false }, kinds := [], alts := [], laidByText := true, laidKinds := [.data, .data], laidTests := true, laidLooks := .later }
def TapeAllCardSaid : Prop := Claim7.holds Tryd.pinned (.plain (OpenSpec.ofChange tapeAllSpec)) tapeAllCard

/-- THE TIED CARD OF 'indenturelaw7.TapeCopy'. -/
def tapeCopyCard : Claim7 := { stood := { row := tapeCopyRow, standIns := [], harness := (true, "2530becb785ac43460c69618d9cae1fc48b6a054fa432d83625a0a12b194ee1b"), looks := false }, kinds := [], alts := [], laidByText := true, laidKinds := [.data, .data], laidTests := true, laidLooks := .later }
def TapeCopyCardSaid : Prop := Claim7.holds Tryd.pinned (.plain (OpenSpec.ofChange tapeCopySpec)) tapeCopyCard

/-- THE TIED CARD OF 'indenturelaw7.TapeParts'. -/
def tapePartsCard : Claim7 := { stood := { row := tapePartsRow, standIns := [], harness := (true, "2530becb785ac43460c69618d9cae1fc48b6a054fa432d83625a0a12b194ee1b"), looks := false }, kinds := [], alts := [], laidByText := true, laidKinds := [.data, .data], laidTests := true, laidLooks := .later }
def TapePartsCardSaid : Prop := Claim7.holds Tryd.pinned (.plain (OpenSpec.ofChange tapePartsSpec)) tapePartsCard

/-- THE TIED CARD OF 'indenturelaw7.TapeLong'. -/
def tapeLongCard : Claim7 := { stood := { row := tapeLongRow, standIns := [], harness := (true, "2530becb785ac43460c69618d9cae1fc48b6a054fa432d83625a0a12b194ee1b"), looks := false }, kinds := [], alts := [], laidByText := true, laidKinds := [.data, .data], laidTests := true, laidLooks := .later }
def TapeLongCardSaid : Prop := Claim7.holds Tryd.pinned (.plain (OpenSpec.ofChange tapeLongSpec)) tapeLongCard

/-- THE SECOND FORM's CARD OF 'indenturelaw7.TapeAll'. -/
def tapeAllUptoCard : Claim7 := { stood := { row := tapeAllUptoRow, standIns := [], harness := (true, "2530becb785ac43460c69618d9cae1fc48b6a054fa432d83625a0a12b194ee1b"), looks := false }, kinds := [], alts := [], laidByText := true, laidKinds := [.data, .data], laidTests := true, laidLooks := .later }
def TapeAllUptoCardSaid : Prop := Claim7.holds Tryd.pinned (.plain (OpenSpec.upto tapeAllSpec)) tapeAllUptoCard

/-- THE SECOND FORM's CARD OF 'indenturelaw7.TapeCopy'. -/
def tapeCopyUptoCard : Claim7 := { stood := { row := tapeCopyUptoRow, standIns := [], harness := (true, "2530becb785ac43460c69618d9cae1fc48b6a054fa432d83625a0a12b194ee1b"), looks := false }, kinds := [], alts := [], laidByText := true, laidKinds := [.data, .data], laidTests := true, laidLooks := .later }
def TapeCopyUptoCardSaid : Prop := Claim7.holds Tryd.pinned (.plain (OpenSpec.upto tapeCopySpec)) tapeCopyUptoCard

/-- THE SECOND FORM's CARD OF 'indenturelaw7.TapeParts'. -/
def tapePartsUptoCard : Claim7 := { stood := { row := tapePartsUptoRow, standIns := [], harness := (true, "2530becb785ac43460c69618d9cae1fc48b6a054fa432d83625a0a12b194ee1b"), looks := false }, kinds := [], alts := [], laidByText := true, laidKinds := [.data, .data], laidTests := true, laidLooks := .later }
def TapePartsUptoCardSaid : Prop := Claim7.holds Tryd.pinned (.plain (OpenSpec.upto tapePartsSpec)) tapePartsUptoCard

/-- THE SECOND FORM's CARD OF 'indenturelaw7.TapeLong'. -/
def tapeLongUptoCard : Claim7 := { stood := { row := tapeLongUptoRow, standIns := [], harness := (true, "2530becb785ac43460c69618d9cae1fc48b6a054fa432d83625a0a12b194ee1b"), looks := false }, kinds := [], alts := [], laidByText := true, laidKinds := [.data, .data], laidTests := true, laidLooks := .later }
def TapeLongUptoCardSaid : Prop := Claim7.holds Tryd.pinned (.plain (OpenSpec.upto tapeLongSpec)) tapeLongUptoCard
end Rows
end Go.Proofs.YtfnahdabjjiipaaDoor
