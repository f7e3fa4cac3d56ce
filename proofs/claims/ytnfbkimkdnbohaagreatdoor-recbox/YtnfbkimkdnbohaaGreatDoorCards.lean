/-
  DERIVED. GIVEN WITH THE SEED: THE CARDS: each row of YtnfbkimkdnbohaaGreatDoorRows.lean that lists a variable, with what it lists TIED to the program's text (the seventh form; the later family's looks); each row that meets fmt, with fmt's text TOLD by the authors' own Lean function (tested against real Go, not proved from fmt's source: count such statements apart). THE CARD IS WHAT COUNTS. Prove the row's statement (the work); the ties are given (YtnfbkimkdnbohaaGreatDoorTie.lean); close each card by the builder's one call (the guide's Derived/Test/ToyasCard.lean, 'card_holds'). Laid BY PROGRAM, IN A SANDBOX (cutbox-door.mjs). By AI agents, Wed Nov 11 2026. No macro, syntax, notation, axiom, sorry.
-/
import Derived.Test.YtnfbkimkdnbohaaGreatDoorRows
import GoSem.ClaimSeven
namespace Go.Proofs.YtnfbkimkdnbohaaGreatDoor
namespace Rows

/-- THE TIED CARD OF 'indenturelaw9.RecAll'. -/
def recAllCard : Claim7 := { stood := { row := recAllRow, standIns := [], harness := (true, "5b1d14d0a54d6d34f2309e7ecfbc5b5fe68b62fcebdc81e1a9969b08e4819f8e"), looks := false }, kinds := [], alts := [], laidByText := true, laidKinds := [.data, .data, .data], laidTests := true, laidLooks := .later }
def RecAllCardSaid : Prop := Claim7.holds Tryz.pinned (.plain (OpenSpec.ofChange recAllSpec)) recAllCard

/-- THE TIED CARD OF 'indenturelaw9.RecTurn'. -/
def recTurnCard : Claim7 := { stood := { row := recTurnRow, standIns := [], harness := (true, "5b1d14d0a54d6d34f2309e7ecfbc5b5fe68b62fcebdc81e1a9969b08e4819f8e"), looks := false }, kinds := [], alts := [], laidByText := true, laidKinds := [.data, .data, .data], laidTests := true, laidLooks := .later }
def RecTurnCardSaid : Prop := Claim7.holds Tryz.pinned (.plain (OpenSpec.ofChange recTurnSpec)) recTurnCard

/-- THE TIED CARD OF 'indenturelaw9.RecBox'. -/
def recBoxCard : Claim7 := { stood := { row := recBoxRow, standIns := [], harness := (true, "5b1d14d0a54d6d34f2309e7ecfbc5b5fe68b62fcebdc81e1a9969b08e4819f8e"), looks := false }, kinds := [], alts := [], laidByText := true, laidKinds := [.data, .data, .data], laidTests := true, laidLooks := .later }
def RecBoxCardSaid : Prop := Claim7.holds Tryz.pinned (.plain (OpenSpec.ofChange recBoxSpec)) recBoxCard

/-- THE SECOND FORM's CARD OF 'indenturelaw9.RecAll'. -/
def recAllUptoCard : Claim7 := { stood := { row := recAllUptoRow, standIns := [], harness := (true, "5b1d14d0a54d6d34f2309e7ecfbc5b5fe68b62fcebdc81e1a9969b08e4819f8e"), looks := false }, kinds := [], alts := [], laidByText := true, laidKinds := [.data, .data, .data], laidTests := true, laidLooks := .later }
def RecAllUptoCardSaid : Prop := Claim7.holds Tryz.pinned (.plain (OpenSpec.upto recAllSpec)) recAllUptoCard

/-- THE SECOND FORM's CARD OF 'indenturelaw9.RecTurn'. -/
def recTurnUptoCard : Claim7 := { stood := { row := recTurnUptoRow, standIns := [], harness := (true, "5b1d14d0a54d6d34f2309e7ecfbc5b5fe68b62fcebdc81e1a9969b08e4819f8e"), looks := false }, kinds := [], alts := [], laidByText := true, laidKinds := [.data, .data, .data], laidTests := true, laidLooks := .later }
def RecTurnUptoCardSaid : Prop := Claim7.holds Tryz.pinned (.plain (OpenSpec.upto recTurnSpec)) recTurnUptoCard

/-- THE SECOND FORM's CARD OF 'indenturelaw9.RecBox'. -/
def recBoxUptoCard : Claim7 := { stood := { row := recBoxUptoRow, standIns := [], harness := (true, "5b1d14d0a54d6d34f2309e7ecfbc5b5fe68b62fcebdc81e1a9969b08e4819f8e"), looks := false }, kinds := [], alts := [], laidByText := true, laidKinds := [.data, .data, .data], laidTests := true, laidLooks := .later }
def RecBoxUptoCardSaid : Prop := Claim7.holds Tryz.pinned (.plain (OpenSpec.upto recBoxSpec)) recBoxUptoCard
end Rows
end Go.Proofs.YtnfbkimkdnbohaaGreatDoor
