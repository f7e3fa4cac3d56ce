/-
  DERIVED. GIVEN WITH THE SEED: THE CARDS: each row of YtpbfeobifpmjbaaDoorRows.lean that lists a variable, with what it lists TIED to the program's text (the seventh form; the later family's looks); each row that meets fmt, with fmt's text TOLD by the authors' own Lean function (tested against real Go, not proved from fmt's source: count such statements apart). THE CARD IS WHAT COUNTS. Prove the row's statement (the work); the ties are given (YtpbfeobifpmjbaaDoorTie.lean); close each card by the builder's one call (the guide's Derived/Test/ToyasCard.lean, 'card_holds'). Laid BY PROGRAM, IN A SANDBOX (cutbox-door.mjs). By AI agents, Wed Nov 11 2026. No macro, syntax, notation, axiom, sorry.
-/
import Derived.Test.YtpbfeobifpmjbaaDoorRows
import GoSem.ClaimSeven
namespace Go.Proofs.YtpbfeobifpmjbaaDoor
namespace Rows

/-- THE TIED CARD OF 'indenturelaw8.BoxIdeal'. -/
def boxIdealCard : Claim7 := { stood := { row := boxIdealRow, standIns := [], harness := (true, "28fe50724b746949c0c34f6635e6a44aacdd9e550a88878b91b786c31785dc36"), looks := false }, kinds := [], alts := [], laidByText := true, laidKinds := [.data, .data], laidTests := true, laidLooks := .later }
def BoxIdealCardSaid : Prop := Claim7.holds Tryd.pinned (.plain (OpenSpec.ofChange boxIdealSpec)) boxIdealCard

/-- THE TIED CARD OF 'indenturelaw8.BoxOpens'. -/
def boxOpensCard : Claim7 := { stood := { row := boxOpensRow, standIns := [], harness := (true, "28fe50724b746949c0c34f6635e6a44aacdd9e550a88878b91b786c31785dc36"), looks := false }, kinds := [], alts := [], laidByText := true, laidKinds := [.data, .data], laidTests := true, laidLooks := .later }
def BoxOpensCardSaid : Prop := Claim7.holds Tryd.pinned (.plain (OpenSpec.ofChange boxOpensSpec)) boxOpensCard

/-- THE TIED CARD OF 'indenturelaw8.BoxNone'. -/
def boxNoneCard : Claim7 := { stood := { row := boxNoneRow, standIns := [], harness := (true, "28fe50724b746949c0c34f6635e6a44aacdd9e550a88878b91b786c31785dc36"), looks := false }, kinds := [], alts := [], laidByText := true, laidKinds := [.data, .data], laidTests := true, laidLooks := .later }
def BoxNoneCardSaid : Prop := Claim7.holds Tryd.pinned (.plain (OpenSpec.ofChange boxNoneSpec)) boxNoneCard

/-- THE TIED CARD OF 'indenturelaw8.BoxBooks'. -/
def boxBooksCard : Claim7 := { stood := { row := boxBooksRow, standIns := [], harness := (true, "28fe50724b746949c0c34f6635e6a44aacdd9e550a88878b91b786c31785dc36"), looks := false }, kinds := [], alts := [], laidByText := true, laidKinds := [.data, .data], laidTests := true, laidLooks := .later }
def BoxBooksCardSaid : Prop := Claim7.holds Tryd.pinned (.plain (OpenSpec.ofChange boxBooksSpec)) boxBooksCard

/-- THE TIED CARD OF 'indenturelaw8.BoxReal'. -/
def boxRealCard : Claim7 := { stood := { row := boxRealRow, standIns := [], harness := (true, "28fe50724b746949c0c34f6635e6a44aacdd9e550a88878b91b786c31785dc36"), looks := false }, kinds := [], alts := [], laidByText := true, laidKinds := [.data, .data], laidTests := true, laidLooks := .later }
def BoxRealCardSaid : Prop := Claim7.holds Tryd.pinned (.plain (OpenSpec.ofChange boxRealSpec)) boxRealCard

/-- THE SECOND FORM's CARD OF 'indenturelaw8.BoxIdeal'. -/
def boxIdealUptoCard : Claim7 := { stood := { row := boxIdealUptoRow, standIns := [], harness := (true, "28fe50724b746949c0c34f6635e6a44aacdd9e550a88878b91b786c31785dc36"), looks := false }, kinds := [], alts := [], laidByText := true, laidKinds := [.data, .data], laidTests := true, laidLooks := .later }
def BoxIdealUptoCardSaid : Prop := Claim7.holds Tryd.pinned (.plain (OpenSpec.upto boxIdealSpec)) boxIdealUptoCard

/-- THE SECOND FORM's CARD OF 'indenturelaw8.BoxOpens'. -/
def boxOpensUptoCard : Claim7 := { stood := { row := boxOpensUptoRow, standIns := [], harness := (true, "28fe50724b746949c0c34f6635e6a44aacdd9e550a88878b91b786c31785dc36"), looks := false }, kinds := [], alts := [], laidByText := true, laidKinds := [.data, .data], laidTests := true, laidLooks := .later }
def BoxOpensUptoCardSaid : Prop := Claim7.holds Tryd.pinned (.plain (OpenSpec.upto boxOpensSpec)) boxOpensUptoCard

/-- THE SECOND FORM's CARD OF 'indenturelaw8.BoxNone'. -/
def boxNoneUptoCard : Claim7 := { stood := { row := boxNoneUptoRow, standIns := [], harness := (true, "28fe50724b746949c0c34f6635e6a44aacdd9e550a88878b91b786c31785dc36"), looks := false }, kinds := [], alts := [], laidByText := true, laidKinds := [.data, .data], laidTests := true, laidLooks := .later }
def BoxNoneUptoCardSaid : Prop := Claim7.holds Tryd.pinned (.plain (OpenSpec.upto boxNoneSpec)) boxNoneUptoCard

/-- THE SECOND FORM's CARD OF 'indenturelaw8.BoxBooks'. -/
def boxBooksUptoCard : Claim7 := { stood := { row := boxBooksUptoRow, standIns := [], harness := (true, "28fe50724b746949c0c34f6635e6a44aacdd9e550a88878b91b786c31785dc36"), looks := false }, kinds := [], alts := [], laidByText := true, laidKinds := [.data, .data], laidTests := true, laidLooks := .later }
def BoxBooksUptoCardSaid : Prop := Claim7.holds Tryd.pinned (.plain (OpenSpec.upto boxBooksSpec)) boxBooksUptoCard

/-- THE SECOND FORM's CARD OF 'indenturelaw8.BoxReal'. -/
def boxRealUptoCard : Claim7 := { stood := { row := boxRealUptoRow, standIns := [], harness := (true, "28fe50724b746949c0c34f6635e6a44aacdd9e550a88878b91b786c31785dc36"), looks := false }, kinds := [], alts := [], laidByText := true, laidKinds := [.data, .data], laidTests := true, laidLooks := .later }
def BoxRealUptoCardSaid : Prop := Claim7.holds Tryd.pinned (.plain (OpenSpec.upto boxRealSpec)) boxRealUptoCard
end Rows
end Go.Proofs.YtpbfeobifpmjbaaDoor
