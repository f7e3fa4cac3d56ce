/-
  DERIVED. GIVEN WITH THE SEED: THE CARDS: each row of YtijncclcdkgaoaaDoorRows.lean that lists a variable, with what it lists TIED to the program's text (the seventh form; the later family's looks); each row that meets fmt, with fmt's text TOLD by the authors' own Lean function (tested against real Go, not proved from fmt's source: count such statements apart). THE CARD IS WHAT COUNTS. Prove the row's statement (the work); the ties are given (YtijncclcdkgaoaaDoorTie.lean); close each card by the builder's one call (the guide's Derived/Test/ToyasCard.lean, 'card_holds'). Laid BY PROGRAM, IN A SANDBOX (cutbox-door.mjs). By AI agents, Wed Nov 11 2026. No macro, syntax, notation, axiom, sorry.
-/
import Derived.Test.YtijncclcdkgaoaaDoorRows
import GoSem.ClaimSeven
namespace Go.Proofs.YtijncclcdkgaoaaDoor
namespace Rows

/-- THE TIED CARD OF 'indenturelaw9.KeysAll'. -/
def keysAllCard : Claim7 := { stood := { row := keysAllRow, standIns := [], harness := (true, "eb0fe319485fbbc7906cda661b050392448ccacc98c95ed28754cba1268877e1"), looks := false }, kinds := [], alts := [], laidByText := true, laidKinds := [.data, .data, .data], laidTests := true, laidLooks := .later }
def KeysAllCardSaid : Prop := Claim7.holds Tryd.pinned (.plain (OpenSpec.ofChange keysAllSpec)) keysAllCard

/-- THE TIED CARD OF 'indenturelaw9.PadAll'. -/
def padAllCard : Claim7 := { stood := { row := padAllRow, standIns := [], harness := (true, "eb0fe319485fbbc7906cda661b050392448ccacc98c95ed28754cba1268877e1"), looks := false }, kinds := [], alts := [], laidByText := true, laidKinds := [.data, .data, .data], laidTests := true, laidLooks := .later }
def PadAllCardSaid : Prop := Claim7.holds Tryd.pinned (.plain (OpenSpec.ofChange padAllSpec)) padAllCard

/-- THE TIED CARD OF 'indenturelaw9.PadAny'. -/
def padAnyCard : Claim7 := { stood := { row := padAnyRow, standIns := [], harness := (true, "eb0fe319485fbbc7906cda661b050392448ccacc98c95ed28754cba1268877e1"), looks := false }, kinds := [], alts := [], laidByText := true, laidKinds := [.data, .data, .data], laidTests := true, laidLooks := .later }
def PadAnyCardSaid : Prop := Claim7.holds Tryd.pinned (.plain (OpenSpec.ofChange padAnySpec)) padAnyCard

/-- THE TIED CARD OF 'indenturelaw9.PadAlike'. -/
def padAlikeCard : Claim7 := { stood := { row := padAlikeRow, standIns := [], harness := (true, "eb0fe319485fbbc7906cda661b050392448ccacc98c95ed28754cba1268877e1"), looks := false }, kinds := [], alts := [], laidByText := true, laidKinds := [.data, .data, .data], laidTests := true, laidLooks := .later }
def PadAlikeCardSaid : Prop := Claim7.holds Tryd.pinned (.plain (OpenSpec.ofChange padAlikeSpec)) padAlikeCard

/-- THE TIED CARD OF 'indenturelaw9.RecShape'. -/
def recShapeCard : Claim7 := { stood := { row := recShapeRow, standIns := [], harness := (true, "eb0fe319485fbbc7906cda661b050392448ccacc98c95ed28754cba1268877e1"), looks := false }, kinds := [], alts := [], laidByText := true, laidKinds := [.data, .data, .data], laidTests := true, laidLooks := .later }
def RecShapeCardSaid : Prop := Claim7.holds Tryd.pinned (.plain (OpenSpec.ofChange recShapeSpec)) recShapeCard

/-- THE TIED CARD OF 'indenturelaw9.KeysUnlike'. -/
def keysUnlikeCard : Claim7 := { stood := { row := keysUnlikeRow, standIns := [], harness := (true, "eb0fe319485fbbc7906cda661b050392448ccacc98c95ed28754cba1268877e1"), looks := false }, kinds := [], alts := [], laidByText := true, laidKinds := [.data, .data, .data], laidTests := true, laidLooks := .later }
def KeysUnlikeCardSaid : Prop := Claim7.holds Tryd.pinned (.plain (OpenSpec.ofChange keysUnlikeSpec)) keysUnlikeCard

/-- THE TIED CARD OF 'indenturelaw9.PadEdges'. -/
def padEdgesCard : Claim7 := { stood := { row := padEdgesRow, standIns := [], harness := (true, "eb0fe319485fbbc7906cda661b050392448ccacc98c95ed28754cba1268877e1"), looks := false }, kinds := [], alts := [], laidByText := true, laidKinds := [.data, .data, .data], laidTests := true, laidLooks := .later }
def PadEdgesCardSaid : Prop := Claim7.holds Tryd.pinned (.plain (OpenSpec.ofChange padEdgesSpec)) padEdgesCard

/-- THE TIED CARD OF 'indenturelaw9.RecVers'. -/
def recVersCard : Claim7 := { stood := { row := recVersRow, standIns := [], harness := (true, "eb0fe319485fbbc7906cda661b050392448ccacc98c95ed28754cba1268877e1"), looks := false }, kinds := [], alts := [], laidByText := true, laidKinds := [.data, .data, .data], laidTests := true, laidLooks := .later }
def RecVersCardSaid : Prop := Claim7.holds Tryd.pinned (.plain (OpenSpec.ofChange recVersSpec)) recVersCard

/-- THE TIED CARD OF 'indenturelaw9.RecEpochs'. -/
def recEpochsCard : Claim7 := { stood := { row := recEpochsRow, standIns := [], harness := (true, "eb0fe319485fbbc7906cda661b050392448ccacc98c95ed28754cba1268877e1"), looks := false }, kinds := [], alts := [], laidByText := true, laidKinds := [.data, .data, .data], laidTests := true, laidLooks := .later }
def RecEpochsCardSaid : Prop := Claim7.holds Tryd.pinned (.plain (OpenSpec.ofChange recEpochsSpec)) recEpochsCard

/-- THE SECOND FORM's CARD OF 'indenturelaw9.KeysAll'. -/
def keysAllUptoCard : Claim7 := { stood := { row := keysAllUptoRow, standIns := [], harness := (true, "eb0fe319485fbbc7906cda661b050392448ccacc98c95ed28754cba1268877e1"), looks := false }, kinds := [], alts := [], laidByText := true, laidKinds := [.data, .data, .data], laidTests := true, laidLooks := .later }
def KeysAllUptoCardSaid : Prop := Claim7.holds Tryd.pinned (.plain (OpenSpec.upto keysAllSpec)) keysAllUptoCard

/-- THE SECOND FORM's CARD OF 'indenturelaw9.PadAll'. -/
def padAllUptoCard : Claim7 := { stood := { row := padAllUptoRow, standIns := [], harness := (true, "eb0fe319485fbbc7906cda661b050392448ccacc98c95ed28754cba1268877e1"), looks := false }, kinds := [], alts := [], laidByText := true, laidKinds := [.data, .data, .data], laidTests := true, laidLooks := .later }
def PadAllUptoCardSaid : Prop := Claim7.holds Tryd.pinned (.plain (OpenSpec.upto padAllSpec)) padAllUptoCard

/-- THE SECOND FORM's CARD OF 'indenturelaw9.PadAny'. -/
def padAnyUptoCard : Claim7 := { stood := { row := padAnyUptoRow, standIns := [], harness := (true, "eb0fe319485fbbc7906cda661b050392448ccacc98c95ed28754cba1268877e1"), looks := false }, kinds := [], alts := [], laidByText := true, laidKinds := [.data, .data, .data], laidTests := true, laidLooks := .later }
def PadAnyUptoCardSaid : Prop := Claim7.holds Tryd.pinned (.plain (OpenSpec.upto padAnySpec)) padAnyUptoCard

/-- THE SECOND FORM's CARD OF 'indenturelaw9.PadAlike'. -/
def padAlikeUptoCard : Claim7 := { stood := { row := padAlikeUptoRow, standIns := [], harness := (true, "eb0fe319485fbbc7906cda661b050392448ccacc98c95ed28754cba1268877e1"), looks := false }, kinds := [], alts := [], laidByText := true, laidKinds := [.data, .data, .data], laidTests := true, laidLooks := .later }
def PadAlikeUptoCardSaid : Prop := Claim7.holds Tryd.pinned (.plain (OpenSpec.upto padAlikeSpec)) padAlikeUptoCard

/-- THE SECOND FORM's CARD OF 'indenturelaw9.RecShape'. -/
def recShapeUptoCard : Claim7 := { stood := { row := recShapeUptoRow, standIns := [], harness := (true, "eb0fe319485fbbc7906cda661b050392448ccacc98c95ed28754cba1268877e1"), looks := false }, kinds := [], alts := [], laidByText := true, laidKinds := [.data, .data, .data], laidTests := true, laidLooks := .later }
def RecShapeUptoCardSaid : Prop := Claim7.holds Tryd.pinned (.plain (OpenSpec.upto recShapeSpec)) recShapeUptoCard

/-- THE SECOND FORM's CARD OF 'indenturelaw9.KeysUnlike'. -/
def keysUnlikeUptoCard : Claim7 := { stood := { row := keysUnlikeUptoRow, standIns := [], harness := (true, "eb0fe319485fbbc7906cda661b050392448ccacc98c95ed28754cba1268877e1"), looks := false }, kinds := [], alts := [], laidByText := true, laidKinds := [.data, .data, .data], laidTests := true, laidLooks := .later }
def KeysUnlikeUptoCardSaid : Prop := Claim7.holds Tryd.pinned (.plain (OpenSpec.upto keysUnlikeSpec)) keysUnlikeUptoCard

/-- THE SECOND FORM's CARD OF 'indenturelaw9.PadEdges'. -/
def padEdgesUptoCard : Claim7 := { stood := { row := padEdgesUptoRow, standIns := [], harness := (true, "eb0fe319485fbbc7906cda661b050392448ccacc98c95ed28754cba1268877e1"), looks := false }, kinds := [], alts := [], laidByText := true, laidKinds := [.data, .data, .data], laidTests := true, laidLooks := .later }
def PadEdgesUptoCardSaid : Prop := Claim7.holds Tryd.pinned (.plain (OpenSpec.upto padEdgesSpec)) padEdgesUptoCard

/-- THE SECOND FORM's CARD OF 'indenturelaw9.RecVers'. -/
def recVersUptoCard : Claim7 := { stood := { row := recVersUptoRow, standIns := [], harness := (true, "eb0fe319485fbbc7906cda661b050392448ccacc98c95ed28754cba1268877e1"), looks := false }, kinds := [], alts := [], laidByText := true, laidKinds := [.data, .data, .data], laidTests := true, laidLooks := .later }
def RecVersUptoCardSaid : Prop := Claim7.holds Tryd.pinned (.plain (OpenSpec.upto recVersSpec)) recVersUptoCard

/-- THE SECOND FORM's CARD OF 'indenturelaw9.RecEpochs'. -/
def recEpochsUptoCard : Claim7 := { stood := { row := recEpochsUptoRow, standIns := [], harness := (true, "eb0fe319485fbbc7906cda661b050392448ccacc98c95ed28754cba1268877e1"), looks := false }, kinds := [], alts := [], laidByText := true, laidKinds := [.data, .data, .data], laidTests := true, laidLooks := .later }
def RecEpochsUptoCardSaid : Prop := Claim7.holds Tryd.pinned (.plain (OpenSpec.upto recEpochsSpec)) recEpochsUptoCard
end Rows
end Go.Proofs.YtijncclcdkgaoaaDoor
