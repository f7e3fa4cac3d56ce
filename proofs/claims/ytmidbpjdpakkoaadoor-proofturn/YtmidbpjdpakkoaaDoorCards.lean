/-
  DERIVED. GIVEN WITH THE SEED: THE CARDS: each row of YtmidbpjdpakkoaaDoorRows.lean that lists a variable, with what it lists TIED to the program's text (the seventh form; the later family's looks); each row that meets fmt, with fmt's text TOLD by the authors' own Lean function (tested against real Go, not proved from fmt's source: count such statements apart). THE CARD IS WHAT COUNTS. Prove the row's statement (the work); the ties are given (YtmidbpjdpakkoaaDoorTie.lean); close each card by the builder's one call (the guide's Derived/Test/ToyasCard.lean, 'card_holds'). Laid BY PROGRAM, IN A SANDBOX (cutbox-door.mjs). By AI agents, Wed Nov 11 2026. No macro, syntax, notation, axiom, sorry.
-/
import Derived.Test.YtmidbpjdpakkoaaDoorRows
import GoSem.ClaimSeven
namespace Go.Proofs.YtmidbpjdpakkoaaDoor
namespace Rows

/-- THE TIED CARD OF 'indenturelaw12.TreeAll'. -/
def treeAllCard : Claim7 := { stood := { row := treeAllRow, standIns := [], harness := (true, "d73fc3231b1000055b57034ef29203811beecd5fb94b85e9c308e84ff7e9ad41"), looks := false }, kinds := [], alts := [], laidByText := true, laidKinds := [.data, .data], laidTests := true, laidLooks := .later }
def TreeAllCardSaid : Prop := Claim7.holds Tryd.pinned (.plain (OpenSpec.ofChange treeAllSpec)) treeAllCard

/-- THE TIED CARD OF 'indenturelaw12.TreeOrder'. -/
def treeOrderCard : Claim7 := { stood := { row := treeOrderRow, standIns := [], harness := (true, "d73fc3231b1000055b57034ef29203811beecd5fb94b85e9c308e84ff7e9ad41"), looks := false }, kinds := [], alts := [], laidByText := true, laidKinds := [.data, .data], laidTests := true, laidLooks := .later }
def TreeOrderCardSaid : Prop := Claim7.holds Tryd.pinned (.plain (OpenSpec.ofChange treeOrderSpec)) treeOrderCard

/-- THE TIED CARD OF 'indenturelaw12.TreeNone'. -/
def treeNoneCard : Claim7 := { stood := { row := treeNoneRow, standIns := [], harness := (true, "d73fc3231b1000055b57034ef29203811beecd5fb94b85e9c308e84ff7e9ad41"), looks := false }, kinds := [], alts := [], laidByText := true, laidKinds := [.data, .data], laidTests := true, laidLooks := .later }
def TreeNoneCardSaid : Prop := Claim7.holds Tryd.pinned (.plain (OpenSpec.ofChange treeNoneSpec)) treeNoneCard

/-- THE TIED CARD OF 'indenturelaw12.ProofAll'. -/
def proofAllCard : Claim7 := { stood := { row := proofAllRow, standIns := [], harness := (true, "d73fc3231b1000055b57034ef29203811beecd5fb94b85e9c308e84ff7e9ad41"), looks := false }, kinds := [], alts := [], laidByText := true, laidKinds := [.data, .data], laidTests := true, laidLooks := .later }
def ProofAllCardSaid : Prop := Claim7.holds Tryd.pinned (.plain (OpenSpec.ofChange proofAllSpec)) proofAllCard

/-- THE TIED CARD OF 'indenturelaw12.ProofAny'. -/
def proofAnyCard : Claim7 := { stood := { row := proofAnyRow, standIns := [], harness := (true, "d73fc3231b1000055b57034ef29203811beecd5fb94b85e9c308e84ff7e9ad41"), looks := false }, kinds := [], alts := [], laidByText := true, laidKinds := [.data, .data], laidTests := true, laidLooks := .later }
def ProofAnyCardSaid : Prop := Claim7.holds Tryd.pinned (.plain (OpenSpec.ofChange proofAnySpec)) proofAnyCard

/-- THE TIED CARD OF 'indenturelaw12.ProofTurn'. -/
def proofTurnCard : Claim7 := { stood := { row := proofTurnRow, standIns := [], harness := (true, "d73fc3231b1000055b57034ef29203811beecd5fb94b85e9c308e84ff7e9ad41"), looks := false }, kinds := [], alts := [], laidByText := true, laidKinds := [.data, .data], laidTests := true, laidLooks := .later }
def ProofTurnCardSaid : Prop := Claim7.holds Tryd.pinned (.plain (OpenSpec.ofChange proofTurnSpec)) proofTurnCard

/-- THE TIED CARD OF 'indenturelaw12.ProofDeep'. -/
def proofDeepCard : Claim7 := { stood := { row := proofDeepRow, standIns := [], harness := (true, "d73fc3231b1000055b57034ef29203811beecd5fb94b85e9c308e84ff7e9ad41"), looks := false }, kinds := [], alts := [], laidByText := true, laidKinds := [.data, .data], laidTests := true, laidLooks := .later }
def ProofDeepCardSaid : Prop := Claim7.holds Tryd.pinned (.plain (OpenSpec.ofChange proofDeepSpec)) proofDeepCard

/-- THE TIED CARD OF 'indenturelaw12.TreeHashes'. -/
def treeHashesCard : Claim7 := { stood := { row := treeHashesRow, standIns := [], harness := (true, "d73fc3231b1000055b57034ef29203811beecd5fb94b85e9c308e84ff7e9ad41"), looks := false }, kinds := [], alts := [], laidByText := true, laidKinds := [.data, .data], laidTests := true, laidLooks := .later }
def TreeHashesCardSaid : Prop := Claim7.holds Tryd.pinned (.plain (OpenSpec.ofChange treeHashesSpec)) treeHashesCard

/-- THE TIED CARD OF 'indenturelaw12.TreeAny'. -/
def treeAnyCard : Claim7 := { stood := { row := treeAnyRow, standIns := [], harness := (true, "d73fc3231b1000055b57034ef29203811beecd5fb94b85e9c308e84ff7e9ad41"), looks := false }, kinds := [], alts := [], laidByText := true, laidKinds := [.data, .data], laidTests := true, laidLooks := .later }
def TreeAnyCardSaid : Prop := Claim7.holds Tryd.pinned (.plain (OpenSpec.ofChange treeAnySpec)) treeAnyCard

/-- THE TIED CARD OF 'indenturelaw12.ProofWalk'. -/
def proofWalkCard : Claim7 := { stood := { row := proofWalkRow, standIns := [], harness := (true, "d73fc3231b1000055b57034ef29203811beecd5fb94b85e9c308e84ff7e9ad41"), looks := false }, kinds := [], alts := [], laidByText := true, laidKinds := [.data, .data], laidTests := true, laidLooks := .later }
def ProofWalkCardSaid : Prop := Claim7.holds Tryd.pinned (.plain (OpenSpec.ofChange proofWalkSpec)) proofWalkCard

/-- THE TIED CARD OF 'indenturelaw12.ProofStale'. -/
def proofStaleCard : Claim7 := { stood := { row := proofStaleRow, standIns := [], harness := (true, "d73fc3231b1000055b57034ef29203811beecd5fb94b85e9c308e84ff7e9ad41"), looks := false }, kinds := [], alts := [], laidByText := true, laidKinds := [.data, .data], laidTests := true, laidLooks := .later }
def ProofStaleCardSaid : Prop := Claim7.holds Tryd.pinned (.plain (OpenSpec.ofChange proofStaleSpec)) proofStaleCard

/-- THE SECOND FORM's CARD OF 'indenturelaw12.TreeAll'. -/
def treeAllUptoCard : Claim7 := { stood := { row := treeAllUptoRow, standIns := [], harness := (true, "d73fc3231b1000055b57034ef29203811beecd5fb94b85e9c308e84ff7e9ad41"), looks := false }, kinds := [], alts := [], laidByText := true, laidKinds := [.data, .data], laidTests := true, laidLooks := .later }
def TreeAllUptoCardSaid : Prop := Claim7.holds Tryd.pinned (.plain (OpenSpec.upto treeAllSpec)) treeAllUptoCard

/-- THE SECOND FORM's CARD OF 'indenturelaw12.TreeOrder'. -/
def treeOrderUptoCard : Claim7 := { stood := { row := treeOrderUptoRow, standIns := [], harness := (true, "d73fc3231b1000055b57034ef29203811beecd5fb94b85e9c308e84ff7e9ad41"), looks := false }, kinds := [], alts := [], laidByText := true, laidKinds := [.data, .data], laidTests := true, laidLooks := .later }
def TreeOrderUptoCardSaid : Prop := Claim7.holds Tryd.pinned (.plain (OpenSpec.upto treeOrderSpec)) treeOrderUptoCard

/-- THE SECOND FORM's CARD OF 'indenturelaw12.TreeNone'. -/
def treeNoneUptoCard : Claim7 := { stood := { row := treeNoneUptoRow, standIns := [], harness := (true, "d73fc3231b1000055b57034ef29203811beecd5fb94b85e9c308e84ff7e9ad41"), looks := false }, kinds := [], alts := [], laidByText := true, laidKinds := [.data, .data], laidTests := true, laidLooks := .later }
def TreeNoneUptoCardSaid : Prop := Claim7.holds Tryd.pinned (.plain (OpenSpec.upto treeNoneSpec)) treeNoneUptoCard

/-- THE SECOND FORM's CARD OF 'indenturelaw12.ProofAll'. -/
def proofAllUptoCard : Claim7 := { stood := { row := proofAllUptoRow, standIns := [], harness := (true, "d73fc3231b1000055b57034ef29203811beecd5fb94b85e9c308e84ff7e9ad41"), looks := false }, kinds := [], alts := [], laidByText := true, laidKinds := [.data, .data], laidTests := true, laidLooks := .later }
def ProofAllUptoCardSaid : Prop := Claim7.holds Tryd.pinned (.plain (OpenSpec.upto proofAllSpec)) proofAllUptoCard

/-- THE SECOND FORM's CARD OF 'indenturelaw12.ProofAny'. -/
def proofAnyUptoCard : Claim7 := { stood := { row := proofAnyUptoRow, standIns := [], harness := (true, "d73fc3231b1000055b57034ef29203811beecd5fb94b85e9c308e84ff7e9ad41"), looks := false }, kinds := [], alts := [], laidByText := true, laidKinds := [.data, .data], laidTests := true, laidLooks := .later }
def ProofAnyUptoCardSaid : Prop := Claim7.holds Tryd.pinned (.plain (OpenSpec.upto proofAnySpec)) proofAnyUptoCard

/-- THE SECOND FORM's CARD OF 'indenturelaw12.ProofTurn'. -/
def proofTurnUptoCard : Claim7 := { stood := { row := proofTurnUptoRow, standIns := [], harness := (true, "d73fc3231b1000055b57034ef29203811beecd5fb94b85e9c308e84ff7e9ad41"), looks := false }, kinds := [], alts := [], laidByText := true, laidKinds := [.data, .data], laidTests := true, laidLooks := .later }
def ProofTurnUptoCardSaid : Prop := Claim7.holds Tryd.pinned (.plain (OpenSpec.upto proofTurnSpec)) proofTurnUptoCard

/-- THE SECOND FORM's CARD OF 'indenturelaw12.ProofDeep'. -/
def proofDeepUptoCard : Claim7 := { stood := { row := proofDeepUptoRow, standIns := [], harness := (true, "d73fc3231b1000055b57034ef29203811beecd5fb94b85e9c308e84ff7e9ad41"), looks := false }, kinds := [], alts := [], laidByText := true, laidKinds := [.data, .data], laidTests := true, laidLooks := .later }
def ProofDeepUptoCardSaid : Prop := Claim7.holds Tryd.pinned (.plain (OpenSpec.upto proofDeepSpec)) proofDeepUptoCard

/-- THE SECOND FORM's CARD OF 'indenturelaw12.TreeHashes'. -/
def treeHashesUptoCard : Claim7 := { stood := { row := treeHashesUptoRow, standIns := [], harness := (true, "d73fc3231b1000055b57034ef29203811beecd5fb94b85e9c308e84ff7e9ad41"), looks := false }, kinds := [], alts := [], laidByText := true, laidKinds := [.data, .data], laidTests := true, laidLooks := .later }
def TreeHashesUptoCardSaid : Prop := Claim7.holds Tryd.pinned (.plain (OpenSpec.upto treeHashesSpec)) treeHashesUptoCard

/-- THE SECOND FORM's CARD OF 'indenturelaw12.TreeAny'. -/
def treeAnyUptoCard : Claim7 := { stood := { row := treeAnyUptoRow, standIns := [], harness := (true, "d73fc3231b1000055b57034ef29203811beecd5fb94b85e9c308e84ff7e9ad41"), looks := false }, kinds := [], alts := [], laidByText := true, laidKinds := [.data, .data], laidTests := true, laidLooks := .later }
def TreeAnyUptoCardSaid : Prop := Claim7.holds Tryd.pinned (.plain (OpenSpec.upto treeAnySpec)) treeAnyUptoCard

/-- THE SECOND FORM's CARD OF 'indenturelaw12.ProofWalk'. -/
def proofWalkUptoCard : Claim7 := { stood := { row := proofWalkUptoRow, standIns := [], harness := (true, "d73fc3231b1000055b57034ef29203811beecd5fb94b85e9c308e84ff7e9ad41"), looks := false }, kinds := [], alts := [], laidByText := true, laidKinds := [.data, .data], laidTests := true, laidLooks := .later }
def ProofWalkUptoCardSaid : Prop := Claim7.holds Tryd.pinned (.plain (OpenSpec.upto proofWalkSpec)) proofWalkUptoCard

/-- THE SECOND FORM's CARD OF 'indenturelaw12.ProofStale'. -/
def proofStaleUptoCard : Claim7 := { stood := { row := proofStaleUptoRow, standIns := [], harness := (true, "d73fc3231b1000055b57034ef29203811beecd5fb94b85e9c308e84ff7e9ad41"), looks := false }, kinds := [], alts := [], laidByText := true, laidKinds := [.data, .data], laidTests := true, laidLooks := .later }
def ProofStaleUptoCardSaid : Prop := Claim7.holds Tryd.pinned (.plain (OpenSpec.upto proofStaleSpec)) proofStaleUptoCard
end Rows
end Go.Proofs.YtmidbpjdpakkoaaDoor
