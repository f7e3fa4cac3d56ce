/-
  DERIVED. GIVEN WITH THE SEED: THE CARDS: each row of YtajgjeialbgijaaDoorRows.lean that lists a variable, with what it lists TIED to the program's text (the seventh form; the later family's looks); each row that meets fmt, with fmt's text TOLD by the authors' own Lean function (tested against real Go, not proved from fmt's source: count such statements apart). THE CARD IS WHAT COUNTS. Prove the row's statement (the work); the ties are given (YtajgjeialbgijaaDoorTie.lean); close each card by the builder's one call (the guide's Derived/Test/ToyasCard.lean, 'card_holds'). Laid BY PROGRAM, IN A SANDBOX (cutbox-door.mjs). By AI agents, Wed Nov 11 2026. No macro, syntax, notation, axiom, sorry.
-/
import Derived.Test.YtajgjeialbgijaaDoorRows
import GoSem.ClaimSeven
namespace Go.Proofs.YtajgjeialbgijaaDoor
namespace Rows

/-- THE TIED CARD OF 'indenturelaw14.VersChain'. -/
def versChainCard : Claim7 := { stood := { row := versChainRow, standIns := [], harness := (true, "5a9f891a2fa6fa8767ef362d540871728637070b810db07b7a88de2505663a80"), looks := false }, kinds := [], alts := [], laidByText := true, laidKinds := [.data, .data], laidTests := true, laidLooks := .later }
def VersChainCardSaid : Prop := Claim7.holds Tryd.pinned (.plain (OpenSpec.ofChange versChainSpec)) versChainCard

/-- THE TIED CARD OF 'indenturelaw14.VersMark'. -/
def versMarkCard : Claim7 := { stood := { row := versMarkRow, standIns := [], harness := (true, "5a9f891a2fa6fa8767ef362d540871728637070b810db07b7a88de2505663a80"), looks := false }, kinds := [], alts := [], laidByText := true, laidKinds := [.data, .data], laidTests := true, laidLooks := .later }
def VersMarkCardSaid : Prop := Claim7.holds Tryd.pinned (.plain (OpenSpec.ofChange versMarkSpec)) versMarkCard

/-- THE TIED CARD OF 'indenturelaw14.VersLimits'. -/
def versLimitsCard : Claim7 := { stood := { row := versLimitsRow, standIns := [], harness := (true, "5a9f891a2fa6fa8767ef362d540871728637070b810db07b7a88de2505663a80"), looks := false }, kinds := [], alts := [], laidByText := true, laidKinds := [.data, .data], laidTests := true, laidLooks := .later }
def VersLimitsCardSaid : Prop := Claim7.holds Tryd.pinned (.plain (OpenSpec.ofChange versLimitsSpec)) versLimitsCard

/-- THE TIED CARD OF 'indenturelaw14.VersKeys'. -/
def versKeysCard : Claim7 := { stood := { row := versKeysRow, standIns := [], harness := (true, "5a9f891a2fa6fa8767ef362d540871728637070b810db07b7a88de2505663a80"), looks := false }, kinds := [], alts := [], laidByText := true, laidKinds := [.data, .data], laidTests := true, laidLooks := .later }
def VersKeysCardSaid : Prop := Claim7.holds Tryd.pinned (.plain (OpenSpec.ofChange versKeysSpec)) versKeysCard

/-- THE SECOND FORM's CARD OF 'indenturelaw14.VersChain'. -/
def versChainUptoCard : Claim7 := { stood := { row := versChainUptoRow, standIns := [], harness := (true, "5a9f891a2fa6fa8767ef362d540871728637070b810db07b7a88de2505663a80"), looks := false }, kinds := [], alts := [], laidByText := true, laidKinds := [.data, .data], laidTests := true, laidLooks := .later }
def VersChainUptoCardSaid : Prop := Claim7.holds Tryd.pinned (.plain (OpenSpec.upto versChainSpec)) versChainUptoCard

/-- THE SECOND FORM's CARD OF 'indenturelaw14.VersMark'. -/
def versMarkUptoCard : Claim7 := { stood := { row := versMarkUptoRow, standIns := [], harness := (true, "5a9f891a2fa6fa8767ef362d540871728637070b810db07b7a88de2505663a80"), looks := false }, kinds := [], alts := [], laidByText := true, laidKinds := [.data, .data], laidTests := true, laidLooks := .later }
def VersMarkUptoCardSaid : Prop := Claim7.holds Tryd.pinned (.plain (OpenSpec.upto versMarkSpec)) versMarkUptoCard

/-- THE SECOND FORM's CARD OF 'indenturelaw14.VersLimits'. -/
def versLimitsUptoCard : Claim7 := { stood := { row := versLimitsUptoRow, standIns := [], harness := (true, "5a9f891a2fa6fa8767ef362d540871728637070b810db07b7a88de2505663a80"), looks := false }, kinds := [], alts := [], laidByText := true, laidKinds := [.data, .data], laidTests := true, laidLooks := .later }
def VersLimitsUptoCardSaid : Prop := Claim7.holds Tryd.pinned (.plain (OpenSpec.upto versLimitsSpec)) versLimitsUptoCard

/-- THE SECOND FORM's CARD OF 'indenturelaw14.VersKeys'. -/
def versKeysUptoCard : Claim7 := { stood := { row := versKeysUptoRow, standIns := [], harness := (true, "5a9f891a2fa6fa8767ef362d540871728637070b810db07b7a88de2505663a80"), looks := false }, kinds := [], alts := [], laidByText := true, laidKinds := [.data, .data], laidTests := true, laidLooks := .later }
def VersKeysUptoCardSaid : Prop := Claim7.holds Tryd.pinned (.plain (OpenSpec.upto versKeysSpec)) versKeysUptoCard
end Rows
end Go.Proofs.YtajgjeialbgijaaDoor
