/-
  NARROWER THAN 'FOR EVERY INPUT', by the rows' own cells (each row's printed sentence says how): ChachaAll: laid · ChachaTwice: laid · PolyAll: laid · PolyEdges: laid · AeadAll: laid · AeadAny: laid · ChachaKeys: laid · ChachaRound: laid · PolyParts: laid · PolyZero: laid · AeadLens: laid.
  DERIVED. THE GIVEN ROWS OF THIS SEAT. 11 by the template 'for every input the law returns true; each argument reads behind the call as it read before'; 0 by the template 'total and deterministic' (their statements: YtknpngeaodlmhaaDoorTotals.lean).
  GIVEN WITH THE SEED: the statements are not yours to turn. If you find one false, say at which input.
  Laid BY PROGRAM, IN A SANDBOX (cutbox-rows.mjs): the forced cells as the released guide's own fill.sh prints them over the translation acf80929a618681d… (all of the seat's roots in one cut). By AI agents, Wed Nov 11 2026. No macro, syntax, notation, axiom, sorry.
-/
import Derived.Test.YtknpngeaodlmhaaDoorChecked
import GoSem.Claim
import GoSem.ClaimJoined
import GoSem.ClaimMapViews
import Derived.JoinedTies
import Derived.KernelRfl
namespace Go.Proofs.YtknpngeaodlmhaaDoor
/- THE CELL 'sum', in the pinned program and in every row, IS THE sha256 OF THE DUMP (.gsa) THAT YtknpngeaodlmhaaDoorProg.lean LOADS. Nothing in Lean hashes anything: it is a label: what it is worth is what the hold of that sum in a sandbox is worth. -/
noncomputable def Tryd.pinned : Pinned := { name := "ytknpngeaodlmhaadoor", sum := "acf80929a618681d6446ec5dc327b778089e619f65795b317103098eb5f21052", checked := Tryd.checked }
namespace Rows
def none {H : Type} : Left H := { results := [], args := [] }

/- WHAT THE LISTED PACKAGE-LEVEL VARIABLES READ AS WHEN THE CALL BEGINS. Each datum BY PROGRAM (the guide's laid-datum.mjs) off the statement by which the dump's own 'gosem.cut.vars' lays the variable. In a bare row this is a premise. The card (YtknpngeaodlmhaaDoorCards.lean) ties it to the program's text. -/
def laid_indenture_sha_first {H : Type} : DataW H := .agg [.lit (.int .u32 1779033703), .lit (.int .u32 3144134277), .lit (.int .u32 1013904242), .lit (.int .u32 2773480762), .lit (.int .u32 1359893119), .lit (.int .u32 2600822924), .lit (.int .u32 528734635), .lit (.int .u32 1541459225)]
def laid_indenture_sha_rounds {H : Type} : DataW H := .agg [.lit (.int .u32 1116352408), .lit (.int .u32 1899447441), .lit (.int .u32 3049323471), .lit (.int .u32 3921009573), .lit (.int .u32 961987163), .lit (.int .u32 1508970993), .lit (.int .u32 2453635748), .lit (.int .u32 2870763221), .lit (.int .u32 3624381080), .lit (.int .u32 310598401), .lit (.int .u32 607225278), .lit (.int .u32 1426881987), .lit (.int .u32 1925078388), .lit (.int .u32 2162078206), .lit (.int .u32 2614888103), .lit (.int .u32 3248222580), .lit (.int .u32 3835390401), .lit (.int .u32 4022224774), .lit (.int .u32 264347078), .lit (.int .u32 604807628), .lit (.int .u32 770255983), .lit (.int .u32 1249150122), .lit (.int .u32 1555081692), .lit (.int .u32 1996064986), .lit (.int .u32 2554220882), .lit (.int .u32 2821834349), .lit (.int .u32 2952996808), .lit (.int .u32 3210313671), .lit (.int .u32 3336571891), .lit (.int .u32 3584528711), .lit (.int .u32 113926993), .lit (.int .u32 338241895), .lit (.int .u32 666307205), .lit (.int .u32 773529912), .lit (.int .u32 1294757372), .lit (.int .u32 1396182291), .lit (.int .u32 1695183700), .lit (.int .u32 1986661051), .lit (.int .u32 2177026350), .lit (.int .u32 2456956037), .lit (.int .u32 2730485921), .lit (.int .u32 2820302411), .lit (.int .u32 3259730800), .lit (.int .u32 3345764771), .lit (.int .u32 3516065817), .lit (.int .u32 3600352804), .lit (.int .u32 4094571909), .lit (.int .u32 275423344), .lit (.int .u32 430227734), .lit (.int .u32 506948616), .lit (.int .u32 659060556), .lit (.int .u32 883997877), .lit (.int .u32 958139571), .lit (.int .u32 1322822218), .lit (.int .u32 1537002063), .lit (.int .u32 1747873779), .lit (.int .u32 1955562222), .lit (.int .u32 2024104815), .lit (.int .u32 2227730452), .lit (.int .u32 2361852424), .lit (.int .u32 2428436474), .lit (.int .u32 2756734187), .lit (.int .u32 3204031479), .lit (.int .u32 3329325298)]

/-- 'indenturelaw4.ChachaAll': WHATEVER THE INPUT: true; the input reads as it did. -/
def chachaAllSpec : ChangeSpec := { name := "chachaAll", fn := fun _ => fun
  | [d1, d2, d3, d4, d5, d6, d7] => { results := [.lit (.bool true)], args := [d1, d2, d3, d4, d5, d6, d7] }
  | _ => none }
def chachaAllRow : OpenClaim := { program := "ytknpngeaodlmhaadoor", sum := "acf80929a618681d6446ec5dc327b778089e619f65795b317103098eb5f21052", func := "indenture/indenturelaw4.ChachaAll", spec := "chachaAll", named := ["indenture/sha.first", "indenture/sha.rounds"], apart := false, laid := [("indenture/sha.first", laid_indenture_sha_first), ("indenture/sha.rounds", laid_indenture_sha_rounds)] }
def ChachaAllSaid : Prop := chachaAllRow.holds Tryd.pinned (OpenSpec.ofChange chachaAllSpec)

/-- ITS FALSE NEIGHBOUR: 'it returns false'. Refute it at one input. -/
def chachaAllWrong : ChangeSpec := { name := "chachaAll", fn := fun _ => fun
  | [d1, d2, d3, d4, d5, d6, d7] => { results := [.lit (.bool false)], args := [d1, d2, d3, d4, d5, d6, d7] }
  | _ => none }
def ChachaAllWrongFalsely : Prop := chachaAllRow.holds Tryd.pinned (OpenSpec.ofChange chachaAllWrong)

/-- 'indenturelaw4.ChachaTwice': WHATEVER THE INPUT: true; the input reads as it did. -/
def chachaTwiceSpec : ChangeSpec := { name := "chachaTwice", fn := fun _ => fun
  | [d1, d2, d3, d4, d5] => { results := [.lit (.bool true)], args := [d1, d2, d3, d4, d5] }
  | _ => none }
def chachaTwiceRow : OpenClaim := { program := "ytknpngeaodlmhaadoor", sum := "acf80929a618681d6446ec5dc327b778089e619f65795b317103098eb5f21052", func := "indenture/indenturelaw4.ChachaTwice", spec := "chachaTwice", named := ["indenture/sha.first", "indenture/sha.rounds"], apart := false, laid := [("indenture/sha.first", laid_indenture_sha_first), ("indenture/sha.rounds", laid_indenture_sha_rounds)] }
def ChachaTwiceSaid : Prop := chachaTwiceRow.holds Tryd.pinned (OpenSpec.ofChange chachaTwiceSpec)

/-- ITS FALSE NEIGHBOUR: 'it returns false'. Refute it at one input. -/
def chachaTwiceWrong : ChangeSpec := { name := "chachaTwice", fn := fun _ => fun
  | [d1, d2, d3, d4, d5] => { results := [.lit (.bool false)], args := [d1, d2, d3, d4, d5] }
  | _ => none }
def ChachaTwiceWrongFalsely : Prop := chachaTwiceRow.holds Tryd.pinned (OpenSpec.ofChange chachaTwiceWrong)

/-- 'indenturelaw4.PolyAll': WHATEVER THE INPUT: true; the input reads as it did. -/
def polyAllSpec : ChangeSpec := { name := "polyAll", fn := fun _ => fun
  | [d1, d2] => { results := [.lit (.bool true)], args := [d1, d2] }
  | _ => none }
def polyAllRow : OpenClaim := { program := "ytknpngeaodlmhaadoor", sum := "acf80929a618681d6446ec5dc327b778089e619f65795b317103098eb5f21052", func := "indenture/indenturelaw4.PolyAll", spec := "polyAll", named := ["indenture/sha.first", "indenture/sha.rounds"], apart := false, laid := [("indenture/sha.first", laid_indenture_sha_first), ("indenture/sha.rounds", laid_indenture_sha_rounds)] }
def PolyAllSaid : Prop := polyAllRow.holds Tryd.pinned (OpenSpec.ofChange polyAllSpec)

/-- ITS FALSE NEIGHBOUR: 'it returns false'. Refute it at one input. -/
def polyAllWrong : ChangeSpec := { name := "polyAll", fn := fun _ => fun
  | [d1, d2] => { results := [.lit (.bool false)], args := [d1, d2] }
  | _ => none }
def PolyAllWrongFalsely : Prop := polyAllRow.holds Tryd.pinned (OpenSpec.ofChange polyAllWrong)

/-- 'indenturelaw4.PolyEdges': WHATEVER THE INPUT: true; the input reads as it did. -/
def polyEdgesSpec : ChangeSpec := { name := "polyEdges", fn := fun _ => fun
  | [d1, d2, d3, d4] => { results := [.lit (.bool true)], args := [d1, d2, d3, d4] }
  | _ => none }
def polyEdgesRow : OpenClaim := { program := "ytknpngeaodlmhaadoor", sum := "acf80929a618681d6446ec5dc327b778089e619f65795b317103098eb5f21052", func := "indenture/indenturelaw4.PolyEdges", spec := "polyEdges", named := ["indenture/sha.first", "indenture/sha.rounds"], apart := false, laid := [("indenture/sha.first", laid_indenture_sha_first), ("indenture/sha.rounds", laid_indenture_sha_rounds)] }
def PolyEdgesSaid : Prop := polyEdgesRow.holds Tryd.pinned (OpenSpec.ofChange polyEdgesSpec)

/-- ITS FALSE NEIGHBOUR: 'it returns false'. Refute it at one input. -/
def polyEdgesWrong : ChangeSpec := { name := "polyEdges", fn := fun _ => fun
  | [d1, d2, d3, d4] => { results := [.lit (.bool false)], args := [d1, d2, d3, d4] }
  | _ => none }
def PolyEdgesWrongFalsely : Prop := polyEdgesRow.holds Tryd.pinned (OpenSpec.ofChange polyEdgesWrong)

/-- 'indenturelaw4.AeadAll': WHATEVER THE INPUT: true; the input reads as it did. -/
def aeadAllSpec : ChangeSpec := { name := "aeadAll", fn := fun _ => fun
  | [d1, d2, d3, d4, d5, d6] => { results := [.lit (.bool true)], args := [d1, d2, d3, d4, d5, d6] }
  | _ => none }
def aeadAllRow : OpenClaim := { program := "ytknpngeaodlmhaadoor", sum := "acf80929a618681d6446ec5dc327b778089e619f65795b317103098eb5f21052", func := "indenture/indenturelaw4.AeadAll", spec := "aeadAll", named := ["indenture/sha.first", "indenture/sha.rounds"], apart := false, laid := [("indenture/sha.first", laid_indenture_sha_first), ("indenture/sha.rounds", laid_indenture_sha_rounds)] }
def AeadAllSaid : Prop := aeadAllRow.holds Tryd.pinned (OpenSpec.ofChange aeadAllSpec)

/-- ITS FALSE NEIGHBOUR: 'it returns false'. Refute it at one input. -/
def aeadAllWrong : ChangeSpec := { name := "aeadAll", fn := fun _ => fun
  | [d1, d2, d3, d4, d5, d6] => { results := [.lit (.bool false)], args := [d1, d2, d3, d4, d5, d6] }
  | _ => none }
def AeadAllWrongFalsely : Prop := aeadAllRow.holds Tryd.pinned (OpenSpec.ofChange aeadAllWrong)

/-- 'indenturelaw4.AeadAny': WHATEVER THE INPUT: true; the input reads as it did. -/
def aeadAnySpec : ChangeSpec := { name := "aeadAny", fn := fun _ => fun
  | [d1, d2, d3, d4, d5, d6, d7] => { results := [.lit (.bool true)], args := [d1, d2, d3, d4, d5, d6, d7] }
  | _ => none }
def aeadAnyRow : OpenClaim := { program := "ytknpngeaodlmhaadoor", sum := "acf80929a618681d6446ec5dc327b778089e619f65795b317103098eb5f21052", func := "indenture/indenturelaw4.AeadAny", spec := "aeadAny", named := ["indenture/sha.first", "indenture/sha.rounds"], apart := false, laid := [("indenture/sha.first", laid_indenture_sha_first), ("indenture/sha.rounds", laid_indenture_sha_rounds)] }
def AeadAnySaid : Prop := aeadAnyRow.holds Tryd.pinned (OpenSpec.ofChange aeadAnySpec)

/-- ITS FALSE NEIGHBOUR: 'it returns false'. Refute it at one input. -/
def aeadAnyWrong : ChangeSpec := { name := "aeadAny", fn := fun _ => fun
  | [d1, d2, d3, d4, d5, d6, d7] => { results := [.lit (.bool false)], args := [d1, d2, d3, d4, d5, d6, d7] }
  | _ => none }
def AeadAnyWrongFalsely : Prop := aeadAnyRow.holds Tryd.pinned (OpenSpec.ofChange aeadAnyWrong)

/-- 'indenturelaw4.ChachaKeys': WHATEVER THE INPUT: true; the input reads as it did. -/
def chachaKeysSpec : ChangeSpec := { name := "chachaKeys", fn := fun _ => fun
  | [d1, d2, d3, d4] => { results := [.lit (.bool true)], args := [d1, d2, d3, d4] }
  | _ => none }
def chachaKeysRow : OpenClaim := { program := "ytknpngeaodlmhaadoor", sum := "acf80929a618681d6446ec5dc327b778089e619f65795b317103098eb5f21052", func := "indenture/indenturelaw4.ChachaKeys", spec := "chachaKeys", named := ["indenture/sha.first", "indenture/sha.rounds"], apart := false, laid := [("indenture/sha.first", laid_indenture_sha_first), ("indenture/sha.rounds", laid_indenture_sha_rounds)] }
def ChachaKeysSaid : Prop := chachaKeysRow.holds Tryd.pinned (OpenSpec.ofChange chachaKeysSpec)

/-- ITS FALSE NEIGHBOUR: 'it returns false'. Refute it at one input. -/
def chachaKeysWrong : ChangeSpec := { name := "chachaKeys", fn := fun _ => fun
  | [d1, d2, d3, d4] => { results := [.lit (.bool false)], args := [d1, d2, d3, d4] }
  | _ => none }
def ChachaKeysWrongFalsely : Prop := chachaKeysRow.holds Tryd.pinned (OpenSpec.ofChange chachaKeysWrong)

/-- 'indenturelaw4.ChachaRound': WHATEVER THE INPUT: true; the input reads as it did. -/
def chachaRoundSpec : ChangeSpec := { name := "chachaRound", fn := fun _ => fun
  | [d1, d2, d3, d4] => { results := [.lit (.bool true)], args := [d1, d2, d3, d4] }
  | _ => none }
def chachaRoundRow : OpenClaim := { program := "ytknpngeaodlmhaadoor", sum := "acf80929a618681d6446ec5dc327b778089e619f65795b317103098eb5f21052", func := "indenture/indenturelaw4.ChachaRound", spec := "chachaRound", named := ["indenture/sha.first", "indenture/sha.rounds"], apart := false, laid := [("indenture/sha.first", laid_indenture_sha_first), ("indenture/sha.rounds", laid_indenture_sha_rounds)] }
def ChachaRoundSaid : Prop := chachaRoundRow.holds Tryd.pinned (OpenSpec.ofChange chachaRoundSpec)

/-- ITS FALSE NEIGHBOUR: 'it returns false'. Refute it at one input. -/
def chachaRoundWrong : ChangeSpec := { name := "chachaRound", fn := fun _ => fun
  | [d1, d2, d3, d4] => { results := [.lit (.bool false)], args := [d1, d2, d3, d4] }
  | _ => none }
def ChachaRoundWrongFalsely : Prop := chachaRoundRow.holds Tryd.pinned (OpenSpec.ofChange chachaRoundWrong)

/-- 'indenturelaw4.PolyParts': WHATEVER THE INPUT: true; the input reads as it did. -/
def polyPartsSpec : ChangeSpec := { name := "polyParts", fn := fun _ => fun
  | [d1, d2, d3] => { results := [.lit (.bool true)], args := [d1, d2, d3] }
  | _ => none }
def polyPartsRow : OpenClaim := { program := "ytknpngeaodlmhaadoor", sum := "acf80929a618681d6446ec5dc327b778089e619f65795b317103098eb5f21052", func := "indenture/indenturelaw4.PolyParts", spec := "polyParts", named := ["indenture/sha.first", "indenture/sha.rounds"], apart := false, laid := [("indenture/sha.first", laid_indenture_sha_first), ("indenture/sha.rounds", laid_indenture_sha_rounds)] }
def PolyPartsSaid : Prop := polyPartsRow.holds Tryd.pinned (OpenSpec.ofChange polyPartsSpec)

/-- ITS FALSE NEIGHBOUR: 'it returns false'. Refute it at one input. -/
def polyPartsWrong : ChangeSpec := { name := "polyParts", fn := fun _ => fun
  | [d1, d2, d3] => { results := [.lit (.bool false)], args := [d1, d2, d3] }
  | _ => none }
def PolyPartsWrongFalsely : Prop := polyPartsRow.holds Tryd.pinned (OpenSpec.ofChange polyPartsWrong)

/-- 'indenturelaw4.PolyZero': WHATEVER THE INPUT: true; the input reads as it did. -/
def polyZeroSpec : ChangeSpec := { name := "polyZero", fn := fun _ => fun
  | [d1, d2] => { results := [.lit (.bool true)], args := [d1, d2] }
  | _ => none }
def polyZeroRow : OpenClaim := { program := "ytknpngeaodlmhaadoor", sum := "acf80929a618681d6446ec5dc327b778089e619f65795b317103098eb5f21052", func := "indenture/indenturelaw4.PolyZero", spec := "polyZero", named := ["indenture/sha.first", "indenture/sha.rounds"], apart := false, laid := [("indenture/sha.first", laid_indenture_sha_first), ("indenture/sha.rounds", laid_indenture_sha_rounds)] }
def PolyZeroSaid : Prop := polyZeroRow.holds Tryd.pinned (OpenSpec.ofChange polyZeroSpec)

/-- ITS FALSE NEIGHBOUR: 'it returns false'. Refute it at one input. -/
def polyZeroWrong : ChangeSpec := { name := "polyZero", fn := fun _ => fun
  | [d1, d2] => { results := [.lit (.bool false)], args := [d1, d2] }
  | _ => none }
def PolyZeroWrongFalsely : Prop := polyZeroRow.holds Tryd.pinned (OpenSpec.ofChange polyZeroWrong)

/-- 'indenturelaw4.AeadLens': WHATEVER THE INPUT: true; the input reads as it did. -/
def aeadLensSpec : ChangeSpec := { name := "aeadLens", fn := fun _ => fun
  | [d1, d2, d3, d4] => { results := [.lit (.bool true)], args := [d1, d2, d3, d4] }
  | _ => none }
def aeadLensRow : OpenClaim := { program := "ytknpngeaodlmhaadoor", sum := "acf80929a618681d6446ec5dc327b778089e619f65795b317103098eb5f21052", func := "indenture/indenturelaw4.AeadLens", spec := "aeadLens", named := ["indenture/sha.first", "indenture/sha.rounds"], apart := false, laid := [("indenture/sha.first", laid_indenture_sha_first), ("indenture/sha.rounds", laid_indenture_sha_rounds)] }
def AeadLensSaid : Prop := aeadLensRow.holds Tryd.pinned (OpenSpec.ofChange aeadLensSpec)

/-- ITS FALSE NEIGHBOUR: 'it returns false'. Refute it at one input. -/
def aeadLensWrong : ChangeSpec := { name := "aeadLens", fn := fun _ => fun
  | [d1, d2, d3, d4] => { results := [.lit (.bool false)], args := [d1, d2, d3, d4] }
  | _ => none }
def AeadLensWrongFalsely : Prop := aeadLensRow.holds Tryd.pinned (OpenSpec.ofChange aeadLensWrong)

/- THE SECOND FORM. 'bulk': how many values and letters a reading holds, each counted each time it is reached (what is shared counts as often as it is met; a slice's spare places count too). A statement '..UptoSaid' is the law's where the arguments, and the package variables that the reading takes, are together of bulk at most 1048576: NARROWER than '..Said'. Prove '..Said' where nothing that the law and all that it calls make is longer than what came in: it says more and counts as full. Else prove '..UptoSaid'. A law counts once. -/
mutual
def uptoBulk {H : Type} : DataW H → Nat
  | .lit (.string bytes) => bytes.length + 1
  | .lit _ => 1
  | .nil => 1
  | .ptr d => uptoBulk d + 1
  | .slice elems spare => uptoBulkAll elems + uptoBulkAll spare + 1
  | .agg parts => uptoBulkAll parts + 1
  | .iface _ d => uptoBulk d + 1
  | .map entries => uptoBulkEntries entries + 1
  | .held _ => 1
def uptoBulkAll {H : Type} : List (DataW H) → Nat
  | [] => 0
  | d :: r => uptoBulk d + uptoBulkAll r
def uptoBulkEntries {H : Type} : List (Lit × DataW H) → Nat
  | [] => 0
  | x :: r => uptoBulkEntry x + uptoBulkEntries r
def uptoBulkEntry {H : Type} : Lit × DataW H → Nat
  | (.string bytes, d) => bytes.length + uptoBulk d + 1
  | (_, d) => uptoBulk d + 1
 end
def uptoSmall : (H : Type) → List (DataW H) → Bool := fun _ ds => decide (uptoBulkAll ds ≤ 1048576)
def OpenSpec.upto (s : _root_.Go.ChangeSpec) : _root_.Go.OpenSpec := { _root_.Go.OpenSpec.ofChange s with cond := some uptoSmall }

/-- 'indenturelaw4.ChachaAll', WHERE WHAT IT READS IS OF BULK AT MOST 1048576: true; the input reads as it did. -/
def chachaAllUptoRow : OpenClaim := { program := "ytknpngeaodlmhaadoor", sum := "acf80929a618681d6446ec5dc327b778089e619f65795b317103098eb5f21052", func := "indenture/indenturelaw4.ChachaAll", spec := "chachaAll", named := ["indenture/sha.first", "indenture/sha.rounds"], apart := false, laid := [("indenture/sha.first", laid_indenture_sha_first), ("indenture/sha.rounds", laid_indenture_sha_rounds)], narrowed := true }
def ChachaAllUptoSaid : Prop := chachaAllUptoRow.holds Tryd.pinned (OpenSpec.upto chachaAllSpec)

/-- 'indenturelaw4.ChachaTwice', WHERE WHAT IT READS IS OF BULK AT MOST 1048576: true; the input reads as it did. -/
def chachaTwiceUptoRow : OpenClaim := { program := "ytknpngeaodlmhaadoor", sum := "acf80929a618681d6446ec5dc327b778089e619f65795b317103098eb5f21052", func := "indenture/indenturelaw4.ChachaTwice", spec := "chachaTwice", named := ["indenture/sha.first", "indenture/sha.rounds"], apart := false, laid := [("indenture/sha.first", laid_indenture_sha_first), ("indenture/sha.rounds", laid_indenture_sha_rounds)], narrowed := true }
def ChachaTwiceUptoSaid : Prop := chachaTwiceUptoRow.holds Tryd.pinned (OpenSpec.upto chachaTwiceSpec)

/-- 'indenturelaw4.PolyAll', WHERE WHAT IT READS IS OF BULK AT MOST 1048576: true; the input reads as it did. -/
def polyAllUptoRow : OpenClaim := { program := "ytknpngeaodlmhaadoor", sum := "acf80929a618681d6446ec5dc327b778089e619f65795b317103098eb5f21052", func := "indenture/indenturelaw4.PolyAll", spec := "polyAll", named := ["indenture/sha.first", "indenture/sha.rounds"], apart := false, laid := [("indenture/sha.first", laid_indenture_sha_first), ("indenture/sha.rounds", laid_indenture_sha_rounds)], narrowed := true }
def PolyAllUptoSaid : Prop := polyAllUptoRow.holds Tryd.pinned (OpenSpec.upto polyAllSpec)

/-- 'indenturelaw4.PolyEdges', WHERE WHAT IT READS IS OF BULK AT MOST 1048576: true; the input reads as it did. -/
def polyEdgesUptoRow : OpenClaim := { program := "ytknpngeaodlmhaadoor", sum := "acf80929a618681d6446ec5dc327b778089e619f65795b317103098eb5f21052", func := "indenture/indenturelaw4.PolyEdges", spec := "polyEdges", named := ["indenture/sha.first", "indenture/sha.rounds"], apart := false, laid := [("indenture/sha.first", laid_indenture_sha_first), ("indenture/sha.rounds", laid_indenture_sha_rounds)], narrowed := true }
def PolyEdgesUptoSaid : Prop := polyEdgesUptoRow.holds Tryd.pinned (OpenSpec.upto polyEdgesSpec)

/-- 'indenturelaw4.AeadAll', WHERE WHAT IT READS IS OF BULK AT MOST 1048576: true; the input reads as it did. -/
def aeadAllUptoRow : OpenClaim := { program := "ytknpngeaodlmhaadoor", sum := "acf80929a618681d6446ec5dc327b778089e619f65795b317103098eb5f21052", func := "indenture/indenturelaw4.AeadAll", spec := "aeadAll", named := ["indenture/sha.first", "indenture/sha.rounds"], apart := false, laid := [("indenture/sha.first", laid_indenture_sha_first), ("indenture/sha.rounds", laid_indenture_sha_rounds)], narrowed := true }
def AeadAllUptoSaid : Prop := aeadAllUptoRow.holds Tryd.pinned (OpenSpec.upto aeadAllSpec)

/-- 'indenturelaw4.AeadAny', WHERE WHAT IT READS IS OF BULK AT MOST 1048576: true; the input reads as it did. -/
def aeadAnyUptoRow : OpenClaim := { program := "ytknpngeaodlmhaadoor", sum := "acf80929a618681d6446ec5dc327b778089e619f65795b317103098eb5f21052", func := "indenture/indenturelaw4.AeadAny", spec := "aeadAny", named := ["indenture/sha.first", "indenture/sha.rounds"], apart := false, laid := [("indenture/sha.first", laid_indenture_sha_first), ("indenture/sha.rounds", laid_indenture_sha_rounds)], narrowed := true }
def AeadAnyUptoSaid : Prop := aeadAnyUptoRow.holds Tryd.pinned (OpenSpec.upto aeadAnySpec)

/-- 'indenturelaw4.ChachaKeys', WHERE WHAT IT READS IS OF BULK AT MOST 1048576: true; the input reads as it did. -/
def chachaKeysUptoRow : OpenClaim := { program := "ytknpngeaodlmhaadoor", sum := "acf80929a618681d6446ec5dc327b778089e619f65795b317103098eb5f21052", func := "indenture/indenturelaw4.ChachaKeys", spec := "chachaKeys", named := ["indenture/sha.first", "indenture/sha.rounds"], apart := false, laid := [("indenture/sha.first", laid_indenture_sha_first), ("indenture/sha.rounds", laid_indenture_sha_rounds)], narrowed := true }
def ChachaKeysUptoSaid : Prop := chachaKeysUptoRow.holds Tryd.pinned (OpenSpec.upto chachaKeysSpec)

/-- 'indenturelaw4.ChachaRound', WHERE WHAT IT READS IS OF BULK AT MOST 1048576: true; the input reads as it did. -/
def chachaRoundUptoRow : OpenClaim := { program := "ytknpngeaodlmhaadoor", sum := "acf80929a618681d6446ec5dc327b778089e619f65795b317103098eb5f21052", func := "indenture/indenturelaw4.ChachaRound", spec := "chachaRound", named := ["indenture/sha.first", "indenture/sha.rounds"], apart := false, laid := [("indenture/sha.first", laid_indenture_sha_first), ("indenture/sha.rounds", laid_indenture_sha_rounds)], narrowed := true }
def ChachaRoundUptoSaid : Prop := chachaRoundUptoRow.holds Tryd.pinned (OpenSpec.upto chachaRoundSpec)

/-- 'indenturelaw4.PolyParts', WHERE WHAT IT READS IS OF BULK AT MOST 1048576: true; the input reads as it did. -/
def polyPartsUptoRow : OpenClaim := { program := "ytknpngeaodlmhaadoor", sum := "acf80929a618681d6446ec5dc327b778089e619f65795b317103098eb5f21052", func := "indenture/indenturelaw4.PolyParts", spec := "polyParts", named := ["indenture/sha.first", "indenture/sha.rounds"], apart := false, laid := [("indenture/sha.first", laid_indenture_sha_first), ("indenture/sha.rounds", laid_indenture_sha_rounds)], narrowed := true }
def PolyPartsUptoSaid : Prop := polyPartsUptoRow.holds Tryd.pinned (OpenSpec.upto polyPartsSpec)

/-- 'indenturelaw4.PolyZero', WHERE WHAT IT READS IS OF BULK AT MOST 1048576: true; the input reads as it did. -/
def polyZeroUptoRow : OpenClaim := { program := "ytknpngeaodlmhaadoor", sum := "acf80929a618681d6446ec5dc327b778089e619f65795b317103098eb5f21052", func := "indenture/indenturelaw4.PolyZero", spec := "polyZero", named := ["indenture/sha.first", "indenture/sha.rounds"], apart := false, laid := [("indenture/sha.first", laid_indenture_sha_first), ("indenture/sha.rounds", laid_indenture_sha_rounds)], narrowed := true }
def PolyZeroUptoSaid : Prop := polyZeroUptoRow.holds Tryd.pinned (OpenSpec.upto polyZeroSpec)

/-- 'indenturelaw4.AeadLens', WHERE WHAT IT READS IS OF BULK AT MOST 1048576: true; the input reads as it did. -/
def aeadLensUptoRow : OpenClaim := { program := "ytknpngeaodlmhaadoor", sum := "acf80929a618681d6446ec5dc327b778089e619f65795b317103098eb5f21052", func := "indenture/indenturelaw4.AeadLens", spec := "aeadLens", named := ["indenture/sha.first", "indenture/sha.rounds"], apart := false, laid := [("indenture/sha.first", laid_indenture_sha_first), ("indenture/sha.rounds", laid_indenture_sha_rounds)], narrowed := true }
def AeadLensUptoSaid : Prop := aeadLensUptoRow.holds Tryd.pinned (OpenSpec.upto aeadLensSpec)

end Rows
end Go.Proofs.YtknpngeaodlmhaaDoor
