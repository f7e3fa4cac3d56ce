/-
  NARROWER THAN 'FOR EVERY INPUT', by the rows' own cells (each row's printed sentence says how): TreeAll: laid · TreeOrder: laid · TreeNone: laid · ProofAll: laid · ProofAny: laid · ProofTurn: laid · ProofDeep: laid · TreeHashes: laid · TreeAny: laid · ProofWalk: laid · ProofStale: laid.
  DERIVED. THE GIVEN ROWS OF THIS SEAT. 11 by the template 'for every input the law returns true; each argument reads behind the call as it read before'; 0 by the template 'total and deterministic' (their statements: YtmidbpjdpakkoaaDoorTotals.lean).
  GIVEN WITH THE SEED: the statements are not yours to turn. If you find one false, say at which input.
  Laid BY PROGRAM, IN A SANDBOX (cutbox-rows.mjs): the forced cells as the released guide's own fill.sh prints them over the translation 03ab71a1306343c6… (all of the seat's roots in one cut). By AI agents, Wed Nov 11 2026. No macro, syntax, notation, axiom, sorry.
-/
import Derived.Test.YtmidbpjdpakkoaaDoorChecked
import GoSem.Claim
import GoSem.ClaimJoined
import GoSem.ClaimMapViews
import Derived.JoinedTies
import Derived.KernelRfl
namespace Go.Proofs.YtmidbpjdpakkoaaDoor
/- THE CELL 'sum', in the pinned program and in every row, IS THE sha256 OF THE DUMP (.gsa) THAT YtmidbpjdpakkoaaDoorProg.lean LOADS. Nothing in Lean hashes anything: it is a label: what it is worth is what the hold of that sum in a sandbox is worth. -/
noncomputable def Tryd.pinned : Pinned := { name := "ytmidbpjdpakkoaadoor", sum := "03ab71a1306343c641c406be27e66649d56f205f0ba62b1c79521f7c77b4c53b", checked := Tryd.checked }
namespace Rows
def none {H : Type} : Left H := { results := [], args := [] }

/- WHAT THE LISTED PACKAGE-LEVEL VARIABLES READ AS WHEN THE CALL BEGINS. Each datum BY PROGRAM (the guide's laid-datum.mjs) off the statement by which the dump's own 'gosem.cut.vars' lays the variable. In a bare row this is a premise. The card (YtmidbpjdpakkoaaDoorCards.lean) ties it to the program's text. -/
def laid_indenture_sha_first {H : Type} : DataW H := .agg [.lit (.int .u32 1779033703), .lit (.int .u32 3144134277), .lit (.int .u32 1013904242), .lit (.int .u32 2773480762), .lit (.int .u32 1359893119), .lit (.int .u32 2600822924), .lit (.int .u32 528734635), .lit (.int .u32 1541459225)]
def laid_indenture_sha_rounds {H : Type} : DataW H := .agg [.lit (.int .u32 1116352408), .lit (.int .u32 1899447441), .lit (.int .u32 3049323471), .lit (.int .u32 3921009573), .lit (.int .u32 961987163), .lit (.int .u32 1508970993), .lit (.int .u32 2453635748), .lit (.int .u32 2870763221), .lit (.int .u32 3624381080), .lit (.int .u32 310598401), .lit (.int .u32 607225278), .lit (.int .u32 1426881987), .lit (.int .u32 1925078388), .lit (.int .u32 2162078206), .lit (.int .u32 2614888103), .lit (.int .u32 3248222580), .lit (.int .u32 3835390401), .lit (.int .u32 4022224774), .lit (.int .u32 264347078), .lit (.int .u32 604807628), .lit (.int .u32 770255983), .lit (.int .u32 1249150122), .lit (.int .u32 1555081692), .lit (.int .u32 1996064986), .lit (.int .u32 2554220882), .lit (.int .u32 2821834349), .lit (.int .u32 2952996808), .lit (.int .u32 3210313671), .lit (.int .u32 3336571891), .lit (.int .u32 3584528711), .lit (.int .u32 113926993), .lit (.int .u32 338241895), .lit (.int .u32 666307205), .lit (.int .u32 773529912), .lit (.int .u32 1294757372), .lit (.int .u32 1396182291), .lit (.int .u32 1695183700), .lit (.int .u32 1986661051), .lit (.int .u32 2177026350), .lit (.int .u32 2456956037), .lit (.int .u32 2730485921), .lit (.int .u32 2820302411), .lit (.int .u32 3259730800), .lit (.int .u32 3345764771), .lit (.int .u32 3516065817), .lit (.int .u32 3600352804), .lit (.int .u32 4094571909), .lit (.int .u32 275423344), .lit (.int .u32 430227734), .lit (.int .u32 506948616), .lit (.int .u32 659060556), .lit (.int .u32 883997877), .lit (.int .u32 958139571), .lit (.int .u32 1322822218), .lit (.int .u32 1537002063), .lit (.int .u32 1747873779), .lit (.int .u32 1955562222), .lit (.int .u32 2024104815), .lit (.int .u32 2227730452), .lit (.int .u32 2361852424), .lit (.int .u32 2428436474), .lit (.int .u32 2756734187), .lit (.int .u32 3204031479), .lit (.int .u32 3329325298)]

/-- 'indenturelaw12.TreeAll': WHATEVER THE INPUT: true; the input reads as it did. -/
def treeAllSpec : ChangeSpec := { name := "treeAll", fn := fun _ => fun
  | [d1, d2] => { results := [.lit (.bool true)], args := [d1, d2] }
  | _ => none }
def treeAllRow : OpenClaim := { program := "ytmidbpjdpakkoaadoor", sum := "03ab71a1306343c641c406be27e66649d56f205f0ba62b1c79521f7c77b4c53b", func := "indenture/indenturelaw12.TreeAll", spec := "treeAll", recurses := true, named := ["indenture/sha.first", "indenture/sha.rounds"], apart := false, laid := [("indenture/sha.first", laid_indenture_sha_first), ("indenture/sha.rounds", laid_indenture_sha_rounds)] }
def TreeAllSaid : Prop := treeAllRow.holds Tryd.pinned (OpenSpec.ofChange treeAllSpec)

/-- ITS FALSE NEIGHBOUR: 'it returns false'. Refute it at one input. -/
def treeAllWrong : ChangeSpec := { name := "treeAll", fn := fun _ => fun
  | [d1, d2] => { results := [.lit (.bool false)], args := [d1, d2] }
  | _ => none }
def TreeAllWrongFalsely : Prop := treeAllRow.holds Tryd.pinned (OpenSpec.ofChange treeAllWrong)

/-- 'indenturelaw12.TreeOrder': WHATEVER THE INPUT: true; the input reads as it did. -/
def treeOrderSpec : ChangeSpec := { name := "treeOrder", fn := fun _ => fun
  | [d1, d2, d3] => { results := [.lit (.bool true)], args := [d1, d2, d3] }
  | _ => none }
def treeOrderRow : OpenClaim := { program := "ytmidbpjdpakkoaadoor", sum := "03ab71a1306343c641c406be27e66649d56f205f0ba62b1c79521f7c77b4c53b", func := "indenture/indenturelaw12.TreeOrder", spec := "treeOrder", recurses := true, named := ["indenture/sha.first", "indenture/sha.rounds"], apart := false, laid := [("indenture/sha.first", laid_indenture_sha_first), ("indenture/sha.rounds", laid_indenture_sha_rounds)] }
def TreeOrderSaid : Prop := treeOrderRow.holds Tryd.pinned (OpenSpec.ofChange treeOrderSpec)

/-- ITS FALSE NEIGHBOUR: 'it returns false'. Refute it at one input. -/
def treeOrderWrong : ChangeSpec := { name := "treeOrder", fn := fun _ => fun
  | [d1, d2, d3] => { results := [.lit (.bool false)], args := [d1, d2, d3] }
  | _ => none }
def TreeOrderWrongFalsely : Prop := treeOrderRow.holds Tryd.pinned (OpenSpec.ofChange treeOrderWrong)

/-- 'indenturelaw12.TreeNone': WHATEVER THE INPUT: true; the input reads as it did. -/
def treeNoneSpec : ChangeSpec := { name := "treeNone", fn := fun _ => fun
  | [] => { results := [.lit (.bool true)], args := [] }
  | _ => none }
def treeNoneRow : OpenClaim := { program := "ytmidbpjdpakkoaadoor", sum := "03ab71a1306343c641c406be27e66649d56f205f0ba62b1c79521f7c77b4c53b", func := "indenture/indenturelaw12.TreeNone", spec := "treeNone", recurses := true, named := ["indenture/sha.first", "indenture/sha.rounds"], apart := false, laid := [("indenture/sha.first", laid_indenture_sha_first), ("indenture/sha.rounds", laid_indenture_sha_rounds)] }
def TreeNoneSaid : Prop := treeNoneRow.holds Tryd.pinned (OpenSpec.ofChange treeNoneSpec)

/-- ITS FALSE NEIGHBOUR: 'it returns false'. Refute it at one input. -/
def treeNoneWrong : ChangeSpec := { name := "treeNone", fn := fun _ => fun
  | [] => { results := [.lit (.bool false)], args := [] }
  | _ => none }
def TreeNoneWrongFalsely : Prop := treeNoneRow.holds Tryd.pinned (OpenSpec.ofChange treeNoneWrong)

/-- 'indenturelaw12.ProofAll': WHATEVER THE INPUT: true; the input reads as it did. -/
def proofAllSpec : ChangeSpec := { name := "proofAll", fn := fun _ => fun
  | [d1, d2, d3, d4] => { results := [.lit (.bool true)], args := [d1, d2, d3, d4] }
  | _ => none }
def proofAllRow : OpenClaim := { program := "ytmidbpjdpakkoaadoor", sum := "03ab71a1306343c641c406be27e66649d56f205f0ba62b1c79521f7c77b4c53b", func := "indenture/indenturelaw12.ProofAll", spec := "proofAll", recurses := true, named := ["indenture/sha.first", "indenture/sha.rounds"], apart := false, laid := [("indenture/sha.first", laid_indenture_sha_first), ("indenture/sha.rounds", laid_indenture_sha_rounds)] }
def ProofAllSaid : Prop := proofAllRow.holds Tryd.pinned (OpenSpec.ofChange proofAllSpec)

/-- ITS FALSE NEIGHBOUR: 'it returns false'. Refute it at one input. -/
def proofAllWrong : ChangeSpec := { name := "proofAll", fn := fun _ => fun
  | [d1, d2, d3, d4] => { results := [.lit (.bool false)], args := [d1, d2, d3, d4] }
  | _ => none }
def ProofAllWrongFalsely : Prop := proofAllRow.holds Tryd.pinned (OpenSpec.ofChange proofAllWrong)

/-- 'indenturelaw12.ProofAny': WHATEVER THE INPUT: true; the input reads as it did. -/
def proofAnySpec : ChangeSpec := { name := "proofAny", fn := fun _ => fun
  | [d1, d2, d3, d4] => { results := [.lit (.bool true)], args := [d1, d2, d3, d4] }
  | _ => none }
def proofAnyRow : OpenClaim := { program := "ytmidbpjdpakkoaadoor", sum := "03ab71a1306343c641c406be27e66649d56f205f0ba62b1c79521f7c77b4c53b", func := "indenture/indenturelaw12.ProofAny", spec := "proofAny", recurses := true, named := ["indenture/sha.first", "indenture/sha.rounds"], apart := false, laid := [("indenture/sha.first", laid_indenture_sha_first), ("indenture/sha.rounds", laid_indenture_sha_rounds)] }
def ProofAnySaid : Prop := proofAnyRow.holds Tryd.pinned (OpenSpec.ofChange proofAnySpec)

/-- ITS FALSE NEIGHBOUR: 'it returns false'. Refute it at one input. -/
def proofAnyWrong : ChangeSpec := { name := "proofAny", fn := fun _ => fun
  | [d1, d2, d3, d4] => { results := [.lit (.bool false)], args := [d1, d2, d3, d4] }
  | _ => none }
def ProofAnyWrongFalsely : Prop := proofAnyRow.holds Tryd.pinned (OpenSpec.ofChange proofAnyWrong)

/-- 'indenturelaw12.ProofTurn': WHATEVER THE INPUT: true; the input reads as it did. -/
def proofTurnSpec : ChangeSpec := { name := "proofTurn", fn := fun _ => fun
  | [d1, d2, d3, d4, d5, d6, d7] => { results := [.lit (.bool true)], args := [d1, d2, d3, d4, d5, d6, d7] }
  | _ => none }
def proofTurnRow : OpenClaim := { program := "ytmidbpjdpakkoaadoor", sum := "03ab71a1306343c641c406be27e66649d56f205f0ba62b1c79521f7c77b4c53b", func := "indenture/indenturelaw12.ProofTurn", spec := "proofTurn", recurses := true, named := ["indenture/sha.first", "indenture/sha.rounds"], apart := false, laid := [("indenture/sha.first", laid_indenture_sha_first), ("indenture/sha.rounds", laid_indenture_sha_rounds)] }
def ProofTurnSaid : Prop := proofTurnRow.holds Tryd.pinned (OpenSpec.ofChange proofTurnSpec)

/-- ITS FALSE NEIGHBOUR: 'it returns false'. Refute it at one input. -/
def proofTurnWrong : ChangeSpec := { name := "proofTurn", fn := fun _ => fun
  | [d1, d2, d3, d4, d5, d6, d7] => { results := [.lit (.bool false)], args := [d1, d2, d3, d4, d5, d6, d7] }
  | _ => none }
def ProofTurnWrongFalsely : Prop := proofTurnRow.holds Tryd.pinned (OpenSpec.ofChange proofTurnWrong)

/-- 'indenturelaw12.ProofDeep': WHATEVER THE INPUT: true; the input reads as it did. -/
def proofDeepSpec : ChangeSpec := { name := "proofDeep", fn := fun _ => fun
  | [d1, d2] => { results := [.lit (.bool true)], args := [d1, d2] }
  | _ => none }
def proofDeepRow : OpenClaim := { program := "ytmidbpjdpakkoaadoor", sum := "03ab71a1306343c641c406be27e66649d56f205f0ba62b1c79521f7c77b4c53b", func := "indenture/indenturelaw12.ProofDeep", spec := "proofDeep", recurses := true, named := ["indenture/sha.first", "indenture/sha.rounds"], apart := false, laid := [("indenture/sha.first", laid_indenture_sha_first), ("indenture/sha.rounds", laid_indenture_sha_rounds)] }
def ProofDeepSaid : Prop := proofDeepRow.holds Tryd.pinned (OpenSpec.ofChange proofDeepSpec)

/-- ITS FALSE NEIGHBOUR: 'it returns false'. Refute it at one input. -/
def proofDeepWrong : ChangeSpec := { name := "proofDeep", fn := fun _ => fun
  | [d1, d2] => { results := [.lit (.bool false)], args := [d1, d2] }
  | _ => none }
def ProofDeepWrongFalsely : Prop := proofDeepRow.holds Tryd.pinned (OpenSpec.ofChange proofDeepWrong)

/-- 'indenturelaw12.TreeHashes': WHATEVER THE INPUT: true; the input reads as it did. -/
def treeHashesSpec : ChangeSpec := { name := "treeHashes", fn := fun _ => fun
  | [d1, d2] => { results := [.lit (.bool true)], args := [d1, d2] }
  | _ => none }
def treeHashesRow : OpenClaim := { program := "ytmidbpjdpakkoaadoor", sum := "03ab71a1306343c641c406be27e66649d56f205f0ba62b1c79521f7c77b4c53b", func := "indenture/indenturelaw12.TreeHashes", spec := "treeHashes", recurses := true, named := ["indenture/sha.first", "indenture/sha.rounds"], apart := false, laid := [("indenture/sha.first", laid_indenture_sha_first), ("indenture/sha.rounds", laid_indenture_sha_rounds)] }
def TreeHashesSaid : Prop := treeHashesRow.holds Tryd.pinned (OpenSpec.ofChange treeHashesSpec)

/-- ITS FALSE NEIGHBOUR: 'it returns false'. Refute it at one input. -/
def treeHashesWrong : ChangeSpec := { name := "treeHashes", fn := fun _ => fun
  | [d1, d2] => { results := [.lit (.bool false)], args := [d1, d2] }
  | _ => none }
def TreeHashesWrongFalsely : Prop := treeHashesRow.holds Tryd.pinned (OpenSpec.ofChange treeHashesWrong)

/-- 'indenturelaw12.TreeAny': WHATEVER THE INPUT: true; the input reads as it did. -/
def treeAnySpec : ChangeSpec := { name := "treeAny", fn := fun _ => fun
  | [d] => { results := [.lit (.bool true)], args := [d] }
  | _ => none }
def treeAnyRow : OpenClaim := { program := "ytmidbpjdpakkoaadoor", sum := "03ab71a1306343c641c406be27e66649d56f205f0ba62b1c79521f7c77b4c53b", func := "indenture/indenturelaw12.TreeAny", spec := "treeAny", recurses := true, named := ["indenture/sha.first", "indenture/sha.rounds"], apart := false, laid := [("indenture/sha.first", laid_indenture_sha_first), ("indenture/sha.rounds", laid_indenture_sha_rounds)] }
def TreeAnySaid : Prop := treeAnyRow.holds Tryd.pinned (OpenSpec.ofChange treeAnySpec)

/-- ITS FALSE NEIGHBOUR: 'it returns false'. Refute it at one input. -/
def treeAnyWrong : ChangeSpec := { name := "treeAny", fn := fun _ => fun
  | [d] => { results := [.lit (.bool false)], args := [d] }
  | _ => none }
def TreeAnyWrongFalsely : Prop := treeAnyRow.holds Tryd.pinned (OpenSpec.ofChange treeAnyWrong)

/-- 'indenturelaw12.ProofWalk': WHATEVER THE INPUT: true; the input reads as it did. -/
def proofWalkSpec : ChangeSpec := { name := "proofWalk", fn := fun _ => fun
  | [d1, d2] => { results := [.lit (.bool true)], args := [d1, d2] }
  | _ => none }
def proofWalkRow : OpenClaim := { program := "ytmidbpjdpakkoaadoor", sum := "03ab71a1306343c641c406be27e66649d56f205f0ba62b1c79521f7c77b4c53b", func := "indenture/indenturelaw12.ProofWalk", spec := "proofWalk", recurses := true, named := ["indenture/sha.first", "indenture/sha.rounds"], apart := false, laid := [("indenture/sha.first", laid_indenture_sha_first), ("indenture/sha.rounds", laid_indenture_sha_rounds)] }
def ProofWalkSaid : Prop := proofWalkRow.holds Tryd.pinned (OpenSpec.ofChange proofWalkSpec)

/-- ITS FALSE NEIGHBOUR: 'it returns false'. Refute it at one input. -/
def proofWalkWrong : ChangeSpec := { name := "proofWalk", fn := fun _ => fun
  | [d1, d2] => { results := [.lit (.bool false)], args := [d1, d2] }
  | _ => none }
def ProofWalkWrongFalsely : Prop := proofWalkRow.holds Tryd.pinned (OpenSpec.ofChange proofWalkWrong)

/-- 'indenturelaw12.ProofStale': WHATEVER THE INPUT: true; the input reads as it did. -/
def proofStaleSpec : ChangeSpec := { name := "proofStale", fn := fun _ => fun
  | [d1, d2, d3, d4, d5] => { results := [.lit (.bool true)], args := [d1, d2, d3, d4, d5] }
  | _ => none }
def proofStaleRow : OpenClaim := { program := "ytmidbpjdpakkoaadoor", sum := "03ab71a1306343c641c406be27e66649d56f205f0ba62b1c79521f7c77b4c53b", func := "indenture/indenturelaw12.ProofStale", spec := "proofStale", recurses := true, named := ["indenture/sha.first", "indenture/sha.rounds"], apart := false, laid := [("indenture/sha.first", laid_indenture_sha_first), ("indenture/sha.rounds", laid_indenture_sha_rounds)] }
def ProofStaleSaid : Prop := proofStaleRow.holds Tryd.pinned (OpenSpec.ofChange proofStaleSpec)

/-- ITS FALSE NEIGHBOUR: 'it returns false'. Refute it at one input. -/
def proofStaleWrong : ChangeSpec := { name := "proofStale", fn := fun _ => fun
  | [d1, d2, d3, d4, d5] => { results := [.lit (.bool false)], args := [d1, d2, d3, d4, d5] }
  | _ => none }
def ProofStaleWrongFalsely : Prop := proofStaleRow.holds Tryd.pinned (OpenSpec.ofChange proofStaleWrong)

/- THE SECOND FORM. 'bulk': how many values and letters a reading holds, each counted each time it is reached (what is shared counts as often as it is met; a slice's spare places count too). A statement '..UptoSaid' is the law's where the arguments, and the package variables that the reading takes, are together of bulk at most 1048576: NARROWER than '..Said'. Prove '..Said' where nothing that the law and all that it calls make is longer than what came in: it says more and counts as full. Else prove '..UptoSaid'. A law counts once. -/
mutual
def uptoBulk {H : Type} : DataW H → Nat
  | .lit (.string bytes) => bytes.length + 1
  | .lit _ => 1
  | .nil => 1
  | .ptr d => uptoBulk d + 1
  | .slice elems spare => uptoBulkAll elems + uptoBulkAll spare + 1
  | .agg parts => uptoBulkAll parts + 1
  | .iface _ d => uptoBulk d + 1
  | .map entries => uptoBulkEntries entries + 1
  | .held _ => 1
def uptoBulkAll {H : Type} : List (DataW H) → Nat
  | [] => 0
  | d :: r => uptoBulk d + uptoBulkAll r
def uptoBulkEntries {H : Type} : List (Lit × DataW H) → Nat
  | [] => 0
  | x :: r => uptoBulkEntry x + uptoBulkEntries r
def uptoBulkEntry {H : Type} : Lit × DataW H → Nat
  | (.string bytes, d) => bytes.length + uptoBulk d + 1
  | (_, d) => uptoBulk d + 1
 end
def uptoSmall : (H : Type) → List (DataW H) → Bool := fun _ ds => decide (uptoBulkAll ds ≤ 1048576)
def OpenSpec.upto (s : _root_.Go.ChangeSpec) : _root_.Go.OpenSpec := { _root_.Go.OpenSpec.ofChange s with cond := some uptoSmall }

/-- 'indenturelaw12.TreeAll', WHERE WHAT IT READS IS OF BULK AT MOST 1048576: true; the input reads as it did. -/
def treeAllUptoRow : OpenClaim := { program := "ytmidbpjdpakkoaadoor", sum := "03ab71a1306343c641c406be27e66649d56f205f0ba62b1c79521f7c77b4c53b", func := "indenture/indenturelaw12.TreeAll", spec := "treeAll", recurses := true, named := ["indenture/sha.first", "indenture/sha.rounds"], apart := false, laid := [("indenture/sha.first", laid_indenture_sha_first), ("indenture/sha.rounds", laid_indenture_sha_rounds)], narrowed := true }
def TreeAllUptoSaid : Prop := treeAllUptoRow.holds Tryd.pinned (OpenSpec.upto treeAllSpec)

/-- 'indenturelaw12.TreeOrder', WHERE WHAT IT READS IS OF BULK AT MOST 1048576: true; the input reads as it did. -/
def treeOrderUptoRow : OpenClaim := { program := "ytmidbpjdpakkoaadoor", sum := "03ab71a1306343c641c406be27e66649d56f205f0ba62b1c79521f7c77b4c53b", func := "indenture/indenturelaw12.TreeOrder", spec := "treeOrder", recurses := true, named := ["indenture/sha.first", "indenture/sha.rounds"], apart := false, laid := [("indenture/sha.first", laid_indenture_sha_first), ("indenture/sha.rounds", laid_indenture_sha_rounds)], narrowed := true }
def TreeOrderUptoSaid : Prop := treeOrderUptoRow.holds Tryd.pinned (OpenSpec.upto treeOrderSpec)

/-- 'indenturelaw12.TreeNone', WHERE WHAT IT READS IS OF BULK AT MOST 1048576: true; the input reads as it did. -/
def treeNoneUptoRow : OpenClaim := { program := "ytmidbpjdpakkoaadoor", sum := "03ab71a1306343c641c406be27e66649d56f205f0ba62b1c79521f7c77b4c53b", func := "indenture/indenturelaw12.TreeNone", spec := "treeNone", recurses := true, named := ["indenture/sha.first", "indenture/sha.rounds"], apart := false, laid := [("indenture/sha.first", laid_indenture_sha_first), ("indenture/sha.rounds", laid_indenture_sha_rounds)], narrowed := true }
def TreeNoneUptoSaid : Prop := treeNoneUptoRow.holds Tryd.pinned (OpenSpec.upto treeNoneSpec)

/-- 'indenturelaw12.ProofAll', WHERE WHAT IT READS IS OF BULK AT MOST 1048576: true; the input reads as it did. -/
def proofAllUptoRow : OpenClaim := { program := "ytmidbpjdpakkoaadoor", sum := "03ab71a1306343c641c406be27e66649d56f205f0ba62b1c79521f7c77b4c53b", func := "indenture/indenturelaw12.ProofAll", spec := "proofAll", recurses := true, named := ["indenture/sha.first", "indenture/sha.rounds"], apart := false, laid := [("indenture/sha.first", laid_indenture_sha_first), ("indenture/sha.rounds", laid_indenture_sha_rounds)], narrowed := true }
def ProofAllUptoSaid : Prop := proofAllUptoRow.holds Tryd.pinned (OpenSpec.upto proofAllSpec)

/-- 'indenturelaw12.ProofAny', WHERE WHAT IT READS IS OF BULK AT MOST 1048576: true; the input reads as it did. -/
def proofAnyUptoRow : OpenClaim := { program := "ytmidbpjdpakkoaadoor", sum := "03ab71a1306343c641c406be27e66649d56f205f0ba62b1c79521f7c77b4c53b", func := "indenture/indenturelaw12.ProofAny", spec := "proofAny", recurses := true, named := ["indenture/sha.first", "indenture/sha.rounds"], apart := false, laid := [("indenture/sha.first", laid_indenture_sha_first), ("indenture/sha.rounds", laid_indenture_sha_rounds)], narrowed := true }
def ProofAnyUptoSaid : Prop := proofAnyUptoRow.holds Tryd.pinned (OpenSpec.upto proofAnySpec)

/-- 'indenturelaw12.ProofTurn', WHERE WHAT IT READS IS OF BULK AT MOST 1048576: true; the input reads as it did. -/
def proofTurnUptoRow : OpenClaim := { program := "ytmidbpjdpakkoaadoor", sum := "03ab71a1306343c641c406be27e66649d56f205f0ba62b1c79521f7c77b4c53b", func := "indenture/indenturelaw12.ProofTurn", spec := "proofTurn", recurses := true, named := ["indenture/sha.first", "indenture/sha.rounds"], apart := false, laid := [("indenture/sha.first", laid_indenture_sha_first), ("indenture/sha.rounds", laid_indenture_sha_rounds)], narrowed := true }
def ProofTurnUptoSaid : Prop := proofTurnUptoRow.holds Tryd.pinned (OpenSpec.upto proofTurnSpec)

/-- 'indenturelaw12.ProofDeep', WHERE WHAT IT READS IS OF BULK AT MOST 1048576: true; the input reads as it did. -/
def proofDeepUptoRow : OpenClaim := { program := "ytmidbpjdpakkoaadoor", sum := "03ab71a1306343c641c406be27e66649d56f205f0ba62b1c79521f7c77b4c53b", func := "indenture/indenturelaw12.ProofDeep", spec := "proofDeep", recurses := true, named := ["indenture/sha.first", "indenture/sha.rounds"], apart := false, laid := [("indenture/sha.first", laid_indenture_sha_first), ("indenture/sha.rounds", laid_indenture_sha_rounds)], narrowed := true }
def ProofDeepUptoSaid : Prop := proofDeepUptoRow.holds Tryd.pinned (OpenSpec.upto proofDeepSpec)

/-- 'indenturelaw12.TreeHashes', WHERE WHAT IT READS IS OF BULK AT MOST 1048576: true; the input reads as it did. -/
def treeHashesUptoRow : OpenClaim := { program := "ytmidbpjdpakkoaadoor", sum := "03ab71a1306343c641c406be27e66649d56f205f0ba62b1c79521f7c77b4c53b", func := "indenture/indenturelaw12.TreeHashes", spec := "treeHashes", recurses := true, named := ["indenture/sha.first", "indenture/sha.rounds"], apart := false, laid := [("indenture/sha.first", laid_indenture_sha_first), ("indenture/sha.rounds", laid_indenture_sha_rounds)], narrowed := true }
def TreeHashesUptoSaid : Prop := treeHashesUptoRow.holds Tryd.pinned (OpenSpec.upto treeHashesSpec)

/-- 'indenturelaw12.TreeAny', WHERE WHAT IT READS IS OF BULK AT MOST 1048576: true; the input reads as it did. -/
def treeAnyUptoRow : OpenClaim := { program := "ytmidbpjdpakkoaadoor", sum := "03ab71a1306343c641c406be27e66649d56f205f0ba62b1c79521f7c77b4c53b", func := "indenture/indenturelaw12.TreeAny", spec := "treeAny", recurses := true, named := ["indenture/sha.first", "indenture/sha.rounds"], apart := false, laid := [("indenture/sha.first", laid_indenture_sha_first), ("indenture/sha.rounds", laid_indenture_sha_rounds)], narrowed := true }
def TreeAnyUptoSaid : Prop := treeAnyUptoRow.holds Tryd.pinned (OpenSpec.upto treeAnySpec)

/-- 'indenturelaw12.ProofWalk', WHERE WHAT IT READS IS OF BULK AT MOST 1048576: true; the input reads as it did. -/
def proofWalkUptoRow : OpenClaim := { program := "ytmidbpjdpakkoaadoor", sum := "03ab71a1306343c641c406be27e66649d56f205f0ba62b1c79521f7c77b4c53b", func := "indenture/indenturelaw12.ProofWalk", spec := "proofWalk", recurses := true, named := ["indenture/sha.first", "indenture/sha.rounds"], apart := false, laid := [("indenture/sha.first", laid_indenture_sha_first), ("indenture/sha.rounds", laid_indenture_sha_rounds)], narrowed := true }
def ProofWalkUptoSaid : Prop := proofWalkUptoRow.holds Tryd.pinned (OpenSpec.upto proofWalkSpec)

/-- 'indenturelaw12.ProofStale', WHERE WHAT IT READS IS OF BULK AT MOST 1048576: true; the input reads as it did. -/
def proofStaleUptoRow : OpenClaim := { program := "ytmidbpjdpakkoaadoor", sum := "03ab71a1306343c641c406be27e66649d56f205f0ba62b1c79521f7c77b4c53b", func := "indenture/indenturelaw12.ProofStale", spec := "proofStale", recurses := true, named := ["indenture/sha.first", "indenture/sha.rounds"], apart := false, laid := [("indenture/sha.first", laid_indenture_sha_first), ("indenture/sha.rounds", laid_indenture_sha_rounds)], narrowed := true }
def ProofStaleUptoSaid : Prop := proofStaleUptoRow.holds Tryd.pinned (OpenSpec.upto proofStaleSpec)

end Rows
end Go.Proofs.YtmidbpjdpakkoaaDoor
