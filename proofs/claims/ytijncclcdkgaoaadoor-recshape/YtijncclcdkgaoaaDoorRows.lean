/-
  NARROWER THAN 'FOR EVERY INPUT', by the rows' own cells (each row's printed sentence says how): KeysAll: laid · PadAll: laid · PadAny: laid · PadAlike: laid · RecShape: laid · KeysUnlike: laid · PadEdges: laid · RecVers: laid · RecEpochs: laid.
  DERIVED. THE GIVEN ROWS OF THIS SEAT. 9 by the template 'for every input the law returns true; each argument reads behind the call as it read before'; 0 by the template 'total and deterministic' (their statements: YtijncclcdkgaoaaDoorTotals.lean).
  GIVEN WITH THE SEED: the statements are not yours to turn. If you find one false, say at which input.
  Laid BY PROGRAM, IN A SANDBOX (cutbox-rows.mjs): the forced cells as the released guide's own fill.sh prints them over the translation 5e504b6cbbb9643f… (all of the seat's roots in one cut). By AI agents, Wed Nov 11 2026. No macro, syntax, notation, axiom, sorry.
-/
import Derived.Test.YtijncclcdkgaoaaDoorChecked
import GoSem.Claim
import GoSem.ClaimJoined
import GoSem.ClaimMapViews
import Derived.JoinedTies
import Derived.KernelRfl
namespace Go.Proofs.YtijncclcdkgaoaaDoor
/- THE CELL 'sum', in the pinned program and in every row, IS THE sha256 OF THE DUMP (.gsa) THAT YtijncclcdkgaoaaDoorProg.lean LOADS. Nothing in Lean hashes anything: it is a label: what it is worth is what the hold of that sum in a sandbox is worth. -/
noncomputable def Tryd.pinned : Pinned := { name := "ytijncclcdkgaoaadoor", sum := "5e504b6cbbb9643fd811845305de27b85f0910e1e0e6c88ee9cf773eac938db6", checked := Tryd.checked }
namespace Rows
def none {H : Type} : Left H := { results := [], args := [] }

/- WHAT THE LISTED PACKAGE-LEVEL VARIABLES READ AS WHEN THE CALL BEGINS. Each datum BY PROGRAM (the guide's laid-datum.mjs) off the statement by which the dump's own 'gosem.cut.vars' lays the variable. In a bare row this is a premise. The card (YtijncclcdkgaoaaDoorCards.lean) ties it to the program's text. -/
def laid_indenture_pad_sizes {H : Type} : DataW H := .agg [.lit (.int .i64 32), .lit (.int .i64 128), .lit (.int .i64 512), .lit (.int .i64 2048)]
def laid_indenture_sha_first {H : Type} : DataW H := .agg [.lit (.int .u32 1779033703), .lit (.int .u32 3144134277), .lit (.int .u32 1013904242), .lit (.int .u32 2773480762), .lit (.int .u32 1359893119), .lit (.int .u32 2600822924), .lit (.int .u32 528734635), .lit (.int .u32 1541459225)]
def laid_indenture_sha_rounds {H : Type} : DataW H := .agg [.lit (.int .u32 1116352408), .lit (.int .u32 1899447441), .lit (.int .u32 3049323471), .lit (.int .u32 3921009573), .lit (.int .u32 961987163), .lit (.int .u32 1508970993), .lit (.int .u32 2453635748), .lit (.int .u32 2870763221), .lit (.int .u32 3624381080), .lit (.int .u32 310598401), .lit (.int .u32 607225278), .lit (.int .u32 1426881987), .lit (.int .u32 1925078388), .lit (.int .u32 2162078206), .lit (.int .u32 2614888103), .lit (.int .u32 3248222580), .lit (.int .u32 3835390401), .lit (.int .u32 4022224774), .lit (.int .u32 264347078), .lit (.int .u32 604807628), .lit (.int .u32 770255983), .lit (.int .u32 1249150122), .lit (.int .u32 1555081692), .lit (.int .u32 1996064986), .lit (.int .u32 2554220882), .lit (.int .u32 2821834349), .lit (.int .u32 2952996808), .lit (.int .u32 3210313671), .lit (.int .u32 3336571891), .lit (.int .u32 3584528711), .lit (.int .u32 113926993), .lit (.int .u32 338241895), .lit (.int .u32 666307205), .lit (.int .u32 773529912), .lit (.int .u32 1294757372), .lit (.int .u32 1396182291), .lit (.int .u32 1695183700), .lit (.int .u32 1986661051), .lit (.int .u32 2177026350), .lit (.int .u32 2456956037), .lit (.int .u32 2730485921), .lit (.int .u32 2820302411), .lit (.int .u32 3259730800), .lit (.int .u32 3345764771), .lit (.int .u32 3516065817), .lit (.int .u32 3600352804), .lit (.int .u32 4094571909), .lit (.int .u32 275423344), .lit (.int .u32 430227734), .lit (.int .u32 506948616), .lit (.int .u32 659060556), .lit (.int .u32 883997877), .lit (.int .u32 958139571), .lit (.int .u32 1322822218), .lit (.int .u32 1537002063), .lit (.int .u32 1747873779), .lit (.int .u32 1955562222), .lit (.int .u32 2024104815), .lit (.int .u32 2227730452), .lit (.int .u32 2361852424), .lit (.int .u32 2428436474), .lit (.int .u32 2756734187), .lit (.int .u32 3204031479), .lit (.int .u32 3329325298)]

/-- 'indenturelaw9.KeysAll': WHATEVER THE INPUT: true; the input reads as it did. -/
def keysAllSpec : ChangeSpec := { name := "keysAll", fn := fun _ => fun
  | [d1, d2, d3] => { results := [.lit (.bool true)], args := [d1, d2, d3] }
  | _ => none }
def keysAllRow : OpenClaim := { program := "ytijncclcdkgaoaadoor", sum := "5e504b6cbbb9643fd811845305de27b85f0910e1e0e6c88ee9cf773eac938db6", func := "indenture/indenturelaw9.KeysAll", spec := "keysAll", named := ["indenture/sha.first", "indenture/sha.rounds", "indenture/pad.sizes"], plainKeys := false, apart := false, laid := [("indenture/pad.sizes", laid_indenture_pad_sizes), ("indenture/sha.first", laid_indenture_sha_first), ("indenture/sha.rounds", laid_indenture_sha_rounds)] }
def KeysAllSaid : Prop := keysAllRow.holds Tryd.pinned (OpenSpec.ofChange keysAllSpec)

/-- ITS FALSE NEIGHBOUR: 'it returns false'. Refute it at one input. -/
def keysAllWrong : ChangeSpec := { name := "keysAll", fn := fun _ => fun
  | [d1, d2, d3] => { results := [.lit (.bool false)], args := [d1, d2, d3] }
  | _ => none }
def KeysAllWrongFalsely : Prop := keysAllRow.holds Tryd.pinned (OpenSpec.ofChange keysAllWrong)

/-- 'indenturelaw9.PadAll': WHATEVER THE INPUT: true; the input reads as it did. -/
def padAllSpec : ChangeSpec := { name := "padAll", fn := fun _ => fun
  | [d1, d2] => { results := [.lit (.bool true)], args := [d1, d2] }
  | _ => none }
def padAllRow : OpenClaim := { program := "ytijncclcdkgaoaadoor", sum := "5e504b6cbbb9643fd811845305de27b85f0910e1e0e6c88ee9cf773eac938db6", func := "indenture/indenturelaw9.PadAll", spec := "padAll", named := ["indenture/sha.first", "indenture/sha.rounds", "indenture/pad.sizes"], plainKeys := false, apart := false, laid := [("indenture/pad.sizes", laid_indenture_pad_sizes), ("indenture/sha.first", laid_indenture_sha_first), ("indenture/sha.rounds", laid_indenture_sha_rounds)] }
def PadAllSaid : Prop := padAllRow.holds Tryd.pinned (OpenSpec.ofChange padAllSpec)

/-- ITS FALSE NEIGHBOUR: 'it returns false'. Refute it at one input. -/
def padAllWrong : ChangeSpec := { name := "padAll", fn := fun _ => fun
  | [d1, d2] => { results := [.lit (.bool false)], args := [d1, d2] }
  | _ => none }
def PadAllWrongFalsely : Prop := padAllRow.holds Tryd.pinned (OpenSpec.ofChange padAllWrong)

/-- 'indenturelaw9.PadAny': WHATEVER THE INPUT: true; the input reads as it did. -/
def padAnySpec : ChangeSpec := { name := "padAny", fn := fun _ => fun
  | [d1, d2, d3, d4] => { results := [.lit (.bool true)], args := [d1, d2, d3, d4] }
  | _ => none }
def padAnyRow : OpenClaim := { program := "ytijncclcdkgaoaadoor", sum := "5e504b6cbbb9643fd811845305de27b85f0910e1e0e6c88ee9cf773eac938db6", func := "indenture/indenturelaw9.PadAny", spec := "padAny", named := ["indenture/sha.first", "indenture/sha.rounds", "indenture/pad.sizes"], plainKeys := false, apart := false, laid := [("indenture/pad.sizes", laid_indenture_pad_sizes), ("indenture/sha.first", laid_indenture_sha_first), ("indenture/sha.rounds", laid_indenture_sha_rounds)] }
def PadAnySaid : Prop := padAnyRow.holds Tryd.pinned (OpenSpec.ofChange padAnySpec)

/-- ITS FALSE NEIGHBOUR: 'it returns false'. Refute it at one input. -/
def padAnyWrong : ChangeSpec := { name := "padAny", fn := fun _ => fun
  | [d1, d2, d3, d4] => { results := [.lit (.bool false)], args := [d1, d2, d3, d4] }
  | _ => none }
def PadAnyWrongFalsely : Prop := padAnyRow.holds Tryd.pinned (OpenSpec.ofChange padAnyWrong)

/-- 'indenturelaw9.PadAlike': WHATEVER THE INPUT: true; the input reads as it did. -/
def padAlikeSpec : ChangeSpec := { name := "padAlike", fn := fun _ => fun
  | [d1, d2] => { results := [.lit (.bool true)], args := [d1, d2] }
  | _ => none }
def padAlikeRow : OpenClaim := { program := "ytijncclcdkgaoaadoor", sum := "5e504b6cbbb9643fd811845305de27b85f0910e1e0e6c88ee9cf773eac938db6", func := "indenture/indenturelaw9.PadAlike", spec := "padAlike", named := ["indenture/sha.first", "indenture/sha.rounds", "indenture/pad.sizes"], plainKeys := false, apart := false, laid := [("indenture/pad.sizes", laid_indenture_pad_sizes), ("indenture/sha.first", laid_indenture_sha_first), ("indenture/sha.rounds", laid_indenture_sha_rounds)] }
def PadAlikeSaid : Prop := padAlikeRow.holds Tryd.pinned (OpenSpec.ofChange padAlikeSpec)

/-- ITS FALSE NEIGHBOUR: 'it returns false'. Refute it at one input. -/
def padAlikeWrong : ChangeSpec := { name := "padAlike", fn := fun _ => fun
  | [d1, d2] => { results := [.lit (.bool false)], args := [d1, d2] }
  | _ => none }
def PadAlikeWrongFalsely : Prop := padAlikeRow.holds Tryd.pinned (OpenSpec.ofChange padAlikeWrong)

/-- 'indenturelaw9.RecShape': WHATEVER THE INPUT: true; the input reads as it did. -/
def recShapeSpec : ChangeSpec := { name := "recShape", fn := fun _ => fun
  | [d1, d2, d3] => { results := [.lit (.bool true)], args := [d1, d2, d3] }
  | _ => none }
def recShapeRow : OpenClaim := { program := "ytijncclcdkgaoaadoor", sum := "5e504b6cbbb9643fd811845305de27b85f0910e1e0e6c88ee9cf773eac938db6", func := "indenture/indenturelaw9.RecShape", spec := "recShape", named := ["indenture/sha.first", "indenture/sha.rounds", "indenture/pad.sizes"], plainKeys := false, apart := false, laid := [("indenture/pad.sizes", laid_indenture_pad_sizes), ("indenture/sha.first", laid_indenture_sha_first), ("indenture/sha.rounds", laid_indenture_sha_rounds)] }
def RecShapeSaid : Prop := recShapeRow.holds Tryd.pinned (OpenSpec.ofChange recShapeSpec)

/-- ITS FALSE NEIGHBOUR: 'it returns false'. Refute it at one input. -/
def recShapeWrong : ChangeSpec := { name := "recShape", fn := fun _ => fun
  | [d1, d2, d3] => { results := [.lit (.bool false)], args := [d1, d2, d3] }
  | _ => none }
def RecShapeWrongFalsely : Prop := recShapeRow.holds Tryd.pinned (OpenSpec.ofChange recShapeWrong)

/-- 'indenturelaw9.KeysUnlike': WHATEVER THE INPUT: true; the input reads as it did. -/
def keysUnlikeSpec : ChangeSpec := { name := "keysUnlike", fn := fun _ => fun
  | [d1, d2, d3, d4] => { results := [.lit (.bool true)], args := [d1, d2, d3, d4] }
  | _ => none }
def keysUnlikeRow : OpenClaim := { program := "ytijncclcdkgaoaadoor", sum := "5e504b6cbbb9643fd811845305de27b85f0910e1e0e6c88ee9cf773eac938db6", func := "indenture/indenturelaw9.KeysUnlike", spec := "keysUnlike", named := ["indenture/sha.first", "indenture/sha.rounds", "indenture/pad.sizes"], plainKeys := false, apart := false, laid := [("indenture/pad.sizes", laid_indenture_pad_sizes), ("indenture/sha.first", laid_indenture_sha_first), ("indenture/sha.rounds", laid_indenture_sha_rounds)] }
def KeysUnlikeSaid : Prop := keysUnlikeRow.holds Tryd.pinned (OpenSpec.ofChange keysUnlikeSpec)

/-- ITS FALSE NEIGHBOUR: 'it returns false'. Refute it at one input. -/
def keysUnlikeWrong : ChangeSpec := { name := "keysUnlike", fn := fun _ => fun
  | [d1, d2, d3, d4] => { results := [.lit (.bool false)], args := [d1, d2, d3, d4] }
  | _ => none }
def KeysUnlikeWrongFalsely : Prop := keysUnlikeRow.holds Tryd.pinned (OpenSpec.ofChange keysUnlikeWrong)

/-- 'indenturelaw9.PadEdges': WHATEVER THE INPUT: true; the input reads as it did. -/
def padEdgesSpec : ChangeSpec := { name := "padEdges", fn := fun _ => fun
  | [d1, d2, d3] => { results := [.lit (.bool true)], args := [d1, d2, d3] }
  | _ => none }
def padEdgesRow : OpenClaim := { program := "ytijncclcdkgaoaadoor", sum := "5e504b6cbbb9643fd811845305de27b85f0910e1e0e6c88ee9cf773eac938db6", func := "indenture/indenturelaw9.PadEdges", spec := "padEdges", named := ["indenture/sha.first", "indenture/sha.rounds", "indenture/pad.sizes"], plainKeys := false, apart := false, laid := [("indenture/pad.sizes", laid_indenture_pad_sizes), ("indenture/sha.first", laid_indenture_sha_first), ("indenture/sha.rounds", laid_indenture_sha_rounds)] }
def PadEdgesSaid : Prop := padEdgesRow.holds Tryd.pinned (OpenSpec.ofChange padEdgesSpec)

/-- ITS FALSE NEIGHBOUR: 'it returns false'. Refute it at one input. -/
def padEdgesWrong : ChangeSpec := { name := "padEdges", fn := fun _ => fun
  | [d1, d2, d3] => { results := [.lit (.bool false)], args := [d1, d2, d3] }
  | _ => none }
def PadEdgesWrongFalsely : Prop := padEdgesRow.holds Tryd.pinned (OpenSpec.ofChange padEdgesWrong)

/-- 'indenturelaw9.RecVers': WHATEVER THE INPUT: true; the input reads as it did. -/
def recVersSpec : ChangeSpec := { name := "recVers", fn := fun _ => fun
  | [d1, d2, d3] => { results := [.lit (.bool true)], args := [d1, d2, d3] }
  | _ => none }
def recVersRow : OpenClaim := { program := "ytijncclcdkgaoaadoor", sum := "5e504b6cbbb9643fd811845305de27b85f0910e1e0e6c88ee9cf773eac938db6", func := "indenture/indenturelaw9.RecVers", spec := "recVers", named := ["indenture/sha.first", "indenture/sha.rounds", "indenture/pad.sizes"], plainKeys := false, apart := false, laid := [("indenture/pad.sizes", laid_indenture_pad_sizes), ("indenture/sha.first", laid_indenture_sha_first), ("indenture/sha.rounds", laid_indenture_sha_rounds)] }
def RecVersSaid : Prop := recVersRow.holds Tryd.pinned (OpenSpec.ofChange recVersSpec)

/-- ITS FALSE NEIGHBOUR: 'it returns false'. Refute it at one input. -/
def recVersWrong : ChangeSpec := { name := "recVers", fn := fun _ => fun
  | [d1, d2, d3] => { results := [.lit (.bool false)], args := [d1, d2, d3] }
  | _ => none }
def RecVersWrongFalsely : Prop := recVersRow.holds Tryd.pinned (OpenSpec.ofChange recVersWrong)

/-- 'indenturelaw9.RecEpochs': WHATEVER THE INPUT: true; the input reads as it did. -/
def recEpochsSpec : ChangeSpec := { name := "recEpochs", fn := fun _ => fun
  | [d1, d2, d3, d4, d5] => { results := [.lit (.bool true)], args := [d1, d2, d3, d4, d5] }
  | _ => none }
def recEpochsRow : OpenClaim := { program := "ytijncclcdkgaoaadoor", sum := "5e504b6cbbb9643fd811845305de27b85f0910e1e0e6c88ee9cf773eac938db6", func := "indenture/indenturelaw9.RecEpochs", spec := "recEpochs", named := ["indenture/sha.first", "indenture/sha.rounds", "indenture/pad.sizes"], plainKeys := false, apart := false, laid := [("indenture/pad.sizes", laid_indenture_pad_sizes), ("indenture/sha.first", laid_indenture_sha_first), ("indenture/sha.rounds", laid_indenture_sha_rounds)] }
def RecEpochsSaid : Prop := recEpochsRow.holds Tryd.pinned (OpenSpec.ofChange recEpochsSpec)

/-- ITS FALSE NEIGHBOUR: 'it returns false'. Refute it at one input. -/
def recEpochsWrong : ChangeSpec := { name := "recEpochs", fn := fun _ => fun
  | [d1, d2, d3, d4, d5] => { results := [.lit (.bool false)], args := [d1, d2, d3, d4, d5] }
  | _ => none }
def RecEpochsWrongFalsely : Prop := recEpochsRow.holds Tryd.pinned (OpenSpec.ofChange recEpochsWrong)

/- THE SECOND FORM. 'bulk': how many values and letters a reading holds, each counted each time it is reached (what is shared counts as often as it is met; a slice's spare places count too). A statement '..UptoSaid' is the law's where the arguments, and the package variables that the reading takes, are together of bulk at most 1048576: NARROWER than '..Said'. Prove '..Said' where nothing that the law and all that it calls make is longer than what came in: it says more and counts as full. Else prove '..UptoSaid'. A law counts once. -/
mutual
def uptoBulk {H : Type} : DataW H → Nat
  | .lit (.string bytes) => bytes.length + 1
  | .lit _ => 1
  | .nil => 1
  | .ptr d => uptoBulk d + 1
  | .slice elems spare => uptoBulkAll elems + uptoBulkAll spare + 1
  | .agg parts => uptoBulkAll parts + 1
  | .iface _ d => uptoBulk d + 1
  | .map entries => uptoBulkEntries entries + 1
  | .held _ => 1
def uptoBulkAll {H : Type} : List (DataW H) → Nat
  | [] => 0
  | d :: r => uptoBulk d + uptoBulkAll r
def uptoBulkEntries {H : Type} : List (Lit × DataW H) → Nat
  | [] => 0
  | x :: r => uptoBulkEntry x + uptoBulkEntries r
def uptoBulkEntry {H : Type} : Lit × DataW H → Nat
  | (.string bytes, d) => bytes.length + uptoBulk d + 1
  | (_, d) => uptoBulk d + 1
 end
def uptoSmall : (H : Type) → List (DataW H) → Bool := fun _ ds => decide (uptoBulkAll ds ≤ 1048576)
def OpenSpec.upto (s : _root_.Go.ChangeSpec) : _root_.Go.OpenSpec := { _root_.Go.OpenSpec.ofChange s with cond := some uptoSmall }

/-- 'indenturelaw9.KeysAll', WHERE WHAT IT READS IS OF BULK AT MOST 1048576: true; the input reads as it did. -/
def keysAllUptoRow : OpenClaim := { program := "ytijncclcdkgaoaadoor", sum := "5e504b6cbbb9643fd811845305de27b85f0910e1e0e6c88ee9cf773eac938db6", func := "indenture/indenturelaw9.KeysAll", spec := "keysAll", named := ["indenture/sha.first", "indenture/sha.rounds", "indenture/pad.sizes"], plainKeys := false, apart := false, laid := [("indenture/pad.sizes", laid_indenture_pad_sizes), ("indenture/sha.first", laid_indenture_sha_first), ("indenture/sha.rounds", laid_indenture_sha_rounds)], narrowed := true }
def KeysAllUptoSaid : Prop := keysAllUptoRow.holds Tryd.pinned (OpenSpec.upto keysAllSpec)

/-- 'indenturelaw9.PadAll', WHERE WHAT IT READS IS OF BULK AT MOST 1048576: true; the input reads as it did. -/
def padAllUptoRow : OpenClaim := { program := "ytijncclcdkgaoaadoor", sum := "5e504b6cbbb9643fd811845305de27b85f0910e1e0e6c88ee9cf773eac938db6", func := "indenture/indenturelaw9.PadAll", spec := "padAll", named := ["indenture/sha.first", "indenture/sha.rounds", "indenture/pad.sizes"], plainKeys := false, apart := false, laid := [("indenture/pad.sizes", laid_indenture_pad_sizes), ("indenture/sha.first", laid_indenture_sha_first), ("indenture/sha.rounds", laid_indenture_sha_rounds)], narrowed := true }
def PadAllUptoSaid : Prop := padAllUptoRow.holds Tryd.pinned (OpenSpec.upto padAllSpec)

/-- 'indenturelaw9.PadAny', WHERE WHAT IT READS IS OF BULK AT MOST 1048576: true; the input reads as it did. -/
def padAnyUptoRow : OpenClaim := { program := "ytijncclcdkgaoaadoor", sum := "5e504b6cbbb9643fd811845305de27b85f0910e1e0e6c88ee9cf773eac938db6", func := "indenture/indenturelaw9.PadAny", spec := "padAny", named := ["indenture/sha.first", "indenture/sha.rounds", "indenture/pad.sizes"], plainKeys := false, apart := false, laid := [("indenture/pad.sizes", laid_indenture_pad_sizes), ("indenture/sha.first", laid_indenture_sha_first), ("indenture/sha.rounds", laid_indenture_sha_rounds)], narrowed := true }
def PadAnyUptoSaid : Prop := padAnyUptoRow.holds Tryd.pinned (OpenSpec.upto padAnySpec)

/-- 'indenturelaw9.PadAlike', WHERE WHAT IT READS IS OF BULK AT MOST 1048576: true; the input reads as it did. -/
def padAlikeUptoRow : OpenClaim := { program := "ytijncclcdkgaoaadoor", sum := "5e504b6cbbb9643fd811845305de27b85f0910e1e0e6c88ee9cf773eac938db6", func := "indenture/indenturelaw9.PadAlike", spec := "padAlike", named := ["indenture/sha.first", "indenture/sha.rounds", "indenture/pad.sizes"], plainKeys := false, apart := false, laid := [("indenture/pad.sizes", laid_indenture_pad_sizes), ("indenture/sha.first", laid_indenture_sha_first), ("indenture/sha.rounds", laid_indenture_sha_rounds)], narrowed := true }
def PadAlikeUptoSaid : Prop := padAlikeUptoRow.holds Tryd.pinned (OpenSpec.upto padAlikeSpec)

/-- 'indenturelaw9.RecShape', WHERE WHAT IT READS IS OF BULK AT MOST 1048576: true; the input reads as it did. -/
def recShapeUptoRow : OpenClaim := { program := "ytijncclcdkgaoaadoor", sum := "5e504b6cbbb9643fd811845305de27b85f0910e1e0e6c88ee9cf773eac938db6", func := "indenture/indenturelaw9.RecShape", spec := "recShape", named := ["indenture/sha.first", "indenture/sha.rounds", "indenture/pad.sizes"], plainKeys := false, apart := false, laid := [("indenture/pad.sizes", laid_indenture_pad_sizes), ("indenture/sha.first", laid_indenture_sha_first), ("indenture/sha.rounds", laid_indenture_sha_rounds)], narrowed := true }
def RecShapeUptoSaid : Prop := recShapeUptoRow.holds Tryd.pinned (OpenSpec.upto recShapeSpec)

/-- 'indenturelaw9.KeysUnlike', WHERE WHAT IT READS IS OF BULK AT MOST 1048576: true; the input reads as it did. -/
def keysUnlikeUptoRow : OpenClaim := { program := "ytijncclcdkgaoaadoor", sum := "5e504b6cbbb9643fd811845305de27b85f0910e1e0e6c88ee9cf773eac938db6", func := "indenture/indenturelaw9.KeysUnlike", spec := "keysUnlike", named := ["indenture/sha.first", "indenture/sha.rounds", "indenture/pad.sizes"], plainKeys := false, apart := false, laid := [("indenture/pad.sizes", laid_indenture_pad_sizes), ("indenture/sha.first", laid_indenture_sha_first), ("indenture/sha.rounds", laid_indenture_sha_rounds)], narrowed := true }
def KeysUnlikeUptoSaid : Prop := keysUnlikeUptoRow.holds Tryd.pinned (OpenSpec.upto keysUnlikeSpec)

/-- 'indenturelaw9.PadEdges', WHERE WHAT IT READS IS OF BULK AT MOST 1048576: true; the input reads as it did. -/
def padEdgesUptoRow : OpenClaim := { program := "ytijncclcdkgaoaadoor", sum := "5e504b6cbbb9643fd811845305de27b85f0910e1e0e6c88ee9cf773eac938db6", func := "indenture/indenturelaw9.PadEdges", spec := "padEdges", named := ["indenture/sha.first", "indenture/sha.rounds", "indenture/pad.sizes"], plainKeys := false, apart := false, laid := [("indenture/pad.sizes", laid_indenture_pad_sizes), ("indenture/sha.first", laid_indenture_sha_first), ("indenture/sha.rounds", laid_indenture_sha_rounds)], narrowed := true }
def PadEdgesUptoSaid : Prop := padEdgesUptoRow.holds Tryd.pinned (OpenSpec.upto padEdgesSpec)

/-- 'indenturelaw9.RecVers', WHERE WHAT IT READS IS OF BULK AT MOST 1048576: true; the input reads as it did. -/
def recVersUptoRow : OpenClaim := { program := "ytijncclcdkgaoaadoor", sum := "5e504b6cbbb9643fd811845305de27b85f0910e1e0e6c88ee9cf773eac938db6", func := "indenture/indenturelaw9.RecVers", spec := "recVers", named := ["indenture/sha.first", "indenture/sha.rounds", "indenture/pad.sizes"], plainKeys := false, apart := false, laid := [("indenture/pad.sizes", laid_indenture_pad_sizes), ("indenture/sha.first", laid_indenture_sha_first), ("indenture/sha.rounds", laid_indenture_sha_rounds)], narrowed := true }
def RecVersUptoSaid : Prop := recVersUptoRow.holds Tryd.pinned (OpenSpec.upto recVersSpec)

/-- 'indenturelaw9.RecEpochs', WHERE WHAT IT READS IS OF BULK AT MOST 1048576: true; the input reads as it did. -/
def recEpochsUptoRow : OpenClaim := { program := "ytijncclcdkgaoaadoor", sum := "5e504b6cbbb9643fd811845305de27b85f0910e1e0e6c88ee9cf773eac938db6", func := "indenture/indenturelaw9.RecEpochs", spec := "recEpochs", named := ["indenture/sha.first", "indenture/sha.rounds", "indenture/pad.sizes"], plainKeys := false, apart := false, laid := [("indenture/pad.sizes", laid_indenture_pad_sizes), ("indenture/sha.first", laid_indenture_sha_first), ("indenture/sha.rounds", laid_indenture_sha_rounds)], narrowed := true }
def RecEpochsUptoSaid : Prop := recEpochsUptoRow.holds Tryd.pinned (OpenSpec.upto recEpochsSpec)

end Rows
end Go.Proofs.YtijncclcdkgaoaaDoor
