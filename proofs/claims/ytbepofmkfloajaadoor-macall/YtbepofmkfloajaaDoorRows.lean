/-
  NARROWER THAN 'FOR EVERY INPUT', by the rows' own cells (each row's printed sentence says how): ShaAll: laid · ShaLong: laid · ShaOwn: laid · ShaNone: laid · MacAll: laid · MacKeys: laid · MacExpand: laid · MacSame: laid · ShaParts: laid · ShaUnlike: laid · MacParts: laid · MacBlocks: laid.
  DERIVED. THE GIVEN ROWS OF THIS SEAT. 12 by the template 'for every input the law returns true; each argument reads behind the call as it read before'; 0 by the template 'total and deterministic' (their statements: YtbepofmkfloajaaDoorTotals.lean).
  GIVEN WITH THE SEED: the statements are not yours to turn. If you find one false, say at which input.
  Laid BY PROGRAM, IN A SANDBOX (cutbox-rows.mjs): the forced cells as the released guide's own fill.sh prints them over the translation ac1947762502a2d2… (all of the seat's roots in one cut). By AI agents, Wed Nov 11 2026. No macro, syntax, notation, axiom, sorry.
-/
import Derived.Test.YtbepofmkfloajaaDoorChecked
import GoSem.Claim
import GoSem.ClaimJoined
import GoSem.ClaimMapViews
import Derived.JoinedTies
import Derived.KernelRfl
namespace Go.Proofs.YtbepofmkfloajaaDoor
/- THE CELL 'sum', in the pinned program and in every row, IS THE sha256 OF THE DUMP (.gsa) THAT YtbepofmkfloajaaDoorProg.lean LOADS. Nothing in Lean hashes anything: it is a label: what it is worth is what the hold of that sum in a sandbox is worth. -/
noncomputable def Tryd.pinned : Pinned := { name := "ytbepofmkfloajaadoor", sum := "ac1947762502a2d2ffa39d1ea711aab4420abb11d82f9c6cddfa51b9802c2d5c", checked := Tryd.checked }
namespace Rows
def none {H : Type} : Left H := { results := [], args := [] }

/- WHAT THE LISTED PACKAGE-LEVEL VARIABLES READ AS WHEN THE CALL BEGINS. Each datum BY PROGRAM (the guide's laid-datum.mjs) off the statement by which the dump's own 'gosem.cut.vars' lays the variable. In a bare row this is a premise. The card (YtbepofmkfloajaaDoorCards.lean) ties it to the program's text. -/
def laid_indenture_sha_first {H : Type} : DataW H := .agg [.lit (.int .u32 1779033703), .lit (.int .u32 3144134277), .lit (.int .u32 1013904242), .lit (.int .u32 2773480762), .lit (.int .u32 1359893119), .lit (.int .u32 2600822924), .lit (.int .u32 528734635), .lit (.int .u32 1541459225)]
def laid_indenture_sha_rounds {H : Type} : DataW H := .agg [.lit (.int .u32 1116352408), .lit (.int .u32 1899447441), .lit (.int .u32 3049323471), .lit (.int .u32 3921009573), .lit (.int .u32 961987163), .lit (.int .u32 1508970993), .lit (.int .u32 2453635748), .lit (.int .u32 2870763221), .lit (.int .u32 3624381080), .lit (.int .u32 310598401), .lit (.int .u32 607225278), .lit (.int .u32 1426881987), .lit (.int .u32 1925078388), .lit (.int .u32 2162078206), .lit (.int .u32 2614888103), .lit (.int .u32 3248222580), .lit (.int .u32 3835390401), .lit (.int .u32 4022224774), .lit (.int .u32 264347078), .lit (.int .u32 604807628), .lit (.int .u32 770255983), .lit (.int .u32 1249150122), .lit (.int .u32 1555081692), .lit (.int .u32 1996064986), .lit (.int .u32 2554220882), .lit (.int .u32 2821834349), .lit (.int .u32 2952996808), .lit (.int .u32 3210313671), .lit (.int .u32 3336571891), .lit (.int .u32 3584528711), .lit (.int .u32 113926993), .lit (.int .u32 338241895), .lit (.int .u32 666307205), .lit (.int .u32 773529912), .lit (.int .u32 1294757372), .lit (.int .u32 1396182291), .lit (.int .u32 1695183700), .lit (.int .u32 1986661051), .lit (.int .u32 2177026350), .lit (.int .u32 2456956037), .lit (.int .u32 2730485921), .lit (.int .u32 2820302411), .lit (.int .u32 3259730800), .lit (.int .u32 3345764771), .lit (.int .u32 3516065817), .lit (.int .u32 3600352804), .lit (.int .u32 4094571909), .lit (.int .u32 275423344), .lit (.int .u32 430227734), .lit (.int .u32 506948616), .lit (.int .u32 659060556), .lit (.int .u32 883997877), .lit (.int .u32 958139571), .lit (.int .u32 1322822218), .lit (.int .u32 1537002063), .lit (.int .u32 1747873779), .lit (.int .u32 1955562222), .lit (.int .u32 2024104815), .lit (.int .u32 2227730452), .lit (.int .u32 2361852424), .lit (.int .u32 2428436474), .lit (.int .u32 2756734187), .lit (.int .u32 3204031479), .lit (.int .u32 3329325298)]

/-- 'indenturelaw3.ShaAll': WHATEVER THE INPUT: true; the input reads as it did. -/
def shaAllSpec : ChangeSpec := { name := "shaAll", fn := fun _ => fun
  | [d1, d2] => { results := [.lit (.bool true)], args := [d1, d2] }
  | _ => none }
def shaAllRow : OpenClaim := { program := "ytbepofmkfloajaadoor", sum := "ac1947762502a2d2ffa39d1ea711aab4420abb11d82f9c6cddfa51b9802c2d5c", func := "indenture/indenturelaw3.ShaAll", spec := "shaAll", named := ["indenture/sha.first", "indenture/sha.rounds"], apart := false, laid := [("indenture/sha.first", laid_indenture_sha_first), ("indenture/sha.rounds", laid_indenture_sha_rounds)] }
def ShaAllSaid : Prop := shaAllRow.holds Tryd.pinned (OpenSpec.ofChange shaAllSpec)

/-- ITS FALSE NEIGHBOUR: 'it returns false'. Refute it at one input. -/
def shaAllWrong : ChangeSpec := { name := "shaAll", fn := fun _ => fun
  | [d1, d2] => { results := [.lit (.bool false)], args := [d1, d2] }
  | _ => none }
def ShaAllWrongFalsely : Prop := shaAllRow.holds Tryd.pinned (OpenSpec.ofChange shaAllWrong)

/-- 'indenturelaw3.ShaLong': WHATEVER THE INPUT: true; the input reads as it did. -/
def shaLongSpec : ChangeSpec := { name := "shaLong", fn := fun _ => fun
  | [d1, d2, d3] => { results := [.lit (.bool true)], args := [d1, d2, d3] }
  | _ => none }
def shaLongRow : OpenClaim := { program := "ytbepofmkfloajaadoor", sum := "ac1947762502a2d2ffa39d1ea711aab4420abb11d82f9c6cddfa51b9802c2d5c", func := "indenture/indenturelaw3.ShaLong", spec := "shaLong", named := ["indenture/sha.first", "indenture/sha.rounds"], apart := false, laid := [("indenture/sha.first", laid_indenture_sha_first), ("indenture/sha.rounds", laid_indenture_sha_rounds)] }
def ShaLongSaid : Prop := shaLongRow.holds Tryd.pinned (OpenSpec.ofChange shaLongSpec)

/-- ITS FALSE NEIGHBOUR: 'it returns false'. Refute it at one input. -/
def shaLongWrong : ChangeSpec := { name := "shaLong", fn := fun _ => fun
  | [d1, d2, d3] => { results := [.lit (.bool false)], args := [d1, d2, d3] }
  | _ => none }
def ShaLongWrongFalsely : Prop := shaLongRow.holds Tryd.pinned (OpenSpec.ofChange shaLongWrong)

/-- 'indenturelaw3.ShaOwn': WHATEVER THE INPUT: true; the input reads as it did. -/
def shaOwnSpec : ChangeSpec := { name := "shaOwn", fn := fun _ => fun
  | [d1, d2] => { results := [.lit (.bool true)], args := [d1, d2] }
  | _ => none }
def shaOwnRow : OpenClaim := { program := "ytbepofmkfloajaadoor", sum := "ac1947762502a2d2ffa39d1ea711aab4420abb11d82f9c6cddfa51b9802c2d5c", func := "indenture/indenturelaw3.ShaOwn", spec := "shaOwn", named := ["indenture/sha.first", "indenture/sha.rounds"], apart := false, laid := [("indenture/sha.first", laid_indenture_sha_first), ("indenture/sha.rounds", laid_indenture_sha_rounds)] }
def ShaOwnSaid : Prop := shaOwnRow.holds Tryd.pinned (OpenSpec.ofChange shaOwnSpec)

/-- ITS FALSE NEIGHBOUR: 'it returns false'. Refute it at one input. -/
def shaOwnWrong : ChangeSpec := { name := "shaOwn", fn := fun _ => fun
  | [d1, d2] => { results := [.lit (.bool false)], args := [d1, d2] }
  | _ => none }
def ShaOwnWrongFalsely : Prop := shaOwnRow.holds Tryd.pinned (OpenSpec.ofChange shaOwnWrong)

/-- 'indenturelaw3.ShaNone': WHATEVER THE INPUT: true; the input reads as it did. -/
def shaNoneSpec : ChangeSpec := { name := "shaNone", fn := fun _ => fun
  | [] => { results := [.lit (.bool true)], args := [] }
  | _ => none }
def shaNoneRow : OpenClaim := { program := "ytbepofmkfloajaadoor", sum := "ac1947762502a2d2ffa39d1ea711aab4420abb11d82f9c6cddfa51b9802c2d5c", func := "indenture/indenturelaw3.ShaNone", spec := "shaNone", named := ["indenture/sha.first", "indenture/sha.rounds"], apart := false, laid := [("indenture/sha.first", laid_indenture_sha_first), ("indenture/sha.rounds", laid_indenture_sha_rounds)] }
def ShaNoneSaid : Prop := shaNoneRow.holds Tryd.pinned (OpenSpec.ofChange shaNoneSpec)

/-- ITS FALSE NEIGHBOUR: 'it returns false'. Refute it at one input. -/
def shaNoneWrong : ChangeSpec := { name := "shaNone", fn := fun _ => fun
  | [] => { results := [.lit (.bool false)], args := [] }
  | _ => none }
def ShaNoneWrongFalsely : Prop := shaNoneRow.holds Tryd.pinned (OpenSpec.ofChange shaNoneWrong)

/-- 'indenturelaw3.MacAll': WHATEVER THE INPUT: true; the input reads as it did. -/
def macAllSpec : ChangeSpec := { name := "macAll", fn := fun _ => fun
  | [d1, d2, d3, d4, d5] => { results := [.lit (.bool true)], args := [d1, d2, d3, d4, d5] }
  | _ => none }
def macAllRow : OpenClaim := { program := "ytbepofmkfloajaadoor", sum := "ac1947762502a2d2ffa39d1ea711aab4420abb11d82f9c6cddfa51b9802c2d5c", func := "indenture/indenturelaw3.MacAll", spec := "macAll", named := ["indenture/sha.first", "indenture/sha.rounds"], apart := false, laid := [("indenture/sha.first", laid_indenture_sha_first), ("indenture/sha.rounds", laid_indenture_sha_rounds)] }
def MacAllSaid : Prop := macAllRow.holds Tryd.pinned (OpenSpec.ofChange macAllSpec)

/-- ITS FALSE NEIGHBOUR: 'it returns false'. Refute it at one input. -/
def macAllWrong : ChangeSpec := { name := "macAll", fn := fun _ => fun
  | [d1, d2, d3, d4, d5] => { results := [.lit (.bool false)], args := [d1, d2, d3, d4, d5] }
  | _ => none }
def MacAllWrongFalsely : Prop := macAllRow.holds Tryd.pinned (OpenSpec.ofChange macAllWrong)

/-- 'indenturelaw3.MacKeys': WHATEVER THE INPUT: true; the input reads as it did. -/
def macKeysSpec : ChangeSpec := { name := "macKeys", fn := fun _ => fun
  | [d1, d2, d3] => { results := [.lit (.bool true)], args := [d1, d2, d3] }
  | _ => none }
def macKeysRow : OpenClaim := { program := "ytbepofmkfloajaadoor", sum := "ac1947762502a2d2ffa39d1ea711aab4420abb11d82f9c6cddfa51b9802c2d5c", func := "indenture/indenturelaw3.MacKeys", spec := "macKeys", named := ["indenture/sha.first", "indenture/sha.rounds"], apart := false, laid := [("indenture/sha.first", laid_indenture_sha_first), ("indenture/sha.rounds", laid_indenture_sha_rounds)] }
def MacKeysSaid : Prop := macKeysRow.holds Tryd.pinned (OpenSpec.ofChange macKeysSpec)

/-- ITS FALSE NEIGHBOUR: 'it returns false'. Refute it at one input. -/
def macKeysWrong : ChangeSpec := { name := "macKeys", fn := fun _ => fun
  | [d1, d2, d3] => { results := [.lit (.bool false)], args := [d1, d2, d3] }
  | _ => none }
def MacKeysWrongFalsely : Prop := macKeysRow.holds Tryd.pinned (OpenSpec.ofChange macKeysWrong)

/-- 'indenturelaw3.MacExpand': WHATEVER THE INPUT: true; the input reads as it did. -/
def macExpandSpec : ChangeSpec := { name := "macExpand", fn := fun _ => fun
  | [d1, d2, d3, d4] => { results := [.lit (.bool true)], args := [d1, d2, d3, d4] }
  | _ => none }
def macExpandRow : OpenClaim := { program := "ytbepofmkfloajaadoor", sum := "ac1947762502a2d2ffa39d1ea711aab4420abb11d82f9c6cddfa51b9802c2d5c", func := "indenture/indenturelaw3.MacExpand", spec := "macExpand", named := ["indenture/sha.first", "indenture/sha.rounds"], apart := false, laid := [("indenture/sha.first", laid_indenture_sha_first), ("indenture/sha.rounds", laid_indenture_sha_rounds)] }
def MacExpandSaid : Prop := macExpandRow.holds Tryd.pinned (OpenSpec.ofChange macExpandSpec)

/-- ITS FALSE NEIGHBOUR: 'it returns false'. Refute it at one input. -/
def macExpandWrong : ChangeSpec := { name := "macExpand", fn := fun _ => fun
  | [d1, d2, d3, d4] => { results := [.lit (.bool false)], args := [d1, d2, d3, d4] }
  | _ => none }
def MacExpandWrongFalsely : Prop := macExpandRow.holds Tryd.pinned (OpenSpec.ofChange macExpandWrong)

/-- 'indenturelaw3.MacSame': WHATEVER THE INPUT: true; the input reads as it did. -/
def macSameSpec : ChangeSpec := { name := "macSame", fn := fun _ => fun
  | [d1, d2, d3, d4] => { results := [.lit (.bool true)], args := [d1, d2, d3, d4] }
  | _ => none }
def macSameRow : OpenClaim := { program := "ytbepofmkfloajaadoor", sum := "ac1947762502a2d2ffa39d1ea711aab4420abb11d82f9c6cddfa51b9802c2d5c", func := "indenture/indenturelaw3.MacSame", spec := "macSame", named := ["indenture/sha.first", "indenture/sha.rounds"], apart := false, laid := [("indenture/sha.first", laid_indenture_sha_first), ("indenture/sha.rounds", laid_indenture_sha_rounds)] }
def MacSameSaid : Prop := macSameRow.holds Tryd.pinned (OpenSpec.ofChange macSameSpec)

/-- ITS FALSE NEIGHBOUR: 'it returns false'. Refute it at one input. -/
def macSameWrong : ChangeSpec := { name := "macSame", fn := fun _ => fun
  | [d1, d2, d3, d4] => { results := [.lit (.bool false)], args := [d1, d2, d3, d4] }
  | _ => none }
def MacSameWrongFalsely : Prop := macSameRow.holds Tryd.pinned (OpenSpec.ofChange macSameWrong)

/-- 'indenturelaw3.ShaParts': WHATEVER THE INPUT: true; the input reads as it did. -/
def shaPartsSpec : ChangeSpec := { name := "shaParts", fn := fun _ => fun
  | [d1, d2] => { results := [.lit (.bool true)], args := [d1, d2] }
  | _ => none }
def shaPartsRow : OpenClaim := { program := "ytbepofmkfloajaadoor", sum := "ac1947762502a2d2ffa39d1ea711aab4420abb11d82f9c6cddfa51b9802c2d5c", func := "indenture/indenturelaw3.ShaParts", spec := "shaParts", named := ["indenture/sha.first", "indenture/sha.rounds"], apart := false, laid := [("indenture/sha.first", laid_indenture_sha_first), ("indenture/sha.rounds", laid_indenture_sha_rounds)] }
def ShaPartsSaid : Prop := shaPartsRow.holds Tryd.pinned (OpenSpec.ofChange shaPartsSpec)

/-- ITS FALSE NEIGHBOUR: 'it returns false'. Refute it at one input. -/
def shaPartsWrong : ChangeSpec := { name := "shaParts", fn := fun _ => fun
  | [d1, d2] => { results := [.lit (.bool false)], args := [d1, d2] }
  | _ => none }
def ShaPartsWrongFalsely : Prop := shaPartsRow.holds Tryd.pinned (OpenSpec.ofChange shaPartsWrong)

/-- 'indenturelaw3.ShaUnlike': WHATEVER THE INPUT: true; the input reads as it did. -/
def shaUnlikeSpec : ChangeSpec := { name := "shaUnlike", fn := fun _ => fun
  | [d1, d2] => { results := [.lit (.bool true)], args := [d1, d2] }
  | _ => none }
def shaUnlikeRow : OpenClaim := { program := "ytbepofmkfloajaadoor", sum := "ac1947762502a2d2ffa39d1ea711aab4420abb11d82f9c6cddfa51b9802c2d5c", func := "indenture/indenturelaw3.ShaUnlike", spec := "shaUnlike", named := ["indenture/sha.first", "indenture/sha.rounds"], apart := false, laid := [("indenture/sha.first", laid_indenture_sha_first), ("indenture/sha.rounds", laid_indenture_sha_rounds)] }
def ShaUnlikeSaid : Prop := shaUnlikeRow.holds Tryd.pinned (OpenSpec.ofChange shaUnlikeSpec)

/-- ITS FALSE NEIGHBOUR: 'it returns false'. Refute it at one input. -/
def shaUnlikeWrong : ChangeSpec := { name := "shaUnlike", fn := fun _ => fun
  | [d1, d2] => { results := [.lit (.bool false)], args := [d1, d2] }
  | _ => none }
def ShaUnlikeWrongFalsely : Prop := shaUnlikeRow.holds Tryd.pinned (OpenSpec.ofChange shaUnlikeWrong)

/-- 'indenturelaw3.MacParts': WHATEVER THE INPUT: true; the input reads as it did. -/
def macPartsSpec : ChangeSpec := { name := "macParts", fn := fun _ => fun
  | [d1, d2, d3] => { results := [.lit (.bool true)], args := [d1, d2, d3] }
  | _ => none }
def macPartsRow : OpenClaim := { program := "ytbepofmkfloajaadoor", sum := "ac1947762502a2d2ffa39d1ea711aab4420abb11d82f9c6cddfa51b9802c2d5c", func := "indenture/indenturelaw3.MacParts", spec := "macParts", named := ["indenture/sha.first", "indenture/sha.rounds"], apart := false, laid := [("indenture/sha.first", laid_indenture_sha_first), ("indenture/sha.rounds", laid_indenture_sha_rounds)] }
def MacPartsSaid : Prop := macPartsRow.holds Tryd.pinned (OpenSpec.ofChange macPartsSpec)

/-- ITS FALSE NEIGHBOUR: 'it returns false'. Refute it at one input. -/
def macPartsWrong : ChangeSpec := { name := "macParts", fn := fun _ => fun
  | [d1, d2, d3] => { results := [.lit (.bool false)], args := [d1, d2, d3] }
  | _ => none }
def MacPartsWrongFalsely : Prop := macPartsRow.holds Tryd.pinned (OpenSpec.ofChange macPartsWrong)

/-- 'indenturelaw3.MacBlocks': WHATEVER THE INPUT: true; the input reads as it did. -/
def macBlocksSpec : ChangeSpec := { name := "macBlocks", fn := fun _ => fun
  | [d1, d2, d3] => { results := [.lit (.bool true)], args := [d1, d2, d3] }
  | _ => none }
def macBlocksRow : OpenClaim := { program := "ytbepofmkfloajaadoor", sum := "ac1947762502a2d2ffa39d1ea711aab4420abb11d82f9c6cddfa51b9802c2d5c", func := "indenture/indenturelaw3.MacBlocks", spec := "macBlocks", named := ["indenture/sha.first", "indenture/sha.rounds"], apart := false, laid := [("indenture/sha.first", laid_indenture_sha_first), ("indenture/sha.rounds", laid_indenture_sha_rounds)] }
def MacBlocksSaid : Prop := macBlocksRow.holds Tryd.pinned (OpenSpec.ofChange macBlocksSpec)

/-- ITS FALSE NEIGHBOUR: 'it returns false'. Refute it at one input. -/
def macBlocksWrong : ChangeSpec := { name := "macBlocks", fn := fun _ => fun
  | [d1, d2, d3] => { results := [.lit (.bool false)], args := [d1, d2, d3] }
  | _ => none }
def MacBlocksWrongFalsely : Prop := macBlocksRow.holds Tryd.pinned (OpenSpec.ofChange macBlocksWrong)

/- THE SECOND FORM. 'bulk': how many values and letters a reading holds, each counted each time it is reached (what is shared counts as often as it is met; a slice's spare places count too). A statement '..UptoSaid' is the law's where the arguments, and the package variables that the reading takes, are together of bulk at most 1048576: NARROWER than '..Said'. Prove '..Said' where nothing that the law and all that it calls make is longer than what came in: it says more and counts as full. Else prove '..UptoSaid'. A law counts once. -/
mutual
def uptoBulk {H : Type} : DataW H → Nat
  | .lit (.string bytes) => bytes.length + 1
  | .lit _ => 1
  | .nil => 1
  | .ptr d => uptoBulk d + 1
  | .slice elems spare => uptoBulkAll elems + uptoBulkAll spare + 1
  | .agg parts => uptoBulkAll parts + 1
  | .iface _ d => uptoBulk d + 1
  | .map entries => uptoBulkEntries entries + 1
  | .held _ => 1
def uptoBulkAll {H : Type} : List (DataW H) → Nat
  | [] => 0
  | d :: r => uptoBulk d + uptoBulkAll r
def uptoBulkEntries {H : Type} : List (Lit × DataW H) → Nat
  | [] => 0
  | x :: r => uptoBulkEntry x + uptoBulkEntries r
def uptoBulkEntry {H : Type} : Lit × DataW H → Nat
  | (.string bytes, d) => bytes.length + uptoBulk d + 1
  | (_, d) => uptoBulk d + 1
 end
def uptoSmall : (H : Type) → List (DataW H) → Bool := fun _ ds => decide (uptoBulkAll ds ≤ 1048576)
def OpenSpec.upto (s : _root_.Go.ChangeSpec) : _root_.Go.OpenSpec := { _root_.Go.OpenSpec.ofChange s with cond := some uptoSmall }

/-- 'indenturelaw3.ShaAll', WHERE WHAT IT READS IS OF BULK AT MOST 1048576: true; the input reads as it did. -/
def shaAllUptoRow : OpenClaim := { program := "ytbepofmkfloajaadoor", sum := "ac1947762502a2d2ffa39d1ea711aab4420abb11d82f9c6cddfa51b9802c2d5c", func := "indenture/indenturelaw3.ShaAll", spec := "shaAll", named := ["indenture/sha.first", "indenture/sha.rounds"], apart := false, laid := [("indenture/sha.first", laid_indenture_sha_first), ("indenture/sha.rounds", laid_indenture_sha_rounds)], narrowed := true }
def ShaAllUptoSaid : Prop := shaAllUptoRow.holds Tryd.pinned (OpenSpec.upto shaAllSpec)

/-- 'indenturelaw3.ShaLong', WHERE WHAT IT READS IS OF BULK AT MOST 1048576: true; the input reads as it did. -/
def shaLongUptoRow : OpenClaim := { program := "ytbepofmkfloajaadoor", sum := "ac1947762502a2d2ffa39d1ea711aab4420abb11d82f9c6cddfa51b9802c2d5c", func := "indenture/indenturelaw3.ShaLong", spec := "shaLong", named := ["indenture/sha.first", "indenture/sha.rounds"], apart := false, laid := [("indenture/sha.first", laid_indenture_sha_first), ("indenture/sha.rounds", laid_indenture_sha_rounds)], narrowed := true }
def ShaLongUptoSaid : Prop := shaLongUptoRow.holds Tryd.pinned (OpenSpec.upto shaLongSpec)

/-- 'indenturelaw3.ShaOwn', WHERE WHAT IT READS IS OF BULK AT MOST 1048576: true; the input reads as it did. -/
def shaOwnUptoRow : OpenClaim := { program := "ytbepofmkfloajaadoor", sum := "ac1947762502a2d2ffa39d1ea711aab4420abb11d82f9c6cddfa51b9802c2d5c", func := "indenture/indenturelaw3.ShaOwn", spec := "shaOwn", named := ["indenture/sha.first", "indenture/sha.rounds"], apart := false, laid := [("indenture/sha.first", laid_indenture_sha_first), ("indenture/sha.rounds", laid_indenture_sha_rounds)], narrowed := true }
def ShaOwnUptoSaid : Prop := shaOwnUptoRow.holds Tryd.pinned (OpenSpec.upto shaOwnSpec)

/-- 'indenturelaw3.ShaNone', WHERE WHAT IT READS IS OF BULK AT MOST 1048576: true; the input reads as it did. -/
def shaNoneUptoRow : OpenClaim := { program := "ytbepofmkfloajaadoor", sum := "ac1947762502a2d2ffa39d1ea711aab4420abb11d82f9c6cddfa51b9802c2d5c", func := "indenture/indenturelaw3.ShaNone", spec := "shaNone", named := ["indenture/sha.first", "indenture/sha.rounds"], apart := false, laid := [("indenture/sha.first", laid_indenture_sha_first), ("indenture/sha.rounds", laid_indenture_sha_rounds)], narrowed := true }
def ShaNoneUptoSaid : Prop := shaNoneUptoRow.holds Tryd.pinned (OpenSpec.upto shaNoneSpec)

/-- 'indenturelaw3.MacAll', WHERE WHAT IT READS IS OF BULK AT MOST 1048576: true; the input reads as it did. -/
def macAllUptoRow : OpenClaim := { program := "ytbepofmkfloajaadoor", sum := "ac1947762502a2d2ffa39d1ea711aab4420abb11d82f9c6cddfa51b9802c2d5c", func := "indenture/indenturelaw3.MacAll", spec := "macAll", named := ["indenture/sha.first", "indenture/sha.rounds"], apart := false, laid := [("indenture/sha.first", laid_indenture_sha_first), ("indenture/sha.rounds", laid_indenture_sha_rounds)], narrowed := true }
def MacAllUptoSaid : Prop := macAllUptoRow.holds Tryd.pinned (OpenSpec.upto macAllSpec)

/-- 'indenturelaw3.MacKeys', WHERE WHAT IT READS IS OF BULK AT MOST 1048576: true; the input reads as it did. -/
def macKeysUptoRow : OpenClaim := { program := "ytbepofmkfloajaadoor", sum := "ac1947762502a2d2ffa39d1ea711aab4420abb11d82f9c6cddfa51b9802c2d5c", func := "indenture/indenturelaw3.MacKeys", spec := "macKeys", named := ["indenture/sha.first", "indenture/sha.rounds"], apart := false, laid := [("indenture/sha.first", laid_indenture_sha_first), ("indenture/sha.rounds", laid_indenture_sha_rounds)], narrowed := true }
def MacKeysUptoSaid : Prop := macKeysUptoRow.holds Tryd.pinned (OpenSpec.upto macKeysSpec)

/-- 'indenturelaw3.MacExpand', WHERE WHAT IT READS IS OF BULK AT MOST 1048576: true; the input reads as it did. -/
def macExpandUptoRow : OpenClaim := { program := "ytbepofmkfloajaadoor", sum := "ac1947762502a2d2ffa39d1ea711aab4420abb11d82f9c6cddfa51b9802c2d5c", func := "indenture/indenturelaw3.MacExpand", spec := "macExpand", named := ["indenture/sha.first", "indenture/sha.rounds"], apart := false, laid := [("indenture/sha.first", laid_indenture_sha_first), ("indenture/sha.rounds", laid_indenture_sha_rounds)], narrowed := true }
def MacExpandUptoSaid : Prop := macExpandUptoRow.holds Tryd.pinned (OpenSpec.upto macExpandSpec)

/-- 'indenturelaw3.MacSame', WHERE WHAT IT READS IS OF BULK AT MOST 1048576: true; the input reads as it did. -/
def macSameUptoRow : OpenClaim := { program := "ytbepofmkfloajaadoor", sum := "ac1947762502a2d2ffa39d1ea711aab4420abb11d82f9c6cddfa51b9802c2d5c", func := "indenture/indenturelaw3.MacSame", spec := "macSame", named := ["indenture/sha.first", "indenture/sha.rounds"], apart := false, laid := [("indenture/sha.first", laid_indenture_sha_first), ("indenture/sha.rounds", laid_indenture_sha_rounds)], narrowed := true }
def MacSameUptoSaid : Prop := macSameUptoRow.holds Tryd.pinned (OpenSpec.upto macSameSpec)

/-- 'indenturelaw3.ShaParts', WHERE WHAT IT READS IS OF BULK AT MOST 1048576: true; the input reads as it did. -/
def shaPartsUptoRow : OpenClaim := { program := "ytbepofmkfloajaadoor", sum := "ac1947762502a2d2ffa39d1ea711aab4420abb11d82f9c6cddfa51b9802c2d5c", func := "indenture/indenturelaw3.ShaParts", spec := "shaParts", named := ["indenture/sha.first", "indenture/sha.rounds"], apart := false, laid := [("indenture/sha.first", laid_indenture_sha_first), ("indenture/sha.rounds", laid_indenture_sha_rounds)], narrowed := true }
def ShaPartsUptoSaid : Prop := shaPartsUptoRow.holds Tryd.pinned (OpenSpec.upto shaPartsSpec)

/-- 'indenturelaw3.ShaUnlike', WHERE WHAT IT READS IS OF BULK AT MOST 1048576: true; the input reads as it did. -/
def shaUnlikeUptoRow : OpenClaim := { program := "ytbepofmkfloajaadoor", sum := "ac1947762502a2d2ffa39d1ea711aab4420abb11d82f9c6cddfa51b9802c2d5c", func := "indenture/indenturelaw3.ShaUnlike", spec := "shaUnlike", named := ["indenture/sha.first", "indenture/sha.rounds"], apart := false, laid := [("indenture/sha.first", laid_indenture_sha_first), ("indenture/sha.rounds", laid_indenture_sha_rounds)], narrowed := true }
def ShaUnlikeUptoSaid : Prop := shaUnlikeUptoRow.holds Tryd.pinned (OpenSpec.upto shaUnlikeSpec)

/-- 'indenturelaw3.MacParts', WHERE WHAT IT READS IS OF BULK AT MOST 1048576: true; the input reads as it did. -/
def macPartsUptoRow : OpenClaim := { program := "ytbepofmkfloajaadoor", sum := "ac1947762502a2d2ffa39d1ea711aab4420abb11d82f9c6cddfa51b9802c2d5c", func := "indenture/indenturelaw3.MacParts", spec := "macParts", named := ["indenture/sha.first", "indenture/sha.rounds"], apart := false, laid := [("indenture/sha.first", laid_indenture_sha_first), ("indenture/sha.rounds", laid_indenture_sha_rounds)], narrowed := true }
def MacPartsUptoSaid : Prop := macPartsUptoRow.holds Tryd.pinned (OpenSpec.upto macPartsSpec)

/-- 'indenturelaw3.MacBlocks', WHERE WHAT IT READS IS OF BULK AT MOST 1048576: true; the input reads as it did. -/
def macBlocksUptoRow : OpenClaim := { program := "ytbepofmkfloajaadoor", sum := "ac1947762502a2d2ffa39d1ea711aab4420abb11d82f9c6cddfa51b9802c2d5c", func := "indenture/indenturelaw3.MacBlocks", spec := "macBlocks", named := ["indenture/sha.first", "indenture/sha.rounds"], apart := false, laid := [("indenture/sha.first", laid_indenture_sha_first), ("indenture/sha.rounds", laid_indenture_sha_rounds)], narrowed := true }
def MacBlocksUptoSaid : Prop := macBlocksUptoRow.holds Tryd.pinned (OpenSpec.upto macBlocksSpec)

end Rows
end Go.Proofs.YtbepofmkfloajaaDoor
