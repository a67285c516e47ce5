/-
  No cell of these rows narrows 'for every input' (looked for: loops, veiled, ifaces, maps, wideKeys, modest, calm, conditions, laid).
  DERIVED. THE GIVEN ROWS OF THIS SEAT. 12 by the template 'for every input the law returns true; each argument reads behind the call as it read before'; 0 by the template 'total and deterministic' (their statements: YtppalpibogccnabTotals.lean).
  GIVEN WITH THE SEED: the statements are not yours to turn. If you find one false, say at which input.
  Laid BY PROGRAM, IN A SANDBOX (cutbox-rows.mjs): the forced cells as the released guide's own fill.sh prints them over the translation f672bed00901c8f0… (all of the seat's roots in one cut). By AI agents, Wed Nov 11 2026. No macro, syntax, notation, axiom, sorry.
-/
import Derived.Test.YtppalpibogccnabChecked
import GoSem.Claim
import GoSem.ClaimJoined
import GoSem.ClaimMapViews
import Derived.JoinedTies
import Derived.KernelRfl
namespace Go.Proofs.Ytppalpibogccnab
/- THE CELL 'sum', in the pinned program and in every row, IS THE sha256 OF THE DUMP (.gsa) THAT YtppalpibogccnabProg.lean LOADS. Nothing in Lean hashes anything: it is a label: what it is worth is what the hold of that sum in a sandbox is worth. -/
noncomputable def Try.pinned : Pinned := { name := "ytppalpibogccnab", sum := "f672bed00901c8f000c81f1b673760dd4b1b5fb9cb17165a0b1207b6b86f8f65", checked := Try.checked }
namespace Rows
def none {H : Type} : Left H := { results := [], args := [] }

/-- 'laws.FnExactMixPictures': WHATEVER THE INPUT: true; the input reads as it did. -/
def fnExactMixPicturesSpec : ChangeSpec := { name := "fnExactMixPictures", fn := fun _ => fun
  | [d1, d2, d3] => { results := [.lit (.bool true)], args := [d1, d2, d3] }
  | _ => none }
def fnExactMixPicturesRow : OpenClaim := { program := "ytppalpibogccnab", sum := "f672bed00901c8f000c81f1b673760dd4b1b5fb9cb17165a0b1207b6b86f8f65", func := "loop.example/g01308/laws.FnExactMixPictures", spec := "fnExactMixPictures", inPlace := ["math.Float64bits", "math.Float64frombits"], unfollowed := true, recurses := true, apart := false }
def FnExactMixPicturesSaid : Prop := fnExactMixPicturesRow.holds Try.pinned (OpenSpec.ofChange fnExactMixPicturesSpec)

/-- ITS FALSE NEIGHBOUR: 'it returns false'. Refute it at one input. -/
def fnExactMixPicturesWrong : ChangeSpec := { name := "fnExactMixPictures", fn := fun _ => fun
  | [d1, d2, d3] => { results := [.lit (.bool false)], args := [d1, d2, d3] }
  | _ => none }
def FnExactMixPicturesWrongFalsely : Prop := fnExactMixPicturesRow.holds Try.pinned (OpenSpec.ofChange fnExactMixPicturesWrong)

/-- 'laws.FnExactClipPicture': WHATEVER THE INPUT: true; the input reads as it did. -/
def fnExactClipPictureSpec : ChangeSpec := { name := "fnExactClipPicture", fn := fun _ => fun
  | [d1, d2, d3] => { results := [.lit (.bool true)], args := [d1, d2, d3] }
  | _ => none }
def fnExactClipPictureRow : OpenClaim := { program := "ytppalpibogccnab", sum := "f672bed00901c8f000c81f1b673760dd4b1b5fb9cb17165a0b1207b6b86f8f65", func := "loop.example/g01308/laws.FnExactClipPicture", spec := "fnExactClipPicture", inPlace := ["math.Float64bits", "math.Float64frombits"], unfollowed := true, recurses := true, apart := false }
def FnExactClipPictureSaid : Prop := fnExactClipPictureRow.holds Try.pinned (OpenSpec.ofChange fnExactClipPictureSpec)

/-- ITS FALSE NEIGHBOUR: 'it returns false'. Refute it at one input. -/
def fnExactClipPictureWrong : ChangeSpec := { name := "fnExactClipPicture", fn := fun _ => fun
  | [d1, d2, d3] => { results := [.lit (.bool false)], args := [d1, d2, d3] }
  | _ => none }
def FnExactClipPictureWrongFalsely : Prop := fnExactClipPictureRow.holds Try.pinned (OpenSpec.ofChange fnExactClipPictureWrong)

/-- 'laws.FnExactMeanLight': WHATEVER THE INPUT: true; the input reads as it did. -/
def fnExactMeanLightSpec : ChangeSpec := { name := "fnExactMeanLight", fn := fun _ => fun
  | [d] => { results := [.lit (.bool true)], args := [d] }
  | _ => none }
def fnExactMeanLightRow : OpenClaim := { program := "ytppalpibogccnab", sum := "f672bed00901c8f000c81f1b673760dd4b1b5fb9cb17165a0b1207b6b86f8f65", func := "loop.example/g01308/laws.FnExactMeanLight", spec := "fnExactMeanLight", inPlace := ["math.Float64bits", "math.Float64frombits"], apart := false }
def FnExactMeanLightSaid : Prop := fnExactMeanLightRow.holds Try.pinned (OpenSpec.ofChange fnExactMeanLightSpec)

/-- ITS FALSE NEIGHBOUR: 'it returns false'. Refute it at one input. -/
def fnExactMeanLightWrong : ChangeSpec := { name := "fnExactMeanLight", fn := fun _ => fun
  | [d] => { results := [.lit (.bool false)], args := [d] }
  | _ => none }
def FnExactMeanLightWrongFalsely : Prop := fnExactMeanLightRow.holds Try.pinned (OpenSpec.ofChange fnExactMeanLightWrong)

/-- 'laws.FnExactRangeOfPicture': WHATEVER THE INPUT: true; the input reads as it did. -/
def fnExactRangeOfPictureSpec : ChangeSpec := { name := "fnExactRangeOfPicture", fn := fun _ => fun
  | [d] => { results := [.lit (.bool true)], args := [d] }
  | _ => none }
def fnExactRangeOfPictureRow : OpenClaim := { program := "ytppalpibogccnab", sum := "f672bed00901c8f000c81f1b673760dd4b1b5fb9cb17165a0b1207b6b86f8f65", func := "loop.example/g01308/laws.FnExactRangeOfPicture", spec := "fnExactRangeOfPicture", inPlace := ["math.Float64bits", "math.Float64frombits"], apart := false }
def FnExactRangeOfPictureSaid : Prop := fnExactRangeOfPictureRow.holds Try.pinned (OpenSpec.ofChange fnExactRangeOfPictureSpec)

/-- ITS FALSE NEIGHBOUR: 'it returns false'. Refute it at one input. -/
def fnExactRangeOfPictureWrong : ChangeSpec := { name := "fnExactRangeOfPicture", fn := fun _ => fun
  | [d] => { results := [.lit (.bool false)], args := [d] }
  | _ => none }
def FnExactRangeOfPictureWrongFalsely : Prop := fnExactRangeOfPictureRow.holds Try.pinned (OpenSpec.ofChange fnExactRangeOfPictureWrong)

/-- 'laws.FnExactHalfOf': WHATEVER THE INPUT: true; the input reads as it did. -/
def fnExactHalfOfSpec : ChangeSpec := { name := "fnExactHalfOf", fn := fun _ => fun
  | [d] => { results := [.lit (.bool true)], args := [d] }
  | _ => none }
def fnExactHalfOfRow : OpenClaim := { program := "ytppalpibogccnab", sum := "f672bed00901c8f000c81f1b673760dd4b1b5fb9cb17165a0b1207b6b86f8f65", func := "loop.example/g01308/laws.FnExactHalfOf", spec := "fnExactHalfOf", inPlace := ["math.Float64bits", "math.Float64frombits", "math.RoundToEven", "math.Float32bits", "math.Float32frombits"], apart := false }
def FnExactHalfOfSaid : Prop := fnExactHalfOfRow.holds Try.pinned (OpenSpec.ofChange fnExactHalfOfSpec)

/-- ITS FALSE NEIGHBOUR: 'it returns false'. Refute it at one input. -/
def fnExactHalfOfWrong : ChangeSpec := { name := "fnExactHalfOf", fn := fun _ => fun
  | [d] => { results := [.lit (.bool false)], args := [d] }
  | _ => none }
def FnExactHalfOfWrongFalsely : Prop := fnExactHalfOfRow.holds Try.pinned (OpenSpec.ofChange fnExactHalfOfWrong)

/-- 'laws.FnExactFromHalf': WHATEVER THE INPUT: true; the input reads as it did. -/
def fnExactFromHalfSpec : ChangeSpec := { name := "fnExactFromHalf", fn := fun _ => fun
  | [d] => { results := [.lit (.bool true)], args := [d] }
  | _ => none }
def fnExactFromHalfRow : OpenClaim := { program := "ytppalpibogccnab", sum := "f672bed00901c8f000c81f1b673760dd4b1b5fb9cb17165a0b1207b6b86f8f65", func := "loop.example/g01308/laws.FnExactFromHalf", spec := "fnExactFromHalf", inPlace := ["math.Float64bits", "math.Float64frombits", "math.Float32frombits"], apart := false }
def FnExactFromHalfSaid : Prop := fnExactFromHalfRow.holds Try.pinned (OpenSpec.ofChange fnExactFromHalfSpec)

/-- ITS FALSE NEIGHBOUR: 'it returns false'. Refute it at one input. -/
def fnExactFromHalfWrong : ChangeSpec := { name := "fnExactFromHalf", fn := fun _ => fun
  | [d] => { results := [.lit (.bool false)], args := [d] }
  | _ => none }
def FnExactFromHalfWrongFalsely : Prop := fnExactFromHalfRow.holds Try.pinned (OpenSpec.ofChange fnExactFromHalfWrong)

/-- 'laws.FnExactHalvedPicture': WHATEVER THE INPUT: true; the input reads as it did. -/
def fnExactHalvedPictureSpec : ChangeSpec := { name := "fnExactHalvedPicture", fn := fun _ => fun
  | [d] => { results := [.lit (.bool true)], args := [d] }
  | _ => none }
def fnExactHalvedPictureRow : OpenClaim := { program := "ytppalpibogccnab", sum := "f672bed00901c8f000c81f1b673760dd4b1b5fb9cb17165a0b1207b6b86f8f65", func := "loop.example/g01308/laws.FnExactHalvedPicture", spec := "fnExactHalvedPicture", inPlace := ["math.Float64bits", "math.Float64frombits", "math.RoundToEven", "math.Float32bits", "math.Float32frombits"], unfollowed := true, recurses := true, apart := false }
def FnExactHalvedPictureSaid : Prop := fnExactHalvedPictureRow.holds Try.pinned (OpenSpec.ofChange fnExactHalvedPictureSpec)

/-- ITS FALSE NEIGHBOUR: 'it returns false'. Refute it at one input. -/
def fnExactHalvedPictureWrong : ChangeSpec := { name := "fnExactHalvedPicture", fn := fun _ => fun
  | [d] => { results := [.lit (.bool false)], args := [d] }
  | _ => none }
def FnExactHalvedPictureWrongFalsely : Prop := fnExactHalvedPictureRow.holds Try.pinned (OpenSpec.ofChange fnExactHalvedPictureWrong)

/-- 'laws.FnExactWorstHalf': WHATEVER THE INPUT: true; the input reads as it did. -/
def fnExactWorstHalfSpec : ChangeSpec := { name := "fnExactWorstHalf", fn := fun _ => fun
  | [d] => { results := [.lit (.bool true)], args := [d] }
  | _ => none }
def fnExactWorstHalfRow : OpenClaim := { program := "ytppalpibogccnab", sum := "f672bed00901c8f000c81f1b673760dd4b1b5fb9cb17165a0b1207b6b86f8f65", func := "loop.example/g01308/laws.FnExactWorstHalf", spec := "fnExactWorstHalf", inPlace := ["math.Float64bits", "math.Float64frombits", "math.RoundToEven", "math.Float32bits", "math.Float32frombits"], unfollowed := true, recurses := true, apart := false }
def FnExactWorstHalfSaid : Prop := fnExactWorstHalfRow.holds Try.pinned (OpenSpec.ofChange fnExactWorstHalfSpec)

/-- ITS FALSE NEIGHBOUR: 'it returns false'. Refute it at one input. -/
def fnExactWorstHalfWrong : ChangeSpec := { name := "fnExactWorstHalf", fn := fun _ => fun
  | [d] => { results := [.lit (.bool false)], args := [d] }
  | _ => none }
def FnExactWorstHalfWrongFalsely : Prop := fnExactWorstHalfRow.holds Try.pinned (OpenSpec.ofChange fnExactWorstHalfWrong)

/-- 'laws.FnExactShareOf': WHATEVER THE INPUT: true; the input reads as it did. -/
def fnExactShareOfSpec : ChangeSpec := { name := "fnExactShareOf", fn := fun _ => fun
  | [d1, d2, d3] => { results := [.lit (.bool true)], args := [d1, d2, d3] }
  | _ => none }
def fnExactShareOfRow : OpenClaim := { program := "ytppalpibogccnab", sum := "f672bed00901c8f000c81f1b673760dd4b1b5fb9cb17165a0b1207b6b86f8f65", func := "loop.example/g01308/laws.FnExactShareOf", spec := "fnExactShareOf", inPlace := ["math.Float64bits", "math.Float64frombits", "math.RoundToEven"], apart := false }
def FnExactShareOfSaid : Prop := fnExactShareOfRow.holds Try.pinned (OpenSpec.ofChange fnExactShareOfSpec)

/-- ITS FALSE NEIGHBOUR: 'it returns false'. Refute it at one input. -/
def fnExactShareOfWrong : ChangeSpec := { name := "fnExactShareOf", fn := fun _ => fun
  | [d1, d2, d3] => { results := [.lit (.bool false)], args := [d1, d2, d3] }
  | _ => none }
def FnExactShareOfWrongFalsely : Prop := fnExactShareOfRow.holds Try.pinned (OpenSpec.ofChange fnExactShareOfWrong)

/-- 'laws.FnExactFromShare': WHATEVER THE INPUT: true; the input reads as it did. -/
def fnExactFromShareSpec : ChangeSpec := { name := "fnExactFromShare", fn := fun _ => fun
  | [d] => { results := [.lit (.bool true)], args := [d] }
  | _ => none }
def fnExactFromShareRow : OpenClaim := { program := "ytppalpibogccnab", sum := "f672bed00901c8f000c81f1b673760dd4b1b5fb9cb17165a0b1207b6b86f8f65", func := "loop.example/g01308/laws.FnExactFromShare", spec := "fnExactFromShare", inPlace := ["math.Float64bits", "math.Float64frombits"], apart := false }
def FnExactFromShareSaid : Prop := fnExactFromShareRow.holds Try.pinned (OpenSpec.ofChange fnExactFromShareSpec)

/-- ITS FALSE NEIGHBOUR: 'it returns false'. Refute it at one input. -/
def fnExactFromShareWrong : ChangeSpec := { name := "fnExactFromShare", fn := fun _ => fun
  | [d] => { results := [.lit (.bool false)], args := [d] }
  | _ => none }
def FnExactFromShareWrongFalsely : Prop := fnExactFromShareRow.holds Try.pinned (OpenSpec.ofChange fnExactFromShareWrong)

/-- 'laws.FnExactLogOf': WHATEVER THE INPUT: true; the input reads as it did. -/
def fnExactLogOfSpec : ChangeSpec := { name := "fnExactLogOf", fn := fun _ => fun
  | [d1, d2, d3] => { results := [.lit (.bool true)], args := [d1, d2, d3] }
  | _ => none }
def fnExactLogOfRow : OpenClaim := { program := "ytppalpibogccnab", sum := "f672bed00901c8f000c81f1b673760dd4b1b5fb9cb17165a0b1207b6b86f8f65", func := "loop.example/g01308/laws.FnExactLogOf", spec := "fnExactLogOf", inPlace := ["math.Float64frombits", "math.Float64bits", "math.RoundToEven", "math.Float32frombits"], apart := false }
def FnExactLogOfSaid : Prop := fnExactLogOfRow.holds Try.pinned (OpenSpec.ofChange fnExactLogOfSpec)

/-- ITS FALSE NEIGHBOUR: 'it returns false'. Refute it at one input. -/
def fnExactLogOfWrong : ChangeSpec := { name := "fnExactLogOf", fn := fun _ => fun
  | [d1, d2, d3] => { results := [.lit (.bool false)], args := [d1, d2, d3] }
  | _ => none }
def FnExactLogOfWrongFalsely : Prop := fnExactLogOfRow.holds Try.pinned (OpenSpec.ofChange fnExactLogOfWrong)

/-- 'laws.FnExactFromLog': WHATEVER THE INPUT: true; the input reads as it did. -/
def fnExactFromLogSpec : ChangeSpec := { name := "fnExactFromLog", fn := fun _ => fun
  | [d1, d2, d3] => { results := [.lit (.bool true)], args := [d1, d2, d3] }
  | _ => none }
def fnExactFromLogRow : OpenClaim := { program := "ytppalpibogccnab", sum := "f672bed00901c8f000c81f1b673760dd4b1b5fb9cb17165a0b1207b6b86f8f65", func := "loop.example/g01308/laws.FnExactFromLog", spec := "fnExactFromLog", inPlace := ["math.Float64frombits", "math.Float64bits"], apart := false }
def FnExactFromLogSaid : Prop := fnExactFromLogRow.holds Try.pinned (OpenSpec.ofChange fnExactFromLogSpec)

/-- ITS FALSE NEIGHBOUR: 'it returns false'. Refute it at one input. -/
def fnExactFromLogWrong : ChangeSpec := { name := "fnExactFromLog", fn := fun _ => fun
  | [d1, d2, d3] => { results := [.lit (.bool false)], args := [d1, d2, d3] }
  | _ => none }
def FnExactFromLogWrongFalsely : Prop := fnExactFromLogRow.holds Try.pinned (OpenSpec.ofChange fnExactFromLogWrong)

/- THE SECOND FORM. 'bulk': how many values and letters a reading holds, each counted each time it is reached (what is shared counts as often as it is met; a slice's spare places count too). A statement '..UptoSaid' is the law's where the arguments, and the package variables that the reading takes, are together of bulk at most 1048576: NARROWER than '..Said'. Prove '..Said' where nothing that the law and all that it calls make is longer than what came in: it says more and counts as full. Else prove '..UptoSaid'. A law counts once. -/
mutual
def uptoBulk {H : Type} : DataW H → Nat
  | .lit (.string bytes) => bytes.length + 1
  | .lit _ => 1
  | .nil => 1
  | .ptr d => uptoBulk d + 1
  | .slice elems spare => uptoBulkAll elems + uptoBulkAll spare + 1
  | .agg parts => uptoBulkAll parts + 1
  | .iface _ d => uptoBulk d + 1
  | .map entries => uptoBulkEntries entries + 1
  | .held _ => 1
def uptoBulkAll {H : Type} : List (DataW H) → Nat
  | [] => 0
  | d :: r => uptoBulk d + uptoBulkAll r
def uptoBulkEntries {H : Type} : List (Lit × DataW H) → Nat
  | [] => 0
  | x :: r => uptoBulkEntry x + uptoBulkEntries r
def uptoBulkEntry {H : Type} : Lit × DataW H → Nat
  | (.string bytes, d) => bytes.length + uptoBulk d + 1
  | (_, d) => uptoBulk d + 1
 end
def uptoSmall : (H : Type) → List (DataW H) → Bool := fun _ ds => decide (uptoBulkAll ds ≤ 1048576)
def OpenSpec.upto (s : _root_.Go.ChangeSpec) : _root_.Go.OpenSpec := { _root_.Go.OpenSpec.ofChange s with cond := some uptoSmall }

/-- 'laws.FnExactMixPictures', WHERE WHAT IT READS IS OF BULK AT MOST 1048576: true; the input reads as it did. -/
def fnExactMixPicturesUptoRow : OpenClaim := { program := "ytppalpibogccnab", sum := "f672bed00901c8f000c81f1b673760dd4b1b5fb9cb17165a0b1207b6b86f8f65", func := "loop.example/g01308/laws.FnExactMixPictures", spec := "fnExactMixPictures", inPlace := ["math.Float64bits", "math.Float64frombits"], unfollowed := true, recurses := true, apart := false, narrowed := true }
def FnExactMixPicturesUptoSaid : Prop := fnExactMixPicturesUptoRow.holds Try.pinned (OpenSpec.upto fnExactMixPicturesSpec)

/-- 'laws.FnExactClipPicture', WHERE WHAT IT READS IS OF BULK AT MOST 1048576: true; the input reads as it did. -/
def fnExactClipPictureUptoRow : OpenClaim := { program := "ytppalpibogccnab", sum := "f672bed00901c8f000c81f1b673760dd4b1b5fb9cb17165a0b1207b6b86f8f65", func := "loop.example/g01308/laws.FnExactClipPicture", spec := "fnExactClipPicture", inPlace := ["math.Float64bits", "math.Float64frombits"], unfollowed := true, recurses := true, apart := false, narrowed := true }
def FnExactClipPictureUptoSaid : Prop := fnExactClipPictureUptoRow.holds Try.pinned (OpenSpec.upto fnExactClipPictureSpec)

/-- 'laws.FnExactMeanLight', WHERE WHAT IT READS IS OF BULK AT MOST 1048576: true; the input reads as it did. -/
def fnExactMeanLightUptoRow : OpenClaim := { program := "ytppalpibogccnab", sum := "f672bed00901c8f000c81f1b673760dd4b1b5fb9cb17165a0b1207b6b86f8f65", func := "loop.example/g01308/laws.FnExactMeanLight", spec := "fnExactMeanLight", inPlace := ["math.Float64bits", "math.Float64frombits"], apart := false, narrowed := true }
def FnExactMeanLightUptoSaid : Prop := fnExactMeanLightUptoRow.holds Try.pinned (OpenSpec.upto fnExactMeanLightSpec)

/-- 'laws.FnExactRangeOfPicture', WHERE WHAT IT READS IS OF BULK AT MOST 1048576: true; the input reads as it did. -/
def fnExactRangeOfPictureUptoRow : OpenClaim := { program := "ytppalpibogccnab", sum := "f672bed00901c8f000c81f1b673760dd4b1b5fb9cb17165a0b1207b6b86f8f65", func := "loop.example/g01308/laws.FnExactRangeOfPicture", spec := "fnExactRangeOfPicture", inPlace := ["math.Float64bits", "math.Float64frombits"], apart := false, narrowed := true }
def FnExactRangeOfPictureUptoSaid : Prop := fnExactRangeOfPictureUptoRow.holds Try.pinned (OpenSpec.upto fnExactRangeOfPictureSpec)

/-- 'laws.FnExactHalfOf', WHERE WHAT IT READS IS OF BULK AT MOST 1048576: true; the input reads as it did. -/
def fnExactHalfOfUptoRow : OpenClaim := { program := "ytppalpibogccnab", sum := "f672bed00901c8f000c81f1b673760dd4b1b5fb9cb17165a0b1207b6b86f8f65", func := "loop.example/g01308/laws.FnExactHalfOf", spec := "fnExactHalfOf", inPlace := ["math.Float64bits", "math.Float64frombits", "math.RoundToEven", "math.Float32bits", "math.Float32frombits"], apart := false, narrowed := true }
def FnExactHalfOfUptoSaid : Prop := fnExactHalfOfUptoRow.holds Try.pinned (OpenSpec.upto fnExactHalfOfSpec)

/-- 'laws.FnExactFromHalf', WHERE WHAT IT READS IS OF BULK AT MOST 1048576: true; the input reads as it did. -/
def fnExactFromHalfUptoRow : OpenClaim := { program := "ytppalpibogccnab", sum := "f672bed00901c8f000c81f1b673760dd4b1b5fb9cb17165a0b1207b6b86f8f65", func := "loop.example/g01308/laws.FnExactFromHalf", spec := "fnExactFromHalf", inPlace := ["math.Float64bits", "math.Float64frombits", "math.Float32frombits"], apart := false, narrowed := true }
def FnExactFromHalfUptoSaid : Prop := fnExactFromHalfUptoRow.holds Try.pinned (OpenSpec.upto fnExactFromHalfSpec)

/-- 'laws.FnExactHalvedPicture', WHERE WHAT IT READS IS OF BULK AT MOST 1048576: true; the input reads as it did. -/
def fnExactHalvedPictureUptoRow : OpenClaim := { program := "ytppalpibogccnab", sum := "f672bed00901c8f000c81f1b673760dd4b1b5fb9cb17165a0b1207b6b86f8f65", func := "loop.example/g01308/laws.FnExactHalvedPicture", spec := "fnExactHalvedPicture", inPlace := ["math.Float64bits", "math.Float64frombits", "math.RoundToEven", "math.Float32bits", "math.Float32frombits"], unfollowed := true, recurses := true, apart := false, narrowed := true }
def FnExactHalvedPictureUptoSaid : Prop := fnExactHalvedPictureUptoRow.holds Try.pinned (OpenSpec.upto fnExactHalvedPictureSpec)

/-- 'laws.FnExactWorstHalf', WHERE WHAT IT READS IS OF BULK AT MOST 1048576: true; the input reads as it did. -/
def fnExactWorstHalfUptoRow : OpenClaim := { program := "ytppalpibogccnab", sum := "f672bed00901c8f000c81f1b673760dd4b1b5fb9cb17165a0b1207b6b86f8f65", func := "loop.example/g01308/laws.FnExactWorstHalf", spec := "fnExactWorstHalf", inPlace := ["math.Float64bits", "math.Float64frombits", "math.RoundToEven", "math.Float32bits", "math.Float32frombits"], unfollowed := true, recurses := true, apart := false, narrowed := true }
def FnExactWorstHalfUptoSaid : Prop := fnExactWorstHalfUptoRow.holds Try.pinned (OpenSpec.upto fnExactWorstHalfSpec)

/-- 'laws.FnExactShareOf', WHERE WHAT IT READS IS OF BULK AT MOST 1048576: true; the input reads as it did. -/
def fnExactShareOfUptoRow : OpenClaim := { program := "ytppalpibogccnab", sum := "f672bed00901c8f000c81f1b673760dd4b1b5fb9cb17165a0b1207b6b86f8f65", func := "loop.example/g01308/laws.FnExactShareOf", spec := "fnExactShareOf", inPlace := ["math.Float64bits", "math.Float64frombits", "math.RoundToEven"], apart := false, narrowed := true }
def FnExactShareOfUptoSaid : Prop := fnExactShareOfUptoRow.holds Try.pinned (OpenSpec.upto fnExactShareOfSpec)

/-- 'laws.FnExactFromShare', WHERE WHAT IT READS IS OF BULK AT MOST 1048576: true; the input reads as it did. -/
def fnExactFromShareUptoRow : OpenClaim := { program := "ytppalpibogccnab", sum := "f672bed00901c8f000c81f1b673760dd4b1b5fb9cb17165a0b1207b6b86f8f65", func := "loop.example/g01308/laws.FnExactFromShare", spec := "fnExactFromShare", inPlace := ["math.Float64bits", "math.Float64frombits"], apart := false, narrowed := true }
def FnExactFromShareUptoSaid : Prop := fnExactFromShareUptoRow.holds Try.pinned (OpenSpec.upto fnExactFromShareSpec)

/-- 'laws.FnExactLogOf', WHERE WHAT IT READS IS OF BULK AT MOST 1048576: true; the input reads as it did. -/
def fnExactLogOfUptoRow : OpenClaim := { program := "ytppalpibogccnab", sum := "f672bed00901c8f000c81f1b673760dd4b1b5fb9cb17165a0b1207b6b86f8f65", func := "loop.example/g01308/laws.FnExactLogOf", spec := "fnExactLogOf", inPlace := ["math.Float64frombits", "math.Float64bits", "math.RoundToEven", "math.Float32frombits"], apart := false, narrowed := true }
def FnExactLogOfUptoSaid : Prop := fnExactLogOfUptoRow.holds Try.pinned (OpenSpec.upto fnExactLogOfSpec)

/-- 'laws.FnExactFromLog', WHERE WHAT IT READS IS OF BULK AT MOST 1048576: true; the input reads as it did. -/
def fnExactFromLogUptoRow : OpenClaim := { program := "ytppalpibogccnab", sum := "f672bed00901c8f000c81f1b673760dd4b1b5fb9cb17165a0b1207b6b86f8f65", func := "loop.example/g01308/laws.FnExactFromLog", spec := "fnExactFromLog", inPlace := ["math.Float64frombits", "math.Float64bits"], apart := false, narrowed := true }
def FnExactFromLogUptoSaid : Prop := fnExactFromLogUptoRow.holds Try.pinned (OpenSpec.upto fnExactFromLogSpec)

end Rows
end Go.Proofs.Ytppalpibogccnab
