/-
  No cell of these rows narrows 'for every input' (looked for: loops, veiled, ifaces, maps, wideKeys, modest, calm, conditions, laid).
  DERIVED. THE GIVEN ROWS OF THIS SEAT. 12 by the template 'for every input the law returns true; each argument reads behind the call as it read before'; 0 by the template 'total and deterministic' (their statements: YtmngedfibmnohacTotals.lean).
  GIVEN WITH THE SEED: the statements are not yours to turn. If you find one false, say at which input.
  Laid BY PROGRAM, IN A SANDBOX (cutbox-rows.mjs): the forced cells as the released guide's own fill.sh prints them over the translation eb66128668b84237… (all of the seat's roots in one cut). By AI agents, Wed Nov 11 2026. No macro, syntax, notation, axiom, sorry.
-/
import Derived.Test.YtmngedfibmnohacChecked
import GoSem.Claim
import GoSem.ClaimJoined
import GoSem.ClaimMapViews
import Derived.JoinedTies
import Derived.KernelRfl
namespace Go.Proofs.Ytmngedfibmnohac
/- THE CELL 'sum', in the pinned program and in every row, IS THE sha256 OF THE DUMP (.gsa) THAT YtmngedfibmnohacProg.lean LOADS. Nothing in Lean hashes anything: it is a label: what it is worth is what the hold of that sum in a sandbox is worth. -/
noncomputable def Try.pinned : Pinned := { name := "ytmngedfibmnohac", sum := "eb66128668b8423774987280ced4bbd11bffddf4aea190b474a927cb866e0036", checked := Try.checked }
namespace Rows
def none {H : Type} : Left H := { results := [], args := [] }

/-- 'laws.FnExactTurnColor': WHATEVER THE INPUT: true; the input reads as it did. -/
def fnExactTurnColorSpec : ChangeSpec := { name := "fnExactTurnColor", fn := fun _ => fun
  | [d1, d2] => { results := [.lit (.bool true)], args := [d1, d2] }
  | _ => none }
def fnExactTurnColorRow : OpenClaim := { program := "ytmngedfibmnohac", sum := "eb66128668b8423774987280ced4bbd11bffddf4aea190b474a927cb866e0036", func := "loop.example/g01308/laws.FnExactTurnColor", spec := "fnExactTurnColor", inPlace := ["math.Float64bits", "math.Float64frombits"], unfollowed := true, recurses := true, apart := false }
def FnExactTurnColorSaid : Prop := fnExactTurnColorRow.holds Try.pinned (OpenSpec.ofChange fnExactTurnColorSpec)

/-- ITS FALSE NEIGHBOUR: 'it returns false'. Refute it at one input. -/
def fnExactTurnColorWrong : ChangeSpec := { name := "fnExactTurnColor", fn := fun _ => fun
  | [d1, d2] => { results := [.lit (.bool false)], args := [d1, d2] }
  | _ => none }
def FnExactTurnColorWrongFalsely : Prop := fnExactTurnColorRow.holds Try.pinned (OpenSpec.ofChange fnExactTurnColorWrong)

/-- 'laws.FnExactJoinMatrices': WHATEVER THE INPUT: true; the input reads as it did. -/
def fnExactJoinMatricesSpec : ChangeSpec := { name := "fnExactJoinMatrices", fn := fun _ => fun
  | [d1, d2] => { results := [.lit (.bool true)], args := [d1, d2] }
  | _ => none }
def fnExactJoinMatricesRow : OpenClaim := { program := "ytmngedfibmnohac", sum := "eb66128668b8423774987280ced4bbd11bffddf4aea190b474a927cb866e0036", func := "loop.example/g01308/laws.FnExactJoinMatrices", spec := "fnExactJoinMatrices", apart := false }
def FnExactJoinMatricesSaid : Prop := fnExactJoinMatricesRow.holds Try.pinned (OpenSpec.ofChange fnExactJoinMatricesSpec)

/-- ITS FALSE NEIGHBOUR: 'it returns false'. Refute it at one input. -/
def fnExactJoinMatricesWrong : ChangeSpec := { name := "fnExactJoinMatrices", fn := fun _ => fun
  | [d1, d2] => { results := [.lit (.bool false)], args := [d1, d2] }
  | _ => none }
def FnExactJoinMatricesWrongFalsely : Prop := fnExactJoinMatricesRow.holds Try.pinned (OpenSpec.ofChange fnExactJoinMatricesWrong)

/-- 'laws.FnExactBackMatrix': WHATEVER THE INPUT: true; the input reads as it did. -/
def fnExactBackMatrixSpec : ChangeSpec := { name := "fnExactBackMatrix", fn := fun _ => fun
  | [d] => { results := [.lit (.bool true)], args := [d] }
  | _ => none }
def fnExactBackMatrixRow : OpenClaim := { program := "ytmngedfibmnohac", sum := "eb66128668b8423774987280ced4bbd11bffddf4aea190b474a927cb866e0036", func := "loop.example/g01308/laws.FnExactBackMatrix", spec := "fnExactBackMatrix", apart := false }
def FnExactBackMatrixSaid : Prop := fnExactBackMatrixRow.holds Try.pinned (OpenSpec.ofChange fnExactBackMatrixSpec)

/-- ITS FALSE NEIGHBOUR: 'it returns false'. Refute it at one input. -/
def fnExactBackMatrixWrong : ChangeSpec := { name := "fnExactBackMatrix", fn := fun _ => fun
  | [d] => { results := [.lit (.bool false)], args := [d] }
  | _ => none }
def FnExactBackMatrixWrongFalsely : Prop := fnExactBackMatrixRow.holds Try.pinned (OpenSpec.ofChange fnExactBackMatrixWrong)

/-- 'laws.FnExactWhiteMatrix': WHATEVER THE INPUT: true; the input reads as it did. -/
def fnExactWhiteMatrixSpec : ChangeSpec := { name := "fnExactWhiteMatrix", fn := fun _ => fun
  | [d1, d2, d3] => { results := [.lit (.bool true)], args := [d1, d2, d3] }
  | _ => none }
def fnExactWhiteMatrixRow : OpenClaim := { program := "ytmngedfibmnohac", sum := "eb66128668b8423774987280ced4bbd11bffddf4aea190b474a927cb866e0036", func := "loop.example/g01308/laws.FnExactWhiteMatrix", spec := "fnExactWhiteMatrix", inPlace := ["math.Float64bits", "math.Float64frombits"], unfollowed := true, recurses := true, apart := false }
def FnExactWhiteMatrixSaid : Prop := fnExactWhiteMatrixRow.holds Try.pinned (OpenSpec.ofChange fnExactWhiteMatrixSpec)

/-- ITS FALSE NEIGHBOUR: 'it returns false'. Refute it at one input. -/
def fnExactWhiteMatrixWrong : ChangeSpec := { name := "fnExactWhiteMatrix", fn := fun _ => fun
  | [d1, d2, d3] => { results := [.lit (.bool false)], args := [d1, d2, d3] }
  | _ => none }
def FnExactWhiteMatrixWrongFalsely : Prop := fnExactWhiteMatrixRow.holds Try.pinned (OpenSpec.ofChange fnExactWhiteMatrixWrong)

/-- 'laws.FnExactCurvePicture': WHATEVER THE INPUT: true; the input reads as it did. -/
def fnExactCurvePictureSpec : ChangeSpec := { name := "fnExactCurvePicture", fn := fun _ => fun
  | [d1, d2] => { results := [.lit (.bool true)], args := [d1, d2] }
  | _ => none }
def fnExactCurvePictureRow : OpenClaim := { program := "ytmngedfibmnohac", sum := "eb66128668b8423774987280ced4bbd11bffddf4aea190b474a927cb866e0036", func := "loop.example/g01308/laws.FnExactCurvePicture", spec := "fnExactCurvePicture", inPlace := ["math.Float64bits", "math.Float64frombits"], unfollowed := true, recurses := true, apart := false }
def FnExactCurvePictureSaid : Prop := fnExactCurvePictureRow.holds Try.pinned (OpenSpec.ofChange fnExactCurvePictureSpec)

/-- ITS FALSE NEIGHBOUR: 'it returns false'. Refute it at one input. -/
def fnExactCurvePictureWrong : ChangeSpec := { name := "fnExactCurvePicture", fn := fun _ => fun
  | [d1, d2] => { results := [.lit (.bool false)], args := [d1, d2] }
  | _ => none }
def FnExactCurvePictureWrongFalsely : Prop := fnExactCurvePictureRow.holds Try.pinned (OpenSpec.ofChange fnExactCurvePictureWrong)

/-- 'laws.FnExactBackCurve': WHATEVER THE INPUT: true; the input reads as it did. -/
def fnExactBackCurveSpec : ChangeSpec := { name := "fnExactBackCurve", fn := fun _ => fun
  | [d] => { results := [.lit (.bool true)], args := [d] }
  | _ => none }
def fnExactBackCurveRow : OpenClaim := { program := "ytmngedfibmnohac", sum := "eb66128668b8423774987280ced4bbd11bffddf4aea190b474a927cb866e0036", func := "loop.example/g01308/laws.FnExactBackCurve", spec := "fnExactBackCurve", inPlace := ["math.Float64bits", "math.Float64frombits"], apart := false }
def FnExactBackCurveSaid : Prop := fnExactBackCurveRow.holds Try.pinned (OpenSpec.ofChange fnExactBackCurveSpec)

/-- ITS FALSE NEIGHBOUR: 'it returns false'. Refute it at one input. -/
def fnExactBackCurveWrong : ChangeSpec := { name := "fnExactBackCurve", fn := fun _ => fun
  | [d] => { results := [.lit (.bool false)], args := [d] }
  | _ => none }
def FnExactBackCurveWrongFalsely : Prop := fnExactBackCurveRow.holds Try.pinned (OpenSpec.ofChange fnExactBackCurveWrong)

/-- 'laws.FnExactBlurPicture': WHATEVER THE INPUT: true; the input reads as it did. -/
def fnExactBlurPictureSpec : ChangeSpec := { name := "fnExactBlurPicture", fn := fun _ => fun
  | [d1, d2] => { results := [.lit (.bool true)], args := [d1, d2] }
  | _ => none }
def fnExactBlurPictureRow : OpenClaim := { program := "ytmngedfibmnohac", sum := "eb66128668b8423774987280ced4bbd11bffddf4aea190b474a927cb866e0036", func := "loop.example/g01308/laws.FnExactBlurPicture", spec := "fnExactBlurPicture", inPlace := ["math.Float64bits", "math.Float64frombits"], unfollowed := true, recurses := true, apart := false }
def FnExactBlurPictureSaid : Prop := fnExactBlurPictureRow.holds Try.pinned (OpenSpec.ofChange fnExactBlurPictureSpec)

/-- ITS FALSE NEIGHBOUR: 'it returns false'. Refute it at one input. -/
def fnExactBlurPictureWrong : ChangeSpec := { name := "fnExactBlurPicture", fn := fun _ => fun
  | [d1, d2] => { results := [.lit (.bool false)], args := [d1, d2] }
  | _ => none }
def FnExactBlurPictureWrongFalsely : Prop := fnExactBlurPictureRow.holds Try.pinned (OpenSpec.ofChange fnExactBlurPictureWrong)

/-- 'laws.FnExactBloomPicture': WHATEVER THE INPUT: true; the input reads as it did. -/
def fnExactBloomPictureSpec : ChangeSpec := { name := "fnExactBloomPicture", fn := fun _ => fun
  | [d1, d2, d3, d4] => { results := [.lit (.bool true)], args := [d1, d2, d3, d4] }
  | _ => none }
def fnExactBloomPictureRow : OpenClaim := { program := "ytmngedfibmnohac", sum := "eb66128668b8423774987280ced4bbd11bffddf4aea190b474a927cb866e0036", func := "loop.example/g01308/laws.FnExactBloomPicture", spec := "fnExactBloomPicture", inPlace := ["math.Float64bits", "math.Float64frombits"], unfollowed := true, recurses := true, apart := false }
def FnExactBloomPictureSaid : Prop := fnExactBloomPictureRow.holds Try.pinned (OpenSpec.ofChange fnExactBloomPictureSpec)

/-- ITS FALSE NEIGHBOUR: 'it returns false'. Refute it at one input. -/
def fnExactBloomPictureWrong : ChangeSpec := { name := "fnExactBloomPicture", fn := fun _ => fun
  | [d1, d2, d3, d4] => { results := [.lit (.bool false)], args := [d1, d2, d3, d4] }
  | _ => none }
def FnExactBloomPictureWrongFalsely : Prop := fnExactBloomPictureRow.holds Try.pinned (OpenSpec.ofChange fnExactBloomPictureWrong)

/-- 'laws.FnExactGuidedFilter': WHATEVER THE INPUT: true; the input reads as it did. -/
def fnExactGuidedFilterSpec : ChangeSpec := { name := "fnExactGuidedFilter", fn := fun _ => fun
  | [d1, d2, d3] => { results := [.lit (.bool true)], args := [d1, d2, d3] }
  | _ => none }
def fnExactGuidedFilterRow : OpenClaim := { program := "ytmngedfibmnohac", sum := "eb66128668b8423774987280ced4bbd11bffddf4aea190b474a927cb866e0036", func := "loop.example/g01308/laws.FnExactGuidedFilter", spec := "fnExactGuidedFilter", inPlace := ["math.Float64bits", "math.Float64frombits"], unfollowed := true, recurses := true, apart := false }
def FnExactGuidedFilterSaid : Prop := fnExactGuidedFilterRow.holds Try.pinned (OpenSpec.ofChange fnExactGuidedFilterSpec)

/-- ITS FALSE NEIGHBOUR: 'it returns false'. Refute it at one input. -/
def fnExactGuidedFilterWrong : ChangeSpec := { name := "fnExactGuidedFilter", fn := fun _ => fun
  | [d1, d2, d3] => { results := [.lit (.bool false)], args := [d1, d2, d3] }
  | _ => none }
def FnExactGuidedFilterWrongFalsely : Prop := fnExactGuidedFilterRow.holds Try.pinned (OpenSpec.ofChange fnExactGuidedFilterWrong)

/-- 'laws.FnExactDiffuseDither': WHATEVER THE INPUT: true; the input reads as it did. -/
def fnExactDiffuseDitherSpec : ChangeSpec := { name := "fnExactDiffuseDither", fn := fun _ => fun
  | [d1, d2, d3] => { results := [.lit (.bool true)], args := [d1, d2, d3] }
  | _ => none }
def fnExactDiffuseDitherRow : OpenClaim := { program := "ytmngedfibmnohac", sum := "eb66128668b8423774987280ced4bbd11bffddf4aea190b474a927cb866e0036", func := "loop.example/g01308/laws.FnExactDiffuseDither", spec := "fnExactDiffuseDither", inPlace := ["math.archFloor", "math.Float64bits", "math.Float64frombits", "math.archTrunc"], unfollowed := true, recurses := true, apart := false }
def FnExactDiffuseDitherSaid : Prop := fnExactDiffuseDitherRow.holds Try.pinned (OpenSpec.ofChange fnExactDiffuseDitherSpec)

/-- ITS FALSE NEIGHBOUR: 'it returns false'. Refute it at one input. -/
def fnExactDiffuseDitherWrong : ChangeSpec := { name := "fnExactDiffuseDither", fn := fun _ => fun
  | [d1, d2, d3] => { results := [.lit (.bool false)], args := [d1, d2, d3] }
  | _ => none }
def FnExactDiffuseDitherWrongFalsely : Prop := fnExactDiffuseDitherRow.holds Try.pinned (OpenSpec.ofChange fnExactDiffuseDitherWrong)

/-- 'laws.FnExactNoiseDither': WHATEVER THE INPUT: true; the input reads as it did. -/
def fnExactNoiseDitherSpec : ChangeSpec := { name := "fnExactNoiseDither", fn := fun _ => fun
  | [d1, d2, d3] => { results := [.lit (.bool true)], args := [d1, d2, d3] }
  | _ => none }
def fnExactNoiseDitherRow : OpenClaim := { program := "ytmngedfibmnohac", sum := "eb66128668b8423774987280ced4bbd11bffddf4aea190b474a927cb866e0036", func := "loop.example/g01308/laws.FnExactNoiseDither", spec := "fnExactNoiseDither", inPlace := ["math.archFloor", "math.Float64bits", "math.Float64frombits", "math.archTrunc"], unfollowed := true, recurses := true, apart := false }
def FnExactNoiseDitherSaid : Prop := fnExactNoiseDitherRow.holds Try.pinned (OpenSpec.ofChange fnExactNoiseDitherSpec)

/-- ITS FALSE NEIGHBOUR: 'it returns false'. Refute it at one input. -/
def fnExactNoiseDitherWrong : ChangeSpec := { name := "fnExactNoiseDither", fn := fun _ => fun
  | [d1, d2, d3] => { results := [.lit (.bool false)], args := [d1, d2, d3] }
  | _ => none }
def FnExactNoiseDitherWrongFalsely : Prop := fnExactNoiseDitherRow.holds Try.pinned (OpenSpec.ofChange fnExactNoiseDitherWrong)

/-- 'laws.FnExactFromCube': WHATEVER THE INPUT: true; the input reads as it did. -/
def fnExactFromCubeSpec : ChangeSpec := { name := "fnExactFromCube", fn := fun _ => fun
  | [d1, d2, d3] => { results := [.lit (.bool true)], args := [d1, d2, d3] }
  | _ => none }
def fnExactFromCubeRow : OpenClaim := { program := "ytmngedfibmnohac", sum := "eb66128668b8423774987280ced4bbd11bffddf4aea190b474a927cb866e0036", func := "loop.example/g01308/laws.FnExactFromCube", spec := "fnExactFromCube", inPlace := ["math.Float64frombits", "math.archFloor", "math.Float64bits", "math.archTrunc", "math.Float32frombits"], unfollowed := true, recurses := true, apart := false }
def FnExactFromCubeSaid : Prop := fnExactFromCubeRow.holds Try.pinned (OpenSpec.ofChange fnExactFromCubeSpec)

/-- ITS FALSE NEIGHBOUR: 'it returns false'. Refute it at one input. -/
def fnExactFromCubeWrong : ChangeSpec := { name := "fnExactFromCube", fn := fun _ => fun
  | [d1, d2, d3] => { results := [.lit (.bool false)], args := [d1, d2, d3] }
  | _ => none }
def FnExactFromCubeWrongFalsely : Prop := fnExactFromCubeRow.holds Try.pinned (OpenSpec.ofChange fnExactFromCubeWrong)

/- THE SECOND FORM. 'bulk': how many values and letters a reading holds, each counted each time it is reached (what is shared counts as often as it is met; a slice's spare places count too). A statement '..UptoSaid' is the law's where the arguments, and the package variables that the reading takes, are together of bulk at most 1048576: NARROWER than '..Said'. Prove '..Said' where nothing that the law and all that it calls make is longer than what came in: it says more and counts as full. Else prove '..UptoSaid'. A law counts once. -/
mutual
def uptoBulk {H : Type} : DataW H → Nat
  | .lit (.string bytes) => bytes.length + 1
  | .lit _ => 1
  | .nil => 1
  | .ptr d => uptoBulk d + 1
  | .slice elems spare => uptoBulkAll elems + uptoBulkAll spare + 1
  | .agg parts => uptoBulkAll parts + 1
  | .iface _ d => uptoBulk d + 1
  | .map entries => uptoBulkEntries entries + 1
  | .held _ => 1
def uptoBulkAll {H : Type} : List (DataW H) → Nat
  | [] => 0
  | d :: r => uptoBulk d + uptoBulkAll r
def uptoBulkEntries {H : Type} : List (Lit × DataW H) → Nat
  | [] => 0
  | x :: r => uptoBulkEntry x + uptoBulkEntries r
def uptoBulkEntry {H : Type} : Lit × DataW H → Nat
  | (.string bytes, d) => bytes.length + uptoBulk d + 1
  | (_, d) => uptoBulk d + 1
 end
def uptoSmall : (H : Type) → List (DataW H) → Bool := fun _ ds => decide (uptoBulkAll ds ≤ 1048576)
def OpenSpec.upto (s : _root_.Go.ChangeSpec) : _root_.Go.OpenSpec := { _root_.Go.OpenSpec.ofChange s with cond := some uptoSmall }

/-- 'laws.FnExactTurnColor', WHERE WHAT IT READS IS OF BULK AT MOST 1048576: true; the input reads as it did. -/
def fnExactTurnColorUptoRow : OpenClaim := { program := "ytmngedfibmnohac", sum := "eb66128668b8423774987280ced4bbd11bffddf4aea190b474a927cb866e0036", func := "loop.example/g01308/laws.FnExactTurnColor", spec := "fnExactTurnColor", inPlace := ["math.Float64bits", "math.Float64frombits"], unfollowed := true, recurses := true, apart := false, narrowed := true }
def FnExactTurnColorUptoSaid : Prop := fnExactTurnColorUptoRow.holds Try.pinned (OpenSpec.upto fnExactTurnColorSpec)

/-- 'laws.FnExactJoinMatrices', WHERE WHAT IT READS IS OF BULK AT MOST 1048576: true; the input reads as it did. -/
def fnExactJoinMatricesUptoRow : OpenClaim := { program := "ytmngedfibmnohac", sum := "eb66128668b8423774987280ced4bbd11bffddf4aea190b474a927cb866e0036", func := "loop.example/g01308/laws.FnExactJoinMatrices", spec := "fnExactJoinMatrices", apart := false, narrowed := true }
def FnExactJoinMatricesUptoSaid : Prop := fnExactJoinMatricesUptoRow.holds Try.pinned (OpenSpec.upto fnExactJoinMatricesSpec)

/-- 'laws.FnExactBackMatrix', WHERE WHAT IT READS IS OF BULK AT MOST 1048576: true; the input reads as it did. -/
def fnExactBackMatrixUptoRow : OpenClaim := { program := "ytmngedfibmnohac", sum := "eb66128668b8423774987280ced4bbd11bffddf4aea190b474a927cb866e0036", func := "loop.example/g01308/laws.FnExactBackMatrix", spec := "fnExactBackMatrix", apart := false, narrowed := true }
def FnExactBackMatrixUptoSaid : Prop := fnExactBackMatrixUptoRow.holds Try.pinned (OpenSpec.upto fnExactBackMatrixSpec)

/-- 'laws.FnExactWhiteMatrix', WHERE WHAT IT READS IS OF BULK AT MOST 1048576: true; the input reads as it did. -/
def fnExactWhiteMatrixUptoRow : OpenClaim := { program := "ytmngedfibmnohac", sum := "eb66128668b8423774987280ced4bbd11bffddf4aea190b474a927cb866e0036", func := "loop.example/g01308/laws.FnExactWhiteMatrix", spec := "fnExactWhiteMatrix", inPlace := ["math.Float64bits", "math.Float64frombits"], unfollowed := true, recurses := true, apart := false, narrowed := true }
def FnExactWhiteMatrixUptoSaid : Prop := fnExactWhiteMatrixUptoRow.holds Try.pinned (OpenSpec.upto fnExactWhiteMatrixSpec)

/-- 'laws.FnExactCurvePicture', WHERE WHAT IT READS IS OF BULK AT MOST 1048576: true; the input reads as it did. -/
def fnExactCurvePictureUptoRow : OpenClaim := { program := "ytmngedfibmnohac", sum := "eb66128668b8423774987280ced4bbd11bffddf4aea190b474a927cb866e0036", func := "loop.example/g01308/laws.FnExactCurvePicture", spec := "fnExactCurvePicture", inPlace := ["math.Float64bits", "math.Float64frombits"], unfollowed := true, recurses := true, apart := false, narrowed := true }
def FnExactCurvePictureUptoSaid : Prop := fnExactCurvePictureUptoRow.holds Try.pinned (OpenSpec.upto fnExactCurvePictureSpec)

/-- 'laws.FnExactBackCurve', WHERE WHAT IT READS IS OF BULK AT MOST 1048576: true; the input reads as it did. -/
def fnExactBackCurveUptoRow : OpenClaim := { program := "ytmngedfibmnohac", sum := "eb66128668b8423774987280ced4bbd11bffddf4aea190b474a927cb866e0036", func := "loop.example/g01308/laws.FnExactBackCurve", spec := "fnExactBackCurve", inPlace := ["math.Float64bits", "math.Float64frombits"], apart := false, narrowed := true }
def FnExactBackCurveUptoSaid : Prop := fnExactBackCurveUptoRow.holds Try.pinned (OpenSpec.upto fnExactBackCurveSpec)

/-- 'laws.FnExactBlurPicture', WHERE WHAT IT READS IS OF BULK AT MOST 1048576: true; the input reads as it did. -/
def fnExactBlurPictureUptoRow : OpenClaim := { program := "ytmngedfibmnohac", sum := "eb66128668b8423774987280ced4bbd11bffddf4aea190b474a927cb866e0036", func := "loop.example/g01308/laws.FnExactBlurPicture", spec := "fnExactBlurPicture", inPlace := ["math.Float64bits", "math.Float64frombits"], unfollowed := true, recurses := true, apart := false, narrowed := true }
def FnExactBlurPictureUptoSaid : Prop := fnExactBlurPictureUptoRow.holds Try.pinned (OpenSpec.upto fnExactBlurPictureSpec)

/-- 'laws.FnExactBloomPicture', WHERE WHAT IT READS IS OF BULK AT MOST 1048576: true; the input reads as it did. -/
def fnExactBloomPictureUptoRow : OpenClaim := { program := "ytmngedfibmnohac", sum := "eb66128668b8423774987280ced4bbd11bffddf4aea190b474a927cb866e0036", func := "loop.example/g01308/laws.FnExactBloomPicture", spec := "fnExactBloomPicture", inPlace := ["math.Float64bits", "math.Float64frombits"], unfollowed := true, recurses := true, apart := false, narrowed := true }
def FnExactBloomPictureUptoSaid : Prop := fnExactBloomPictureUptoRow.holds Try.pinned (OpenSpec.upto fnExactBloomPictureSpec)

/-- 'laws.FnExactGuidedFilter', WHERE WHAT IT READS IS OF BULK AT MOST 1048576: true; the input reads as it did. -/
def fnExactGuidedFilterUptoRow : OpenClaim := { program := "ytmngedfibmnohac", sum := "eb66128668b8423774987280ced4bbd11bffddf4aea190b474a927cb866e0036", func := "loop.example/g01308/laws.FnExactGuidedFilter", spec := "fnExactGuidedFilter", inPlace := ["math.Float64bits", "math.Float64frombits"], unfollowed := true, recurses := true, apart := false, narrowed := true }
def FnExactGuidedFilterUptoSaid : Prop := fnExactGuidedFilterUptoRow.holds Try.pinned (OpenSpec.upto fnExactGuidedFilterSpec)

/-- 'laws.FnExactDiffuseDither', WHERE WHAT IT READS IS OF BULK AT MOST 1048576: true; the input reads as it did. -/
def fnExactDiffuseDitherUptoRow : OpenClaim := { program := "ytmngedfibmnohac", sum := "eb66128668b8423774987280ced4bbd11bffddf4aea190b474a927cb866e0036", func := "loop.example/g01308/laws.FnExactDiffuseDither", spec := "fnExactDiffuseDither", inPlace := ["math.archFloor", "math.Float64bits", "math.Float64frombits", "math.archTrunc"], unfollowed := true, recurses := true, apart := false, narrowed := true }
def FnExactDiffuseDitherUptoSaid : Prop := fnExactDiffuseDitherUptoRow.holds Try.pinned (OpenSpec.upto fnExactDiffuseDitherSpec)

/-- 'laws.FnExactNoiseDither', WHERE WHAT IT READS IS OF BULK AT MOST 1048576: true; the input reads as it did. -/
def fnExactNoiseDitherUptoRow : OpenClaim := { program := "ytmngedfibmnohac", sum := "eb66128668b8423774987280ced4bbd11bffddf4aea190b474a927cb866e0036", func := "loop.example/g01308/laws.FnExactNoiseDither", spec := "fnExactNoiseDither", inPlace := ["math.archFloor", "math.Float64bits", "math.Float64frombits", "math.archTrunc"], unfollowed := true, recurses := true, apart := false, narrowed := true }
def FnExactNoiseDitherUptoSaid : Prop := fnExactNoiseDitherUptoRow.holds Try.pinned (OpenSpec.upto fnExactNoiseDitherSpec)

/-- 'laws.FnExactFromCube', WHERE WHAT IT READS IS OF BULK AT MOST 1048576: true; the input reads as it did. -/
def fnExactFromCubeUptoRow : OpenClaim := { program := "ytmngedfibmnohac", sum := "eb66128668b8423774987280ced4bbd11bffddf4aea190b474a927cb866e0036", func := "loop.example/g01308/laws.FnExactFromCube", spec := "fnExactFromCube", inPlace := ["math.Float64frombits", "math.archFloor", "math.Float64bits", "math.archTrunc", "math.Float32frombits"], unfollowed := true, recurses := true, apart := false, narrowed := true }
def FnExactFromCubeUptoSaid : Prop := fnExactFromCubeUptoRow.holds Try.pinned (OpenSpec.upto fnExactFromCubeSpec)

end Rows
end Go.Proofs.Ytmngedfibmnohac
