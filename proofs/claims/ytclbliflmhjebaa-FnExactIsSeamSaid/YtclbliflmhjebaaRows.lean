/-
  No cell of these rows narrows 'for every input' (looked for: loops, veiled, ifaces, maps, wideKeys, modest, calm, conditions, laid).
  DERIVED. THE GIVEN ROWS OF THIS SEAT. 12 by the template 'for every input the law returns true; each argument reads behind the call as it read before'; 0 by the template 'total and deterministic' (their statements: YtclbliflmhjebaaTotals.lean).
  GIVEN WITH THE SEED: the statements are not yours to turn. If you find one false, say at which input.
  Laid BY PROGRAM, IN A SANDBOX (cutbox-rows.mjs): the forced cells as the released guide's own fill.sh prints them over the translation 906d5a4720d1cff3… (all of the seat's roots in one cut). By AI agents, Wed Nov 11 2026. No macro, syntax, notation, axiom, sorry.
-/
import Derived.Test.YtclbliflmhjebaaChecked
import GoSem.Claim
import GoSem.ClaimJoined
import GoSem.ClaimMapViews
import Derived.JoinedTies
import Derived.KernelRfl
namespace Go.Proofs.Ytclbliflmhjebaa
/- THE CELL 'sum', in the pinned program and in every row, IS THE sha256 OF THE DUMP (.gsa) THAT YtclbliflmhjebaaProg.lean LOADS. Nothing in Lean hashes anything: it is a label: what it is worth is what the hold of that sum in a sandbox is worth. -/
noncomputable def Try.pinned : Pinned := { name := "ytclbliflmhjebaa", sum := "906d5a4720d1cff3cb9df556a0bbb64dadba8e98e4d2d027e700b9e941341011", checked := Try.checked }
namespace Rows
def none {H : Type} : Left H := { results := [], args := [] }

/-- 'laws.FnExactEdgesOf': WHATEVER THE INPUT: true; the input reads as it did. -/
def fnExactEdgesOfSpec : ChangeSpec := { name := "fnExactEdgesOf", fn := fun _ => fun
  | [d] => { results := [.lit (.bool true)], args := [d] }
  | _ => none }
def fnExactEdgesOfRow : OpenClaim := { program := "ytclbliflmhjebaa", sum := "906d5a4720d1cff3cb9df556a0bbb64dadba8e98e4d2d027e700b9e941341011", func := "loop.example/g01308/laws.FnExactEdgesOf", spec := "fnExactEdgesOf", inPlace := ["math.Float64bits", "math.Float64frombits"], unfollowed := true, recurses := true, apart := false }
def FnExactEdgesOfSaid : Prop := fnExactEdgesOfRow.holds Try.pinned (OpenSpec.ofChange fnExactEdgesOfSpec)

/-- ITS FALSE NEIGHBOUR: 'it returns false'. Refute it at one input. -/
def fnExactEdgesOfWrong : ChangeSpec := { name := "fnExactEdgesOf", fn := fun _ => fun
  | [d] => { results := [.lit (.bool false)], args := [d] }
  | _ => none }
def FnExactEdgesOfWrongFalsely : Prop := fnExactEdgesOfRow.holds Try.pinned (OpenSpec.ofChange fnExactEdgesOfWrong)

/-- 'laws.FnExactIsSeam': WHATEVER THE INPUT: true; the input reads as it did. -/
def fnExactIsSeamSpec : ChangeSpec := { name := "fnExactIsSeam", fn := fun _ => fun
  | [d1, d2] => { results := [.lit (.bool true)], args := [d1, d2] }
  | _ => none }
def fnExactIsSeamRow : OpenClaim := { program := "ytclbliflmhjebaa", sum := "906d5a4720d1cff3cb9df556a0bbb64dadba8e98e4d2d027e700b9e941341011", func := "loop.example/g01308/laws.FnExactIsSeam", spec := "fnExactIsSeam", inPlace := ["math.Float64bits", "math.Float64frombits"], apart := false }
def FnExactIsSeamSaid : Prop := fnExactIsSeamRow.holds Try.pinned (OpenSpec.ofChange fnExactIsSeamSpec)

/-- ITS FALSE NEIGHBOUR: 'it returns false'. Refute it at one input. -/
def fnExactIsSeamWrong : ChangeSpec := { name := "fnExactIsSeam", fn := fun _ => fun
  | [d1, d2] => { results := [.lit (.bool false)], args := [d1, d2] }
  | _ => none }
def FnExactIsSeamWrongFalsely : Prop := fnExactIsSeamRow.holds Try.pinned (OpenSpec.ofChange fnExactIsSeamWrong)

/-- 'laws.FnExactSeamCost': WHATEVER THE INPUT: true; the input reads as it did. -/
def fnExactSeamCostSpec : ChangeSpec := { name := "fnExactSeamCost", fn := fun _ => fun
  | [d1, d2] => { results := [.lit (.bool true)], args := [d1, d2] }
  | _ => none }
def fnExactSeamCostRow : OpenClaim := { program := "ytclbliflmhjebaa", sum := "906d5a4720d1cff3cb9df556a0bbb64dadba8e98e4d2d027e700b9e941341011", func := "loop.example/g01308/laws.FnExactSeamCost", spec := "fnExactSeamCost", inPlace := ["math.Float64bits", "math.Float64frombits"], unfollowed := true, recurses := true, apart := false }
def FnExactSeamCostSaid : Prop := fnExactSeamCostRow.holds Try.pinned (OpenSpec.ofChange fnExactSeamCostSpec)

/-- ITS FALSE NEIGHBOUR: 'it returns false'. Refute it at one input. -/
def fnExactSeamCostWrong : ChangeSpec := { name := "fnExactSeamCost", fn := fun _ => fun
  | [d1, d2] => { results := [.lit (.bool false)], args := [d1, d2] }
  | _ => none }
def FnExactSeamCostWrongFalsely : Prop := fnExactSeamCostRow.holds Try.pinned (OpenSpec.ofChange fnExactSeamCostWrong)

/-- 'laws.FnExactCutSeam': WHATEVER THE INPUT: true; the input reads as it did. -/
def fnExactCutSeamSpec : ChangeSpec := { name := "fnExactCutSeam", fn := fun _ => fun
  | [d1, d2] => { results := [.lit (.bool true)], args := [d1, d2] }
  | _ => none }
def fnExactCutSeamRow : OpenClaim := { program := "ytclbliflmhjebaa", sum := "906d5a4720d1cff3cb9df556a0bbb64dadba8e98e4d2d027e700b9e941341011", func := "loop.example/g01308/laws.FnExactCutSeam", spec := "fnExactCutSeam", inPlace := ["math.Float64bits", "math.Float64frombits"], unfollowed := true, recurses := true, apart := false }
def FnExactCutSeamSaid : Prop := fnExactCutSeamRow.holds Try.pinned (OpenSpec.ofChange fnExactCutSeamSpec)

/-- ITS FALSE NEIGHBOUR: 'it returns false'. Refute it at one input. -/
def fnExactCutSeamWrong : ChangeSpec := { name := "fnExactCutSeam", fn := fun _ => fun
  | [d1, d2] => { results := [.lit (.bool false)], args := [d1, d2] }
  | _ => none }
def FnExactCutSeamWrongFalsely : Prop := fnExactCutSeamRow.holds Try.pinned (OpenSpec.ofChange fnExactCutSeamWrong)

/-- 'laws.FnExactMaskMix': WHATEVER THE INPUT: true; the input reads as it did. -/
def fnExactMaskMixSpec : ChangeSpec := { name := "fnExactMaskMix", fn := fun _ => fun
  | [d1, d2, d3] => { results := [.lit (.bool true)], args := [d1, d2, d3] }
  | _ => none }
def fnExactMaskMixRow : OpenClaim := { program := "ytclbliflmhjebaa", sum := "906d5a4720d1cff3cb9df556a0bbb64dadba8e98e4d2d027e700b9e941341011", func := "loop.example/g01308/laws.FnExactMaskMix", spec := "fnExactMaskMix", inPlace := ["math.Float64bits", "math.Float64frombits"], unfollowed := true, recurses := true, apart := false }
def FnExactMaskMixSaid : Prop := fnExactMaskMixRow.holds Try.pinned (OpenSpec.ofChange fnExactMaskMixSpec)

/-- ITS FALSE NEIGHBOUR: 'it returns false'. Refute it at one input. -/
def fnExactMaskMixWrong : ChangeSpec := { name := "fnExactMaskMix", fn := fun _ => fun
  | [d1, d2, d3] => { results := [.lit (.bool false)], args := [d1, d2, d3] }
  | _ => none }
def FnExactMaskMixWrongFalsely : Prop := fnExactMaskMixRow.holds Try.pinned (OpenSpec.ofChange fnExactMaskMixWrong)

/-- 'laws.FnExactFeatherMask': WHATEVER THE INPUT: true; the input reads as it did. -/
def fnExactFeatherMaskSpec : ChangeSpec := { name := "fnExactFeatherMask", fn := fun _ => fun
  | [d1, d2, d3, d4] => { results := [.lit (.bool true)], args := [d1, d2, d3, d4] }
  | _ => none }
def fnExactFeatherMaskRow : OpenClaim := { program := "ytclbliflmhjebaa", sum := "906d5a4720d1cff3cb9df556a0bbb64dadba8e98e4d2d027e700b9e941341011", func := "loop.example/g01308/laws.FnExactFeatherMask", spec := "fnExactFeatherMask", inPlace := ["math.Float64bits", "math.Float64frombits"], unfollowed := true, recurses := true, apart := false }
def FnExactFeatherMaskSaid : Prop := fnExactFeatherMaskRow.holds Try.pinned (OpenSpec.ofChange fnExactFeatherMaskSpec)

/-- ITS FALSE NEIGHBOUR: 'it returns false'. Refute it at one input. -/
def fnExactFeatherMaskWrong : ChangeSpec := { name := "fnExactFeatherMask", fn := fun _ => fun
  | [d1, d2, d3, d4] => { results := [.lit (.bool false)], args := [d1, d2, d3, d4] }
  | _ => none }
def FnExactFeatherMaskWrongFalsely : Prop := fnExactFeatherMaskRow.holds Try.pinned (OpenSpec.ofChange fnExactFeatherMaskWrong)

/-- 'laws.FnExactOverlapError': WHATEVER THE INPUT: true; the input reads as it did. -/
def fnExactOverlapErrorSpec : ChangeSpec := { name := "fnExactOverlapError", fn := fun _ => fun
  | [d1, d2, d3] => { results := [.lit (.bool true)], args := [d1, d2, d3] }
  | _ => none }
def fnExactOverlapErrorRow : OpenClaim := { program := "ytclbliflmhjebaa", sum := "906d5a4720d1cff3cb9df556a0bbb64dadba8e98e4d2d027e700b9e941341011", func := "loop.example/g01308/laws.FnExactOverlapError", spec := "fnExactOverlapError", inPlace := ["math.Float64bits", "math.Float64frombits"], unfollowed := true, recurses := true, apart := false }
def FnExactOverlapErrorSaid : Prop := fnExactOverlapErrorRow.holds Try.pinned (OpenSpec.ofChange fnExactOverlapErrorSpec)

/-- ITS FALSE NEIGHBOUR: 'it returns false'. Refute it at one input. -/
def fnExactOverlapErrorWrong : ChangeSpec := { name := "fnExactOverlapError", fn := fun _ => fun
  | [d1, d2, d3] => { results := [.lit (.bool false)], args := [d1, d2, d3] }
  | _ => none }
def FnExactOverlapErrorWrongFalsely : Prop := fnExactOverlapErrorRow.holds Try.pinned (OpenSpec.ofChange fnExactOverlapErrorWrong)

/-- 'laws.FnExactValidPage': WHATEVER THE INPUT: true; the input reads as it did. -/
def fnExactValidPageSpec : ChangeSpec := { name := "fnExactValidPage", fn := fun _ => fun
  | [d] => { results := [.lit (.bool true)], args := [d] }
  | _ => none }
def fnExactValidPageRow : OpenClaim := { program := "ytclbliflmhjebaa", sum := "906d5a4720d1cff3cb9df556a0bbb64dadba8e98e4d2d027e700b9e941341011", func := "loop.example/g01308/laws.FnExactValidPage", spec := "fnExactValidPage", inPlace := ["math.Float64bits", "math.Float64frombits"], apart := false }
def FnExactValidPageSaid : Prop := fnExactValidPageRow.holds Try.pinned (OpenSpec.ofChange fnExactValidPageSpec)

/-- ITS FALSE NEIGHBOUR: 'it returns false'. Refute it at one input. -/
def fnExactValidPageWrong : ChangeSpec := { name := "fnExactValidPage", fn := fun _ => fun
  | [d] => { results := [.lit (.bool false)], args := [d] }
  | _ => none }
def FnExactValidPageWrongFalsely : Prop := fnExactValidPageRow.holds Try.pinned (OpenSpec.ofChange fnExactValidPageWrong)

/-- 'laws.FnExactBandPowers': WHATEVER THE INPUT: true; the input reads as it did. -/
def fnExactBandPowersSpec : ChangeSpec := { name := "fnExactBandPowers", fn := fun _ => fun
  | [d] => { results := [.lit (.bool true)], args := [d] }
  | _ => none }
def fnExactBandPowersRow : OpenClaim := { program := "ytclbliflmhjebaa", sum := "906d5a4720d1cff3cb9df556a0bbb64dadba8e98e4d2d027e700b9e941341011", func := "loop.example/g01308/laws.FnExactBandPowers", spec := "fnExactBandPowers", inPlace := ["math.Float64bits", "math.Float64frombits"], apart := false }
def FnExactBandPowersSaid : Prop := fnExactBandPowersRow.holds Try.pinned (OpenSpec.ofChange fnExactBandPowersSpec)

/-- ITS FALSE NEIGHBOUR: 'it returns false'. Refute it at one input. -/
def fnExactBandPowersWrong : ChangeSpec := { name := "fnExactBandPowers", fn := fun _ => fun
  | [d] => { results := [.lit (.bool false)], args := [d] }
  | _ => none }
def FnExactBandPowersWrongFalsely : Prop := fnExactBandPowersRow.holds Try.pinned (OpenSpec.ofChange fnExactBandPowersWrong)

/-- 'laws.FnExactFlipPicture': WHATEVER THE INPUT: true; the input reads as it did. -/
def fnExactFlipPictureSpec : ChangeSpec := { name := "fnExactFlipPicture", fn := fun _ => fun
  | [d] => { results := [.lit (.bool true)], args := [d] }
  | _ => none }
def fnExactFlipPictureRow : OpenClaim := { program := "ytclbliflmhjebaa", sum := "906d5a4720d1cff3cb9df556a0bbb64dadba8e98e4d2d027e700b9e941341011", func := "loop.example/g01308/laws.FnExactFlipPicture", spec := "fnExactFlipPicture", inPlace := ["math.Float64bits", "math.Float64frombits"], apart := false }
def FnExactFlipPictureSaid : Prop := fnExactFlipPictureRow.holds Try.pinned (OpenSpec.ofChange fnExactFlipPictureSpec)

/-- ITS FALSE NEIGHBOUR: 'it returns false'. Refute it at one input. -/
def fnExactFlipPictureWrong : ChangeSpec := { name := "fnExactFlipPicture", fn := fun _ => fun
  | [d] => { results := [.lit (.bool false)], args := [d] }
  | _ => none }
def FnExactFlipPictureWrongFalsely : Prop := fnExactFlipPictureRow.holds Try.pinned (OpenSpec.ofChange fnExactFlipPictureWrong)

/-- 'laws.FnExactCurvePicture': WHATEVER THE INPUT: true; the input reads as it did. -/
def fnExactCurvePictureSpec : ChangeSpec := { name := "fnExactCurvePicture", fn := fun _ => fun
  | [d1, d2] => { results := [.lit (.bool true)], args := [d1, d2] }
  | _ => none }
def fnExactCurvePictureRow : OpenClaim := { program := "ytclbliflmhjebaa", sum := "906d5a4720d1cff3cb9df556a0bbb64dadba8e98e4d2d027e700b9e941341011", func := "loop.example/g01308/laws.FnExactCurvePicture", spec := "fnExactCurvePicture", inPlace := ["math.Float64bits", "math.Float64frombits"], unfollowed := true, recurses := true, apart := false }
def FnExactCurvePictureSaid : Prop := fnExactCurvePictureRow.holds Try.pinned (OpenSpec.ofChange fnExactCurvePictureSpec)

/-- ITS FALSE NEIGHBOUR: 'it returns false'. Refute it at one input. -/
def fnExactCurvePictureWrong : ChangeSpec := { name := "fnExactCurvePicture", fn := fun _ => fun
  | [d1, d2] => { results := [.lit (.bool false)], args := [d1, d2] }
  | _ => none }
def FnExactCurvePictureWrongFalsely : Prop := fnExactCurvePictureRow.holds Try.pinned (OpenSpec.ofChange fnExactCurvePictureWrong)

/-- 'laws.FnExactBackCurve': WHATEVER THE INPUT: true; the input reads as it did. -/
def fnExactBackCurveSpec : ChangeSpec := { name := "fnExactBackCurve", fn := fun _ => fun
  | [d] => { results := [.lit (.bool true)], args := [d] }
  | _ => none }
def fnExactBackCurveRow : OpenClaim := { program := "ytclbliflmhjebaa", sum := "906d5a4720d1cff3cb9df556a0bbb64dadba8e98e4d2d027e700b9e941341011", func := "loop.example/g01308/laws.FnExactBackCurve", spec := "fnExactBackCurve", inPlace := ["math.Float64bits", "math.Float64frombits"], apart := false }
def FnExactBackCurveSaid : Prop := fnExactBackCurveRow.holds Try.pinned (OpenSpec.ofChange fnExactBackCurveSpec)

/-- ITS FALSE NEIGHBOUR: 'it returns false'. Refute it at one input. -/
def fnExactBackCurveWrong : ChangeSpec := { name := "fnExactBackCurve", fn := fun _ => fun
  | [d] => { results := [.lit (.bool false)], args := [d] }
  | _ => none }
def FnExactBackCurveWrongFalsely : Prop := fnExactBackCurveRow.holds Try.pinned (OpenSpec.ofChange fnExactBackCurveWrong)

/- THE SECOND FORM. 'bulk': how many values and letters a reading holds, each counted each time it is reached (what is shared counts as often as it is met; a slice's spare places count too). A statement '..UptoSaid' is the law's where the arguments, and the package variables that the reading takes, are together of bulk at most 1048576: NARROWER than '..Said'. Prove '..Said' where nothing that the law and all that it calls make is longer than what came in: it says more and counts as full. Else prove '..UptoSaid'. A law counts once. -/
mutual
def uptoBulk {H : Type} : DataW H → Nat
  | .lit (.string bytes) => bytes.length + 1
  | .lit _ => 1
  | .nil => 1
  | .ptr d => uptoBulk d + 1
  | .slice elems spare => uptoBulkAll elems + uptoBulkAll spare + 1
  | .agg parts => uptoBulkAll parts + 1
  | .iface _ d => uptoBulk d + 1
  | .map entries => uptoBulkEntries entries + 1
  | .held _ => 1
def uptoBulkAll {H : Type} : List (DataW H) → Nat
  | [] => 0
  | d :: r => uptoBulk d + uptoBulkAll r
def uptoBulkEntries {H : Type} : List (Lit × DataW H) → Nat
  | [] => 0
  | x :: r => uptoBulkEntry x + uptoBulkEntries r
def uptoBulkEntry {H : Type} : Lit × DataW H → Nat
  | (.string bytes, d) => bytes.length + uptoBulk d + 1
  | (_, d) => uptoBulk d + 1
 end
def uptoSmall : (H : Type) → List (DataW H) → Bool := fun _ ds => decide (uptoBulkAll ds ≤ 1048576)
def OpenSpec.upto (s : _root_.Go.ChangeSpec) : _root_.Go.OpenSpec := { _root_.Go.OpenSpec.ofChange s with cond := some uptoSmall }

/-- 'laws.FnExactEdgesOf', WHERE WHAT IT READS IS OF BULK AT MOST 1048576: true; the input reads as it did. -/
def fnExactEdgesOfUptoRow : OpenClaim := { program := "ytclbliflmhjebaa", sum := "906d5a4720d1cff3cb9df556a0bbb64dadba8e98e4d2d027e700b9e941341011", func := "loop.example/g01308/laws.FnExactEdgesOf", spec := "fnExactEdgesOf", inPlace := ["math.Float64bits", "math.Float64frombits"], unfollowed := true, recurses := true, apart := false, narrowed := true }
def FnExactEdgesOfUptoSaid : Prop := fnExactEdgesOfUptoRow.holds Try.pinned (OpenSpec.upto fnExactEdgesOfSpec)

/-- 'laws.FnExactIsSeam', WHERE WHAT IT READS IS OF BULK AT MOST 1048576: true; the input reads as it did. -/
def fnExactIsSeamUptoRow : OpenClaim := { program := "ytclbliflmhjebaa", sum := "906d5a4720d1cff3cb9df556a0bbb64dadba8e98e4d2d027e700b9e941341011", func := "loop.example/g01308/laws.FnExactIsSeam", spec := "fnExactIsSeam", inPlace := ["math.Float64bits", "math.Float64frombits"], apart := false, narrowed := true }
def FnExactIsSeamUptoSaid : Prop := fnExactIsSeamUptoRow.holds Try.pinned (OpenSpec.upto fnExactIsSeamSpec)

/-- 'laws.FnExactSeamCost', WHERE WHAT IT READS IS OF BULK AT MOST 1048576: true; the input reads as it did. -/
def fnExactSeamCostUptoRow : OpenClaim := { program := "ytclbliflmhjebaa", sum := "906d5a4720d1cff3cb9df556a0bbb64dadba8e98e4d2d027e700b9e941341011", func := "loop.example/g01308/laws.FnExactSeamCost", spec := "fnExactSeamCost", inPlace := ["math.Float64bits", "math.Float64frombits"], unfollowed := true, recurses := true, apart := false, narrowed := true }
def FnExactSeamCostUptoSaid : Prop := fnExactSeamCostUptoRow.holds Try.pinned (OpenSpec.upto fnExactSeamCostSpec)

/-- 'laws.FnExactCutSeam', WHERE WHAT IT READS IS OF BULK AT MOST 1048576: true; the input reads as it did. -/
def fnExactCutSeamUptoRow : OpenClaim := { program := "ytclbliflmhjebaa", sum := "906d5a4720d1cff3cb9df556a0bbb64dadba8e98e4d2d027e700b9e941341011", func := "loop.example/g01308/laws.FnExactCutSeam", spec := "fnExactCutSeam", inPlace := ["math.Float64bits", "math.Float64frombits"], unfollowed := true, recurses := true, apart := false, narrowed := true }
def FnExactCutSeamUptoSaid : Prop := fnExactCutSeamUptoRow.holds Try.pinned (OpenSpec.upto fnExactCutSeamSpec)

/-- 'laws.FnExactMaskMix', WHERE WHAT IT READS IS OF BULK AT MOST 1048576: true; the input reads as it did. -/
def fnExactMaskMixUptoRow : OpenClaim := { program := "ytclbliflmhjebaa", sum := "906d5a4720d1cff3cb9df556a0bbb64dadba8e98e4d2d027e700b9e941341011", func := "loop.example/g01308/laws.FnExactMaskMix", spec := "fnExactMaskMix", inPlace := ["math.Float64bits", "math.Float64frombits"], unfollowed := true, recurses := true, apart := false, narrowed := true }
def FnExactMaskMixUptoSaid : Prop := fnExactMaskMixUptoRow.holds Try.pinned (OpenSpec.upto fnExactMaskMixSpec)

/-- 'laws.FnExactFeatherMask', WHERE WHAT IT READS IS OF BULK AT MOST 1048576: true; the input reads as it did. -/
def fnExactFeatherMaskUptoRow : OpenClaim := { program := "ytclbliflmhjebaa", sum := "906d5a4720d1cff3cb9df556a0bbb64dadba8e98e4d2d027e700b9e941341011", func := "loop.example/g01308/laws.FnExactFeatherMask", spec := "fnExactFeatherMask", inPlace := ["math.Float64bits", "math.Float64frombits"], unfollowed := true, recurses := true, apart := false, narrowed := true }
def FnExactFeatherMaskUptoSaid : Prop := fnExactFeatherMaskUptoRow.holds Try.pinned (OpenSpec.upto fnExactFeatherMaskSpec)

/-- 'laws.FnExactOverlapError', WHERE WHAT IT READS IS OF BULK AT MOST 1048576: true; the input reads as it did. -/
def fnExactOverlapErrorUptoRow : OpenClaim := { program := "ytclbliflmhjebaa", sum := "906d5a4720d1cff3cb9df556a0bbb64dadba8e98e4d2d027e700b9e941341011", func := "loop.example/g01308/laws.FnExactOverlapError", spec := "fnExactOverlapError", inPlace := ["math.Float64bits", "math.Float64frombits"], unfollowed := true, recurses := true, apart := false, narrowed := true }
def FnExactOverlapErrorUptoSaid : Prop := fnExactOverlapErrorUptoRow.holds Try.pinned (OpenSpec.upto fnExactOverlapErrorSpec)

/-- 'laws.FnExactValidPage', WHERE WHAT IT READS IS OF BULK AT MOST 1048576: true; the input reads as it did. -/
def fnExactValidPageUptoRow : OpenClaim := { program := "ytclbliflmhjebaa", sum := "906d5a4720d1cff3cb9df556a0bbb64dadba8e98e4d2d027e700b9e941341011", func := "loop.example/g01308/laws.FnExactValidPage", spec := "fnExactValidPage", inPlace := ["math.Float64bits", "math.Float64frombits"], apart := false, narrowed := true }
def FnExactValidPageUptoSaid : Prop := fnExactValidPageUptoRow.holds Try.pinned (OpenSpec.upto fnExactValidPageSpec)

/-- 'laws.FnExactBandPowers', WHERE WHAT IT READS IS OF BULK AT MOST 1048576: true; the input reads as it did. -/
def fnExactBandPowersUptoRow : OpenClaim := { program := "ytclbliflmhjebaa", sum := "906d5a4720d1cff3cb9df556a0bbb64dadba8e98e4d2d027e700b9e941341011", func := "loop.example/g01308/laws.FnExactBandPowers", spec := "fnExactBandPowers", inPlace := ["math.Float64bits", "math.Float64frombits"], apart := false, narrowed := true }
def FnExactBandPowersUptoSaid : Prop := fnExactBandPowersUptoRow.holds Try.pinned (OpenSpec.upto fnExactBandPowersSpec)

/-- 'laws.FnExactFlipPicture', WHERE WHAT IT READS IS OF BULK AT MOST 1048576: true; the input reads as it did. -/
def fnExactFlipPictureUptoRow : OpenClaim := { program := "ytclbliflmhjebaa", sum := "906d5a4720d1cff3cb9df556a0bbb64dadba8e98e4d2d027e700b9e941341011", func := "loop.example/g01308/laws.FnExactFlipPicture", spec := "fnExactFlipPicture", inPlace := ["math.Float64bits", "math.Float64frombits"], apart := false, narrowed := true }
def FnExactFlipPictureUptoSaid : Prop := fnExactFlipPictureUptoRow.holds Try.pinned (OpenSpec.upto fnExactFlipPictureSpec)

/-- 'laws.FnExactCurvePicture', WHERE WHAT IT READS IS OF BULK AT MOST 1048576: true; the input reads as it did. -/
def fnExactCurvePictureUptoRow : OpenClaim := { program := "ytclbliflmhjebaa", sum := "906d5a4720d1cff3cb9df556a0bbb64dadba8e98e4d2d027e700b9e941341011", func := "loop.example/g01308/laws.FnExactCurvePicture", spec := "fnExactCurvePicture", inPlace := ["math.Float64bits", "math.Float64frombits"], unfollowed := true, recurses := true, apart := false, narrowed := true }
def FnExactCurvePictureUptoSaid : Prop := fnExactCurvePictureUptoRow.holds Try.pinned (OpenSpec.upto fnExactCurvePictureSpec)

/-- 'laws.FnExactBackCurve', WHERE WHAT IT READS IS OF BULK AT MOST 1048576: true; the input reads as it did. -/
def fnExactBackCurveUptoRow : OpenClaim := { program := "ytclbliflmhjebaa", sum := "906d5a4720d1cff3cb9df556a0bbb64dadba8e98e4d2d027e700b9e941341011", func := "loop.example/g01308/laws.FnExactBackCurve", spec := "fnExactBackCurve", inPlace := ["math.Float64bits", "math.Float64frombits"], apart := false, narrowed := true }
def FnExactBackCurveUptoSaid : Prop := fnExactBackCurveUptoRow.holds Try.pinned (OpenSpec.upto fnExactBackCurveSpec)

end Rows
end Go.Proofs.Ytclbliflmhjebaa
