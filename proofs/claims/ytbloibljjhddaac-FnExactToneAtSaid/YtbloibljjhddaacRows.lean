/-
  No cell of these rows narrows 'for every input' (looked for: loops, veiled, ifaces, maps, wideKeys, modest, calm, conditions, laid).
  DERIVED. THE GIVEN ROWS OF THIS SEAT. 11 by the template 'for every input the law returns true; each argument reads behind the call as it read before'; 0 by the template 'total and deterministic' (their statements: YtbloibljjhddaacTotals.lean).
  GIVEN WITH THE SEED: the statements are not yours to turn. If you find one false, say at which input.
  Laid BY PROGRAM, IN A SANDBOX (cutbox-rows.mjs): the forced cells as the released guide's own fill.sh prints them over the translation 6cc0bed0ca6d3456… (all of the seat's roots in one cut). By AI agents, Wed Nov 11 2026. No macro, syntax, notation, axiom, sorry.
-/
import Derived.Test.YtbloibljjhddaacChecked
import GoSem.Claim
import GoSem.ClaimJoined
import GoSem.ClaimMapViews
import Derived.JoinedTies
import Derived.KernelRfl
namespace Go.Proofs.Ytbloibljjhddaac
/- THE CELL 'sum', in the pinned program and in every row, IS THE sha256 OF THE DUMP (.gsa) THAT YtbloibljjhddaacProg.lean LOADS. Nothing in Lean hashes anything: it is a label: what it is worth is what the hold of that sum in a sandbox is worth. -/
noncomputable def Try.pinned : Pinned := { name := "ytbloibljjhddaac", sum := "6cc0bed0ca6d3456a7f63a82160da579f3e949126cd03290c3397b774749faaa", checked := Try.checked }
namespace Rows
def none {H : Type} : Left H := { results := [], args := [] }

/-- 'laws.FnBlurred': WHATEVER THE INPUT: true; the input reads as it did. -/
def fnBlurredSpec : ChangeSpec := { name := "fnBlurred", fn := fun _ => fun
  | [d1, d2] => { results := [.lit (.bool true)], args := [d1, d2] }
  | _ => none }
def fnBlurredRow : OpenClaim := { program := "ytbloibljjhddaac", sum := "6cc0bed0ca6d3456a7f63a82160da579f3e949126cd03290c3397b774749faaa", func := "loop.example/g01308/laws.FnBlurred", spec := "fnBlurred", inPlace := ["math.Float64bits", "math.Float64frombits"], unfollowed := true, recurses := true, apart := false }
def FnBlurredSaid : Prop := fnBlurredRow.holds Try.pinned (OpenSpec.ofChange fnBlurredSpec)

/-- ITS FALSE NEIGHBOUR: 'it returns false'. Refute it at one input. -/
def fnBlurredWrong : ChangeSpec := { name := "fnBlurred", fn := fun _ => fun
  | [d1, d2] => { results := [.lit (.bool false)], args := [d1, d2] }
  | _ => none }
def FnBlurredWrongFalsely : Prop := fnBlurredRow.holds Try.pinned (OpenSpec.ofChange fnBlurredWrong)

/-- 'laws.FnShaded': WHATEVER THE INPUT: true; the input reads as it did. -/
def fnShadedSpec : ChangeSpec := { name := "fnShaded", fn := fun _ => fun
  | [d1, d2] => { results := [.lit (.bool true)], args := [d1, d2] }
  | _ => none }
def fnShadedRow : OpenClaim := { program := "ytbloibljjhddaac", sum := "6cc0bed0ca6d3456a7f63a82160da579f3e949126cd03290c3397b774749faaa", func := "loop.example/g01308/laws.FnShaded", spec := "fnShaded", inPlace := ["math.Float64bits", "math.Float64frombits", "math.archFloor", "math.archTrunc", "math.sqrt"], unfollowed := true, recurses := true, apart := false }
def FnShadedSaid : Prop := fnShadedRow.holds Try.pinned (OpenSpec.ofChange fnShadedSpec)

/-- ITS FALSE NEIGHBOUR: 'it returns false'. Refute it at one input. -/
def fnShadedWrong : ChangeSpec := { name := "fnShaded", fn := fun _ => fun
  | [d1, d2] => { results := [.lit (.bool false)], args := [d1, d2] }
  | _ => none }
def FnShadedWrongFalsely : Prop := fnShadedRow.holds Try.pinned (OpenSpec.ofChange fnShadedWrong)

/-- 'laws.FnSpots': WHATEVER THE INPUT: true; the input reads as it did. -/
def fnSpotsSpec : ChangeSpec := { name := "fnSpots", fn := fun _ => fun
  | [d1, d2] => { results := [.lit (.bool true)], args := [d1, d2] }
  | _ => none }
def fnSpotsRow : OpenClaim := { program := "ytbloibljjhddaac", sum := "6cc0bed0ca6d3456a7f63a82160da579f3e949126cd03290c3397b774749faaa", func := "loop.example/g01308/laws.FnSpots", spec := "fnSpots", inPlace := ["math.Float64bits", "math.Float64frombits", "math.Float32frombits"], apart := false }
def FnSpotsSaid : Prop := fnSpotsRow.holds Try.pinned (OpenSpec.ofChange fnSpotsSpec)

/-- ITS FALSE NEIGHBOUR: 'it returns false'. Refute it at one input. -/
def fnSpotsWrong : ChangeSpec := { name := "fnSpots", fn := fun _ => fun
  | [d1, d2] => { results := [.lit (.bool false)], args := [d1, d2] }
  | _ => none }
def FnSpotsWrongFalsely : Prop := fnSpotsRow.holds Try.pinned (OpenSpec.ofChange fnSpotsWrong)

/-- 'laws.FnMatrices': WHATEVER THE INPUT: true; the input reads as it did. -/
def fnMatricesSpec : ChangeSpec := { name := "fnMatrices", fn := fun _ => fun
  | [d1, d2] => { results := [.lit (.bool true)], args := [d1, d2] }
  | _ => none }
def fnMatricesRow : OpenClaim := { program := "ytbloibljjhddaac", sum := "6cc0bed0ca6d3456a7f63a82160da579f3e949126cd03290c3397b774749faaa", func := "loop.example/g01308/laws.FnMatrices", spec := "fnMatrices", inPlace := ["math.Float64bits", "math.Float64frombits", "math.Float32frombits", "math.Float32bits"], unfollowed := true, recurses := true, apart := false }
def FnMatricesSaid : Prop := fnMatricesRow.holds Try.pinned (OpenSpec.ofChange fnMatricesSpec)

/-- ITS FALSE NEIGHBOUR: 'it returns false'. Refute it at one input. -/
def fnMatricesWrong : ChangeSpec := { name := "fnMatrices", fn := fun _ => fun
  | [d1, d2] => { results := [.lit (.bool false)], args := [d1, d2] }
  | _ => none }
def FnMatricesWrongFalsely : Prop := fnMatricesRow.holds Try.pinned (OpenSpec.ofChange fnMatricesWrong)

/-- 'laws.FnExactShiftPicture': WHATEVER THE INPUT: true; the input reads as it did. -/
def fnExactShiftPictureSpec : ChangeSpec := { name := "fnExactShiftPicture", fn := fun _ => fun
  | [d1, d2, d3] => { results := [.lit (.bool true)], args := [d1, d2, d3] }
  | _ => none }
def fnExactShiftPictureRow : OpenClaim := { program := "ytbloibljjhddaac", sum := "6cc0bed0ca6d3456a7f63a82160da579f3e949126cd03290c3397b774749faaa", func := "loop.example/g01308/laws.FnExactShiftPicture", spec := "fnExactShiftPicture", inPlace := ["math.Float64bits", "math.Float64frombits"], unfollowed := true, recurses := true, apart := false }
def FnExactShiftPictureSaid : Prop := fnExactShiftPictureRow.holds Try.pinned (OpenSpec.ofChange fnExactShiftPictureSpec)

/-- ITS FALSE NEIGHBOUR: 'it returns false'. Refute it at one input. -/
def fnExactShiftPictureWrong : ChangeSpec := { name := "fnExactShiftPicture", fn := fun _ => fun
  | [d1, d2, d3] => { results := [.lit (.bool false)], args := [d1, d2, d3] }
  | _ => none }
def FnExactShiftPictureWrongFalsely : Prop := fnExactShiftPictureRow.holds Try.pinned (OpenSpec.ofChange fnExactShiftPictureWrong)

/-- 'laws.FnExactBendPicture': WHATEVER THE INPUT: true; the input reads as it did. -/
def fnExactBendPictureSpec : ChangeSpec := { name := "fnExactBendPicture", fn := fun _ => fun
  | [d1, d2] => { results := [.lit (.bool true)], args := [d1, d2] }
  | _ => none }
def fnExactBendPictureRow : OpenClaim := { program := "ytbloibljjhddaac", sum := "6cc0bed0ca6d3456a7f63a82160da579f3e949126cd03290c3397b774749faaa", func := "loop.example/g01308/laws.FnExactBendPicture", spec := "fnExactBendPicture", inPlace := ["math.archFloor", "math.Float64bits", "math.Float64frombits", "math.archTrunc"], unfollowed := true, recurses := true, apart := false }
def FnExactBendPictureSaid : Prop := fnExactBendPictureRow.holds Try.pinned (OpenSpec.ofChange fnExactBendPictureSpec)

/-- ITS FALSE NEIGHBOUR: 'it returns false'. Refute it at one input. -/
def fnExactBendPictureWrong : ChangeSpec := { name := "fnExactBendPicture", fn := fun _ => fun
  | [d1, d2] => { results := [.lit (.bool false)], args := [d1, d2] }
  | _ => none }
def FnExactBendPictureWrongFalsely : Prop := fnExactBendPictureRow.holds Try.pinned (OpenSpec.ofChange fnExactBendPictureWrong)

/-- 'laws.FnExactValidCurve': WHATEVER THE INPUT: true; the input reads as it did. -/
def fnExactValidCurveSpec : ChangeSpec := { name := "fnExactValidCurve", fn := fun _ => fun
  | [d] => { results := [.lit (.bool true)], args := [d] }
  | _ => none }
def fnExactValidCurveRow : OpenClaim := { program := "ytbloibljjhddaac", sum := "6cc0bed0ca6d3456a7f63a82160da579f3e949126cd03290c3397b774749faaa", func := "loop.example/g01308/laws.FnExactValidCurve", spec := "fnExactValidCurve", inPlace := ["math.Float64bits", "math.Float64frombits"], apart := false }
def FnExactValidCurveSaid : Prop := fnExactValidCurveRow.holds Try.pinned (OpenSpec.ofChange fnExactValidCurveSpec)

/-- ITS FALSE NEIGHBOUR: 'it returns false'. Refute it at one input. -/
def fnExactValidCurveWrong : ChangeSpec := { name := "fnExactValidCurve", fn := fun _ => fun
  | [d] => { results := [.lit (.bool false)], args := [d] }
  | _ => none }
def FnExactValidCurveWrongFalsely : Prop := fnExactValidCurveRow.holds Try.pinned (OpenSpec.ofChange fnExactValidCurveWrong)

/-- 'laws.FnExactSameCurve': WHATEVER THE INPUT: true; the input reads as it did. -/
def fnExactSameCurveSpec : ChangeSpec := { name := "fnExactSameCurve", fn := fun _ => fun
  | [d1, d2] => { results := [.lit (.bool true)], args := [d1, d2] }
  | _ => none }
def fnExactSameCurveRow : OpenClaim := { program := "ytbloibljjhddaac", sum := "6cc0bed0ca6d3456a7f63a82160da579f3e949126cd03290c3397b774749faaa", func := "loop.example/g01308/laws.FnExactSameCurve", spec := "fnExactSameCurve", inPlace := ["math.Float32bits", "math.Float32frombits"], unfollowed := true, recurses := true, apart := false }
def FnExactSameCurveSaid : Prop := fnExactSameCurveRow.holds Try.pinned (OpenSpec.ofChange fnExactSameCurveSpec)

/-- ITS FALSE NEIGHBOUR: 'it returns false'. Refute it at one input. -/
def fnExactSameCurveWrong : ChangeSpec := { name := "fnExactSameCurve", fn := fun _ => fun
  | [d1, d2] => { results := [.lit (.bool false)], args := [d1, d2] }
  | _ => none }
def FnExactSameCurveWrongFalsely : Prop := fnExactSameCurveRow.holds Try.pinned (OpenSpec.ofChange fnExactSameCurveWrong)

/-- 'laws.FnExactToneAt': WHATEVER THE INPUT: true; the input reads as it did. -/
def fnExactToneAtSpec : ChangeSpec := { name := "fnExactToneAt", fn := fun _ => fun
  | [d1, d2] => { results := [.lit (.bool true)], args := [d1, d2] }
  | _ => none }
def fnExactToneAtRow : OpenClaim := { program := "ytbloibljjhddaac", sum := "6cc0bed0ca6d3456a7f63a82160da579f3e949126cd03290c3397b774749faaa", func := "loop.example/g01308/laws.FnExactToneAt", spec := "fnExactToneAt", inPlace := ["math.Float64bits", "math.Float64frombits"], unfollowed := true, recurses := true, apart := false }
def FnExactToneAtSaid : Prop := fnExactToneAtRow.holds Try.pinned (OpenSpec.ofChange fnExactToneAtSpec)

/-- ITS FALSE NEIGHBOUR: 'it returns false'. Refute it at one input. -/
def fnExactToneAtWrong : ChangeSpec := { name := "fnExactToneAt", fn := fun _ => fun
  | [d1, d2] => { results := [.lit (.bool false)], args := [d1, d2] }
  | _ => none }
def FnExactToneAtWrongFalsely : Prop := fnExactToneAtRow.holds Try.pinned (OpenSpec.ofChange fnExactToneAtWrong)

/-- 'laws.FnExactCurvePicture': WHATEVER THE INPUT: true; the input reads as it did. -/
def fnExactCurvePictureSpec : ChangeSpec := { name := "fnExactCurvePicture", fn := fun _ => fun
  | [d1, d2] => { results := [.lit (.bool true)], args := [d1, d2] }
  | _ => none }
def fnExactCurvePictureRow : OpenClaim := { program := "ytbloibljjhddaac", sum := "6cc0bed0ca6d3456a7f63a82160da579f3e949126cd03290c3397b774749faaa", func := "loop.example/g01308/laws.FnExactCurvePicture", spec := "fnExactCurvePicture", inPlace := ["math.Float64bits", "math.Float64frombits"], unfollowed := true, recurses := true, apart := false }
def FnExactCurvePictureSaid : Prop := fnExactCurvePictureRow.holds Try.pinned (OpenSpec.ofChange fnExactCurvePictureSpec)

/-- ITS FALSE NEIGHBOUR: 'it returns false'. Refute it at one input. -/
def fnExactCurvePictureWrong : ChangeSpec := { name := "fnExactCurvePicture", fn := fun _ => fun
  | [d1, d2] => { results := [.lit (.bool false)], args := [d1, d2] }
  | _ => none }
def FnExactCurvePictureWrongFalsely : Prop := fnExactCurvePictureRow.holds Try.pinned (OpenSpec.ofChange fnExactCurvePictureWrong)

/-- 'laws.FnExactBackCurve': WHATEVER THE INPUT: true; the input reads as it did. -/
def fnExactBackCurveSpec : ChangeSpec := { name := "fnExactBackCurve", fn := fun _ => fun
  | [d] => { results := [.lit (.bool true)], args := [d] }
  | _ => none }
def fnExactBackCurveRow : OpenClaim := { program := "ytbloibljjhddaac", sum := "6cc0bed0ca6d3456a7f63a82160da579f3e949126cd03290c3397b774749faaa", func := "loop.example/g01308/laws.FnExactBackCurve", spec := "fnExactBackCurve", inPlace := ["math.Float64bits", "math.Float64frombits"], apart := false }
def FnExactBackCurveSaid : Prop := fnExactBackCurveRow.holds Try.pinned (OpenSpec.ofChange fnExactBackCurveSpec)

/-- ITS FALSE NEIGHBOUR: 'it returns false'. Refute it at one input. -/
def fnExactBackCurveWrong : ChangeSpec := { name := "fnExactBackCurve", fn := fun _ => fun
  | [d] => { results := [.lit (.bool false)], args := [d] }
  | _ => none }
def FnExactBackCurveWrongFalsely : Prop := fnExactBackCurveRow.holds Try.pinned (OpenSpec.ofChange fnExactBackCurveWrong)

/- THE SECOND FORM. 'bulk': how many values and letters a reading holds, each counted each time it is reached (what is shared counts as often as it is met; a slice's spare places count too). A statement '..UptoSaid' is the law's where the arguments, and the package variables that the reading takes, are together of bulk at most 1048576: NARROWER than '..Said'. Prove '..Said' where nothing that the law and all that it calls make is longer than what came in: it says more and counts as full. Else prove '..UptoSaid'. A law counts once. -/
mutual
def uptoBulk {H : Type} : DataW H → Nat
  | .lit (.string bytes) => bytes.length + 1
  | .lit _ => 1
  | .nil => 1
  | .ptr d => uptoBulk d + 1
  | .slice elems spare => uptoBulkAll elems + uptoBulkAll spare + 1
  | .agg parts => uptoBulkAll parts + 1
  | .iface _ d => uptoBulk d + 1
  | .map entries => uptoBulkEntries entries + 1
  | .held _ => 1
def uptoBulkAll {H : Type} : List (DataW H) → Nat
  | [] => 0
  | d :: r => uptoBulk d + uptoBulkAll r
def uptoBulkEntries {H : Type} : List (Lit × DataW H) → Nat
  | [] => 0
  | x :: r => uptoBulkEntry x + uptoBulkEntries r
def uptoBulkEntry {H : Type} : Lit × DataW H → Nat
  | (.string bytes, d) => bytes.length + uptoBulk d + 1
  | (_, d) => uptoBulk d + 1
 end
def uptoSmall : (H : Type) → List (DataW H) → Bool := fun _ ds => decide (uptoBulkAll ds ≤ 1048576)
def OpenSpec.upto (s : _root_.Go.ChangeSpec) : _root_.Go.OpenSpec := { _root_.Go.OpenSpec.ofChange s with cond := some uptoSmall }

/-- 'laws.FnBlurred', WHERE WHAT IT READS IS OF BULK AT MOST 1048576: true; the input reads as it did. -/
def fnBlurredUptoRow : OpenClaim := { program := "ytbloibljjhddaac", sum := "6cc0bed0ca6d3456a7f63a82160da579f3e949126cd03290c3397b774749faaa", func := "loop.example/g01308/laws.FnBlurred", spec := "fnBlurred", inPlace := ["math.Float64bits", "math.Float64frombits"], unfollowed := true, recurses := true, apart := false, narrowed := true }
def FnBlurredUptoSaid : Prop := fnBlurredUptoRow.holds Try.pinned (OpenSpec.upto fnBlurredSpec)

/-- 'laws.FnShaded', WHERE WHAT IT READS IS OF BULK AT MOST 1048576: true; the input reads as it did. -/
def fnShadedUptoRow : OpenClaim := { program := "ytbloibljjhddaac", sum := "6cc0bed0ca6d3456a7f63a82160da579f3e949126cd03290c3397b774749faaa", func := "loop.example/g01308/laws.FnShaded", spec := "fnShaded", inPlace := ["math.Float64bits", "math.Float64frombits", "math.archFloor", "math.archTrunc", "math.sqrt"], unfollowed := true, recurses := true, apart := false, narrowed := true }
def FnShadedUptoSaid : Prop := fnShadedUptoRow.holds Try.pinned (OpenSpec.upto fnShadedSpec)

/-- 'laws.FnSpots', WHERE WHAT IT READS IS OF BULK AT MOST 1048576: true; the input reads as it did. -/
def fnSpotsUptoRow : OpenClaim := { program := "ytbloibljjhddaac", sum := "6cc0bed0ca6d3456a7f63a82160da579f3e949126cd03290c3397b774749faaa", func := "loop.example/g01308/laws.FnSpots", spec := "fnSpots", inPlace := ["math.Float64bits", "math.Float64frombits", "math.Float32frombits"], apart := false, narrowed := true }
def FnSpotsUptoSaid : Prop := fnSpotsUptoRow.holds Try.pinned (OpenSpec.upto fnSpotsSpec)

/-- 'laws.FnMatrices', WHERE WHAT IT READS IS OF BULK AT MOST 1048576: true; the input reads as it did. -/
def fnMatricesUptoRow : OpenClaim := { program := "ytbloibljjhddaac", sum := "6cc0bed0ca6d3456a7f63a82160da579f3e949126cd03290c3397b774749faaa", func := "loop.example/g01308/laws.FnMatrices", spec := "fnMatrices", inPlace := ["math.Float64bits", "math.Float64frombits", "math.Float32frombits", "math.Float32bits"], unfollowed := true, recurses := true, apart := false, narrowed := true }
def FnMatricesUptoSaid : Prop := fnMatricesUptoRow.holds Try.pinned (OpenSpec.upto fnMatricesSpec)

/-- 'laws.FnExactShiftPicture', WHERE WHAT IT READS IS OF BULK AT MOST 1048576: true; the input reads as it did. -/
def fnExactShiftPictureUptoRow : OpenClaim := { program := "ytbloibljjhddaac", sum := "6cc0bed0ca6d3456a7f63a82160da579f3e949126cd03290c3397b774749faaa", func := "loop.example/g01308/laws.FnExactShiftPicture", spec := "fnExactShiftPicture", inPlace := ["math.Float64bits", "math.Float64frombits"], unfollowed := true, recurses := true, apart := false, narrowed := true }
def FnExactShiftPictureUptoSaid : Prop := fnExactShiftPictureUptoRow.holds Try.pinned (OpenSpec.upto fnExactShiftPictureSpec)

/-- 'laws.FnExactBendPicture', WHERE WHAT IT READS IS OF BULK AT MOST 1048576: true; the input reads as it did. -/
def fnExactBendPictureUptoRow : OpenClaim := { program := "ytbloibljjhddaac", sum := "6cc0bed0ca6d3456a7f63a82160da579f3e949126cd03290c3397b774749faaa", func := "loop.example/g01308/laws.FnExactBendPicture", spec := "fnExactBendPicture", inPlace := ["math.archFloor", "math.Float64bits", "math.Float64frombits", "math.archTrunc"], unfollowed := true, recurses := true, apart := false, narrowed := true }
def FnExactBendPictureUptoSaid : Prop := fnExactBendPictureUptoRow.holds Try.pinned (OpenSpec.upto fnExactBendPictureSpec)

/-- 'laws.FnExactValidCurve', WHERE WHAT IT READS IS OF BULK AT MOST 1048576: true; the input reads as it did. -/
def fnExactValidCurveUptoRow : OpenClaim := { program := "ytbloibljjhddaac", sum := "6cc0bed0ca6d3456a7f63a82160da579f3e949126cd03290c3397b774749faaa", func := "loop.example/g01308/laws.FnExactValidCurve", spec := "fnExactValidCurve", inPlace := ["math.Float64bits", "math.Float64frombits"], apart := false, narrowed := true }
def FnExactValidCurveUptoSaid : Prop := fnExactValidCurveUptoRow.holds Try.pinned (OpenSpec.upto fnExactValidCurveSpec)

/-- 'laws.FnExactSameCurve', WHERE WHAT IT READS IS OF BULK AT MOST 1048576: true; the input reads as it did. -/
def fnExactSameCurveUptoRow : OpenClaim := { program := "ytbloibljjhddaac", sum := "6cc0bed0ca6d3456a7f63a82160da579f3e949126cd03290c3397b774749faaa", func := "loop.example/g01308/laws.FnExactSameCurve", spec := "fnExactSameCurve", inPlace := ["math.Float32bits", "math.Float32frombits"], unfollowed := true, recurses := true, apart := false, narrowed := true }
def FnExactSameCurveUptoSaid : Prop := fnExactSameCurveUptoRow.holds Try.pinned (OpenSpec.upto fnExactSameCurveSpec)

/-- 'laws.FnExactToneAt', WHERE WHAT IT READS IS OF BULK AT MOST 1048576: true; the input reads as it did. -/
def fnExactToneAtUptoRow : OpenClaim := { program := "ytbloibljjhddaac", sum := "6cc0bed0ca6d3456a7f63a82160da579f3e949126cd03290c3397b774749faaa", func := "loop.example/g01308/laws.FnExactToneAt", spec := "fnExactToneAt", inPlace := ["math.Float64bits", "math.Float64frombits"], unfollowed := true, recurses := true, apart := false, narrowed := true }
def FnExactToneAtUptoSaid : Prop := fnExactToneAtUptoRow.holds Try.pinned (OpenSpec.upto fnExactToneAtSpec)

/-- 'laws.FnExactCurvePicture', WHERE WHAT IT READS IS OF BULK AT MOST 1048576: true; the input reads as it did. -/
def fnExactCurvePictureUptoRow : OpenClaim := { program := "ytbloibljjhddaac", sum := "6cc0bed0ca6d3456a7f63a82160da579f3e949126cd03290c3397b774749faaa", func := "loop.example/g01308/laws.FnExactCurvePicture", spec := "fnExactCurvePicture", inPlace := ["math.Float64bits", "math.Float64frombits"], unfollowed := true, recurses := true, apart := false, narrowed := true }
def FnExactCurvePictureUptoSaid : Prop := fnExactCurvePictureUptoRow.holds Try.pinned (OpenSpec.upto fnExactCurvePictureSpec)

/-- 'laws.FnExactBackCurve', WHERE WHAT IT READS IS OF BULK AT MOST 1048576: true; the input reads as it did. -/
def fnExactBackCurveUptoRow : OpenClaim := { program := "ytbloibljjhddaac", sum := "6cc0bed0ca6d3456a7f63a82160da579f3e949126cd03290c3397b774749faaa", func := "loop.example/g01308/laws.FnExactBackCurve", spec := "fnExactBackCurve", inPlace := ["math.Float64bits", "math.Float64frombits"], apart := false, narrowed := true }
def FnExactBackCurveUptoSaid : Prop := fnExactBackCurveUptoRow.holds Try.pinned (OpenSpec.upto fnExactBackCurveSpec)

end Rows
end Go.Proofs.Ytbloibljjhddaac
