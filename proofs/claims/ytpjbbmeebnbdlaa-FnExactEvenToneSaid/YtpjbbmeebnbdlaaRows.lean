/-
  No cell of these rows narrows 'for every input' (looked for: loops, veiled, ifaces, maps, wideKeys, modest, calm, conditions, laid).
  DERIVED. THE GIVEN ROWS OF THIS SEAT. 12 by the template 'for every input the law returns true; each argument reads behind the call as it read before'; 0 by the template 'total and deterministic' (their statements: YtpjbbmeebnbdlaaTotals.lean).
  GIVEN WITH THE SEED: the statements are not yours to turn. If you find one false, say at which input.
  Laid BY PROGRAM, IN A SANDBOX (cutbox-rows.mjs): the forced cells as the released guide's own fill.sh prints them over the translation a4b4ac6762dfce32… (all of the seat's roots in one cut). By AI agents, Wed Nov 11 2026. No macro, syntax, notation, axiom, sorry.
-/
import Derived.Test.YtpjbbmeebnbdlaaChecked
import GoSem.Claim
import GoSem.ClaimJoined
import GoSem.ClaimMapViews
import Derived.JoinedTies
import Derived.KernelRfl
namespace Go.Proofs.Ytpjbbmeebnbdlaa
/- THE CELL 'sum', in the pinned program and in every row, IS THE sha256 OF THE DUMP (.gsa) THAT YtpjbbmeebnbdlaaProg.lean LOADS. Nothing in Lean hashes anything: it is a label: what it is worth is what the hold of that sum in a sandbox is worth. -/
noncomputable def Try.pinned : Pinned := { name := "ytpjbbmeebnbdlaa", sum := "a4b4ac6762dfce32ffc437974bcdb81599da29dd857956c7ea1cddb7bad8962a", checked := Try.checked }
namespace Rows
def none {H : Type} : Left H := { results := [], args := [] }

/-- 'laws.FnExactValidCurve': WHATEVER THE INPUT: true; the input reads as it did. -/
def fnExactValidCurveSpec : ChangeSpec := { name := "fnExactValidCurve", fn := fun _ => fun
  | [d] => { results := [.lit (.bool true)], args := [d] }
  | _ => none }
def fnExactValidCurveRow : OpenClaim := { program := "ytpjbbmeebnbdlaa", sum := "a4b4ac6762dfce32ffc437974bcdb81599da29dd857956c7ea1cddb7bad8962a", func := "loop.example/g01308/laws.FnExactValidCurve", spec := "fnExactValidCurve", inPlace := ["math.Float64bits", "math.Float64frombits"], apart := false }
def FnExactValidCurveSaid : Prop := fnExactValidCurveRow.holds Try.pinned (OpenSpec.ofChange fnExactValidCurveSpec)

/-- ITS FALSE NEIGHBOUR: 'it returns false'. Refute it at one input. -/
def fnExactValidCurveWrong : ChangeSpec := { name := "fnExactValidCurve", fn := fun _ => fun
  | [d] => { results := [.lit (.bool false)], args := [d] }
  | _ => none }
def FnExactValidCurveWrongFalsely : Prop := fnExactValidCurveRow.holds Try.pinned (OpenSpec.ofChange fnExactValidCurveWrong)

/-- 'laws.FnExactSameCurve': WHATEVER THE INPUT: true; the input reads as it did. -/
def fnExactSameCurveSpec : ChangeSpec := { name := "fnExactSameCurve", fn := fun _ => fun
  | [d1, d2] => { results := [.lit (.bool true)], args := [d1, d2] }
  | _ => none }
def fnExactSameCurveRow : OpenClaim := { program := "ytpjbbmeebnbdlaa", sum := "a4b4ac6762dfce32ffc437974bcdb81599da29dd857956c7ea1cddb7bad8962a", func := "loop.example/g01308/laws.FnExactSameCurve", spec := "fnExactSameCurve", inPlace := ["math.Float32bits", "math.Float32frombits"], unfollowed := true, recurses := true, apart := false }
def FnExactSameCurveSaid : Prop := fnExactSameCurveRow.holds Try.pinned (OpenSpec.ofChange fnExactSameCurveSpec)

/-- ITS FALSE NEIGHBOUR: 'it returns false'. Refute it at one input. -/
def fnExactSameCurveWrong : ChangeSpec := { name := "fnExactSameCurve", fn := fun _ => fun
  | [d1, d2] => { results := [.lit (.bool false)], args := [d1, d2] }
  | _ => none }
def FnExactSameCurveWrongFalsely : Prop := fnExactSameCurveRow.holds Try.pinned (OpenSpec.ofChange fnExactSameCurveWrong)

/-- 'laws.FnExactToneAt': WHATEVER THE INPUT: true; the input reads as it did. -/
def fnExactToneAtSpec : ChangeSpec := { name := "fnExactToneAt", fn := fun _ => fun
  | [d1, d2] => { results := [.lit (.bool true)], args := [d1, d2] }
  | _ => none }
def fnExactToneAtRow : OpenClaim := { program := "ytpjbbmeebnbdlaa", sum := "a4b4ac6762dfce32ffc437974bcdb81599da29dd857956c7ea1cddb7bad8962a", func := "loop.example/g01308/laws.FnExactToneAt", spec := "fnExactToneAt", inPlace := ["math.Float64bits", "math.Float64frombits"], unfollowed := true, recurses := true, apart := false }
def FnExactToneAtSaid : Prop := fnExactToneAtRow.holds Try.pinned (OpenSpec.ofChange fnExactToneAtSpec)

/-- ITS FALSE NEIGHBOUR: 'it returns false'. Refute it at one input. -/
def fnExactToneAtWrong : ChangeSpec := { name := "fnExactToneAt", fn := fun _ => fun
  | [d1, d2] => { results := [.lit (.bool false)], args := [d1, d2] }
  | _ => none }
def FnExactToneAtWrongFalsely : Prop := fnExactToneAtRow.holds Try.pinned (OpenSpec.ofChange fnExactToneAtWrong)

/-- 'laws.FnExactCurvePicture': WHATEVER THE INPUT: true; the input reads as it did. -/
def fnExactCurvePictureSpec : ChangeSpec := { name := "fnExactCurvePicture", fn := fun _ => fun
  | [d1, d2] => { results := [.lit (.bool true)], args := [d1, d2] }
  | _ => none }
def fnExactCurvePictureRow : OpenClaim := { program := "ytpjbbmeebnbdlaa", sum := "a4b4ac6762dfce32ffc437974bcdb81599da29dd857956c7ea1cddb7bad8962a", func := "loop.example/g01308/laws.FnExactCurvePicture", spec := "fnExactCurvePicture", inPlace := ["math.Float64bits", "math.Float64frombits"], unfollowed := true, recurses := true, apart := false }
def FnExactCurvePictureSaid : Prop := fnExactCurvePictureRow.holds Try.pinned (OpenSpec.ofChange fnExactCurvePictureSpec)

/-- ITS FALSE NEIGHBOUR: 'it returns false'. Refute it at one input. -/
def fnExactCurvePictureWrong : ChangeSpec := { name := "fnExactCurvePicture", fn := fun _ => fun
  | [d1, d2] => { results := [.lit (.bool false)], args := [d1, d2] }
  | _ => none }
def FnExactCurvePictureWrongFalsely : Prop := fnExactCurvePictureRow.holds Try.pinned (OpenSpec.ofChange fnExactCurvePictureWrong)

/-- 'laws.FnExactBackCurve': WHATEVER THE INPUT: true; the input reads as it did. -/
def fnExactBackCurveSpec : ChangeSpec := { name := "fnExactBackCurve", fn := fun _ => fun
  | [d] => { results := [.lit (.bool true)], args := [d] }
  | _ => none }
def fnExactBackCurveRow : OpenClaim := { program := "ytpjbbmeebnbdlaa", sum := "a4b4ac6762dfce32ffc437974bcdb81599da29dd857956c7ea1cddb7bad8962a", func := "loop.example/g01308/laws.FnExactBackCurve", spec := "fnExactBackCurve", inPlace := ["math.Float64bits", "math.Float64frombits"], apart := false }
def FnExactBackCurveSaid : Prop := fnExactBackCurveRow.holds Try.pinned (OpenSpec.ofChange fnExactBackCurveSpec)

/-- ITS FALSE NEIGHBOUR: 'it returns false'. Refute it at one input. -/
def fnExactBackCurveWrong : ChangeSpec := { name := "fnExactBackCurve", fn := fun _ => fun
  | [d] => { results := [.lit (.bool false)], args := [d] }
  | _ => none }
def FnExactBackCurveWrongFalsely : Prop := fnExactBackCurveRow.holds Try.pinned (OpenSpec.ofChange fnExactBackCurveWrong)

/-- 'laws.FnExactPressedLight': WHATEVER THE INPUT: true; the input reads as it did. -/
def fnExactPressedLightSpec : ChangeSpec := { name := "fnExactPressedLight", fn := fun _ => fun
  | [d1, d2] => { results := [.lit (.bool true)], args := [d1, d2] }
  | _ => none }
def fnExactPressedLightRow : OpenClaim := { program := "ytpjbbmeebnbdlaa", sum := "a4b4ac6762dfce32ffc437974bcdb81599da29dd857956c7ea1cddb7bad8962a", func := "loop.example/g01308/laws.FnExactPressedLight", spec := "fnExactPressedLight", inPlace := ["math.Float64bits", "math.Float64frombits"], unfollowed := true, recurses := true, apart := false }
def FnExactPressedLightSaid : Prop := fnExactPressedLightRow.holds Try.pinned (OpenSpec.ofChange fnExactPressedLightSpec)

/-- ITS FALSE NEIGHBOUR: 'it returns false'. Refute it at one input. -/
def fnExactPressedLightWrong : ChangeSpec := { name := "fnExactPressedLight", fn := fun _ => fun
  | [d1, d2] => { results := [.lit (.bool false)], args := [d1, d2] }
  | _ => none }
def FnExactPressedLightWrongFalsely : Prop := fnExactPressedLightRow.holds Try.pinned (OpenSpec.ofChange fnExactPressedLightWrong)

/-- 'laws.FnExactFilmLight': WHATEVER THE INPUT: true; the input reads as it did. -/
def fnExactFilmLightSpec : ChangeSpec := { name := "fnExactFilmLight", fn := fun _ => fun
  | [d] => { results := [.lit (.bool true)], args := [d] }
  | _ => none }
def fnExactFilmLightRow : OpenClaim := { program := "ytpjbbmeebnbdlaa", sum := "a4b4ac6762dfce32ffc437974bcdb81599da29dd857956c7ea1cddb7bad8962a", func := "loop.example/g01308/laws.FnExactFilmLight", spec := "fnExactFilmLight", inPlace := ["math.Float64bits", "math.Float64frombits"], apart := false }
def FnExactFilmLightSaid : Prop := fnExactFilmLightRow.holds Try.pinned (OpenSpec.ofChange fnExactFilmLightSpec)

/-- ITS FALSE NEIGHBOUR: 'it returns false'. Refute it at one input. -/
def fnExactFilmLightWrong : ChangeSpec := { name := "fnExactFilmLight", fn := fun _ => fun
  | [d] => { results := [.lit (.bool false)], args := [d] }
  | _ => none }
def FnExactFilmLightWrongFalsely : Prop := fnExactFilmLightRow.holds Try.pinned (OpenSpec.ofChange fnExactFilmLightWrong)

/-- 'laws.FnExactExponentCounts': WHATEVER THE INPUT: true; the input reads as it did. -/
def fnExactExponentCountsSpec : ChangeSpec := { name := "fnExactExponentCounts", fn := fun _ => fun
  | [d] => { results := [.lit (.bool true)], args := [d] }
  | _ => none }
def fnExactExponentCountsRow : OpenClaim := { program := "ytpjbbmeebnbdlaa", sum := "a4b4ac6762dfce32ffc437974bcdb81599da29dd857956c7ea1cddb7bad8962a", func := "loop.example/g01308/laws.FnExactExponentCounts", spec := "fnExactExponentCounts", inPlace := ["math.Float64bits", "math.Float64frombits"], apart := false }
def FnExactExponentCountsSaid : Prop := fnExactExponentCountsRow.holds Try.pinned (OpenSpec.ofChange fnExactExponentCountsSpec)

/-- ITS FALSE NEIGHBOUR: 'it returns false'. Refute it at one input. -/
def fnExactExponentCountsWrong : ChangeSpec := { name := "fnExactExponentCounts", fn := fun _ => fun
  | [d] => { results := [.lit (.bool false)], args := [d] }
  | _ => none }
def FnExactExponentCountsWrongFalsely : Prop := fnExactExponentCountsRow.holds Try.pinned (OpenSpec.ofChange fnExactExponentCountsWrong)

/-- 'laws.FnExactQuantileOf': WHATEVER THE INPUT: true; the input reads as it did. -/
def fnExactQuantileOfSpec : ChangeSpec := { name := "fnExactQuantileOf", fn := fun _ => fun
  | [d1, d2] => { results := [.lit (.bool true)], args := [d1, d2] }
  | _ => none }
def fnExactQuantileOfRow : OpenClaim := { program := "ytpjbbmeebnbdlaa", sum := "a4b4ac6762dfce32ffc437974bcdb81599da29dd857956c7ea1cddb7bad8962a", func := "loop.example/g01308/laws.FnExactQuantileOf", spec := "fnExactQuantileOf", inPlace := ["math.archFloor", "math.Float64bits", "math.Float64frombits", "math.archTrunc", "slices.overlaps[float32]"], apart := false }
def FnExactQuantileOfSaid : Prop := fnExactQuantileOfRow.holds Try.pinned (OpenSpec.ofChange fnExactQuantileOfSpec)

/-- ITS FALSE NEIGHBOUR: 'it returns false'. Refute it at one input. -/
def fnExactQuantileOfWrong : ChangeSpec := { name := "fnExactQuantileOf", fn := fun _ => fun
  | [d1, d2] => { results := [.lit (.bool false)], args := [d1, d2] }
  | _ => none }
def FnExactQuantileOfWrongFalsely : Prop := fnExactQuantileOfRow.holds Try.pinned (OpenSpec.ofChange fnExactQuantileOfWrong)

/-- 'laws.FnExactEvenTone': WHATEVER THE INPUT: true; the input reads as it did. -/
def fnExactEvenToneSpec : ChangeSpec := { name := "fnExactEvenTone", fn := fun _ => fun
  | [d] => { results := [.lit (.bool true)], args := [d] }
  | _ => none }
def fnExactEvenToneRow : OpenClaim := { program := "ytpjbbmeebnbdlaa", sum := "a4b4ac6762dfce32ffc437974bcdb81599da29dd857956c7ea1cddb7bad8962a", func := "loop.example/g01308/laws.FnExactEvenTone", spec := "fnExactEvenTone", inPlace := ["math.Float64bits", "math.Float64frombits"], unfollowed := true, recurses := true, apart := false }
def FnExactEvenToneSaid : Prop := fnExactEvenToneRow.holds Try.pinned (OpenSpec.ofChange fnExactEvenToneSpec)

/-- ITS FALSE NEIGHBOUR: 'it returns false'. Refute it at one input. -/
def fnExactEvenToneWrong : ChangeSpec := { name := "fnExactEvenTone", fn := fun _ => fun
  | [d] => { results := [.lit (.bool false)], args := [d] }
  | _ => none }
def FnExactEvenToneWrongFalsely : Prop := fnExactEvenToneRow.holds Try.pinned (OpenSpec.ofChange fnExactEvenToneWrong)

/-- 'laws.FnExactHalvePicture': WHATEVER THE INPUT: true; the input reads as it did. -/
def fnExactHalvePictureSpec : ChangeSpec := { name := "fnExactHalvePicture", fn := fun _ => fun
  | [d] => { results := [.lit (.bool true)], args := [d] }
  | _ => none }
def fnExactHalvePictureRow : OpenClaim := { program := "ytpjbbmeebnbdlaa", sum := "a4b4ac6762dfce32ffc437974bcdb81599da29dd857956c7ea1cddb7bad8962a", func := "loop.example/g01308/laws.FnExactHalvePicture", spec := "fnExactHalvePicture", inPlace := ["math.Float64bits", "math.Float64frombits"], unfollowed := true, recurses := true, apart := false }
def FnExactHalvePictureSaid : Prop := fnExactHalvePictureRow.holds Try.pinned (OpenSpec.ofChange fnExactHalvePictureSpec)

/-- ITS FALSE NEIGHBOUR: 'it returns false'. Refute it at one input. -/
def fnExactHalvePictureWrong : ChangeSpec := { name := "fnExactHalvePicture", fn := fun _ => fun
  | [d] => { results := [.lit (.bool false)], args := [d] }
  | _ => none }
def FnExactHalvePictureWrongFalsely : Prop := fnExactHalvePictureRow.holds Try.pinned (OpenSpec.ofChange fnExactHalvePictureWrong)

/-- 'laws.FnExactDoublePicture': WHATEVER THE INPUT: true; the input reads as it did. -/
def fnExactDoublePictureSpec : ChangeSpec := { name := "fnExactDoublePicture", fn := fun _ => fun
  | [d1, d2, d3] => { results := [.lit (.bool true)], args := [d1, d2, d3] }
  | _ => none }
def fnExactDoublePictureRow : OpenClaim := { program := "ytpjbbmeebnbdlaa", sum := "a4b4ac6762dfce32ffc437974bcdb81599da29dd857956c7ea1cddb7bad8962a", func := "loop.example/g01308/laws.FnExactDoublePicture", spec := "fnExactDoublePicture", inPlace := ["math.Float64bits", "math.Float64frombits"], unfollowed := true, recurses := true, apart := false }
def FnExactDoublePictureSaid : Prop := fnExactDoublePictureRow.holds Try.pinned (OpenSpec.ofChange fnExactDoublePictureSpec)

/-- ITS FALSE NEIGHBOUR: 'it returns false'. Refute it at one input. -/
def fnExactDoublePictureWrong : ChangeSpec := { name := "fnExactDoublePicture", fn := fun _ => fun
  | [d1, d2, d3] => { results := [.lit (.bool false)], args := [d1, d2, d3] }
  | _ => none }
def FnExactDoublePictureWrongFalsely : Prop := fnExactDoublePictureRow.holds Try.pinned (OpenSpec.ofChange fnExactDoublePictureWrong)

/- THE SECOND FORM. 'bulk': how many values and letters a reading holds, each counted each time it is reached (what is shared counts as often as it is met; a slice's spare places count too). A statement '..UptoSaid' is the law's where the arguments, and the package variables that the reading takes, are together of bulk at most 1048576: NARROWER than '..Said'. Prove '..Said' where nothing that the law and all that it calls make is longer than what came in: it says more and counts as full. Else prove '..UptoSaid'. A law counts once. -/
mutual
def uptoBulk {H : Type} : DataW H → Nat
  | .lit (.string bytes) => bytes.length + 1
  | .lit _ => 1
  | .nil => 1
  | .ptr d => uptoBulk d + 1
  | .slice elems spare => uptoBulkAll elems + uptoBulkAll spare + 1
  | .agg parts => uptoBulkAll parts + 1
  | .iface _ d => uptoBulk d + 1
  | .map entries => uptoBulkEntries entries + 1
  | .held _ => 1
def uptoBulkAll {H : Type} : List (DataW H) → Nat
  | [] => 0
  | d :: r => uptoBulk d + uptoBulkAll r
def uptoBulkEntries {H : Type} : List (Lit × DataW H) → Nat
  | [] => 0
  | x :: r => uptoBulkEntry x + uptoBulkEntries r
def uptoBulkEntry {H : Type} : Lit × DataW H → Nat
  | (.string bytes, d) => bytes.length + uptoBulk d + 1
  | (_, d) => uptoBulk d + 1
 end
def uptoSmall : (H : Type) → List (DataW H) → Bool := fun _ ds => decide (uptoBulkAll ds ≤ 1048576)
def OpenSpec.upto (s : _root_.Go.ChangeSpec) : _root_.Go.OpenSpec := { _root_.Go.OpenSpec.ofChange s with cond := some uptoSmall }

/-- 'laws.FnExactValidCurve', WHERE WHAT IT READS IS OF BULK AT MOST 1048576: true; the input reads as it did. -/
def fnExactValidCurveUptoRow : OpenClaim := { program := "ytpjbbmeebnbdlaa", sum := "a4b4ac6762dfce32ffc437974bcdb81599da29dd857956c7ea1cddb7bad8962a", func := "loop.example/g01308/laws.FnExactValidCurve", spec := "fnExactValidCurve", inPlace := ["math.Float64bits", "math.Float64frombits"], apart := false, narrowed := true }
def FnExactValidCurveUptoSaid : Prop := fnExactValidCurveUptoRow.holds Try.pinned (OpenSpec.upto fnExactValidCurveSpec)

/-- 'laws.FnExactSameCurve', WHERE WHAT IT READS IS OF BULK AT MOST 1048576: true; the input reads as it did. -/
def fnExactSameCurveUptoRow : OpenClaim := { program := "ytpjbbmeebnbdlaa", sum := "a4b4ac6762dfce32ffc437974bcdb81599da29dd857956c7ea1cddb7bad8962a", func := "loop.example/g01308/laws.FnExactSameCurve", spec := "fnExactSameCurve", inPlace := ["math.Float32bits", "math.Float32frombits"], unfollowed := true, recurses := true, apart := false, narrowed := true }
def FnExactSameCurveUptoSaid : Prop := fnExactSameCurveUptoRow.holds Try.pinned (OpenSpec.upto fnExactSameCurveSpec)

/-- 'laws.FnExactToneAt', WHERE WHAT IT READS IS OF BULK AT MOST 1048576: true; the input reads as it did. -/
def fnExactToneAtUptoRow : OpenClaim := { program := "ytpjbbmeebnbdlaa", sum := "a4b4ac6762dfce32ffc437974bcdb81599da29dd857956c7ea1cddb7bad8962a", func := "loop.example/g01308/laws.FnExactToneAt", spec := "fnExactToneAt", inPlace := ["math.Float64bits", "math.Float64frombits"], unfollowed := true, recurses := true, apart := false, narrowed := true }
def FnExactToneAtUptoSaid : Prop := fnExactToneAtUptoRow.holds Try.pinned (OpenSpec.upto fnExactToneAtSpec)

/-- 'laws.FnExactCurvePicture', WHERE WHAT IT READS IS OF BULK AT MOST 1048576: true; the input reads as it did. -/
def fnExactCurvePictureUptoRow : OpenClaim := { program := "ytpjbbmeebnbdlaa", sum := "a4b4ac6762dfce32ffc437974bcdb81599da29dd857956c7ea1cddb7bad8962a", func := "loop.example/g01308/laws.FnExactCurvePicture", spec := "fnExactCurvePicture", inPlace := ["math.Float64bits", "math.Float64frombits"], unfollowed := true, recurses := true, apart := false, narrowed := true }
def FnExactCurvePictureUptoSaid : Prop := fnExactCurvePictureUptoRow.holds Try.pinned (OpenSpec.upto fnExactCurvePictureSpec)

/-- 'laws.FnExactBackCurve', WHERE WHAT IT READS IS OF BULK AT MOST 1048576: true; the input reads as it did. -/
def fnExactBackCurveUptoRow : OpenClaim := { program := "ytpjbbmeebnbdlaa", sum := "a4b4ac6762dfce32ffc437974bcdb81599da29dd857956c7ea1cddb7bad8962a", func := "loop.example/g01308/laws.FnExactBackCurve", spec := "fnExactBackCurve", inPlace := ["math.Float64bits", "math.Float64frombits"], apart := false, narrowed := true }
def FnExactBackCurveUptoSaid : Prop := fnExactBackCurveUptoRow.holds Try.pinned (OpenSpec.upto fnExactBackCurveSpec)

/-- 'laws.FnExactPressedLight', WHERE WHAT IT READS IS OF BULK AT MOST 1048576: true; the input reads as it did. -/
def fnExactPressedLightUptoRow : OpenClaim := { program := "ytpjbbmeebnbdlaa", sum := "a4b4ac6762dfce32ffc437974bcdb81599da29dd857956c7ea1cddb7bad8962a", func := "loop.example/g01308/laws.FnExactPressedLight", spec := "fnExactPressedLight", inPlace := ["math.Float64bits", "math.Float64frombits"], unfollowed := true, recurses := true, apart := false, narrowed := true }
def FnExactPressedLightUptoSaid : Prop := fnExactPressedLightUptoRow.holds Try.pinned (OpenSpec.upto fnExactPressedLightSpec)

/-- 'laws.FnExactFilmLight', WHERE WHAT IT READS IS OF BULK AT MOST 1048576: true; the input reads as it did. -/
def fnExactFilmLightUptoRow : OpenClaim := { program := "ytpjbbmeebnbdlaa", sum := "a4b4ac6762dfce32ffc437974bcdb81599da29dd857956c7ea1cddb7bad8962a", func := "loop.example/g01308/laws.FnExactFilmLight", spec := "fnExactFilmLight", inPlace := ["math.Float64bits", "math.Float64frombits"], apart := false, narrowed := true }
def FnExactFilmLightUptoSaid : Prop := fnExactFilmLightUptoRow.holds Try.pinned (OpenSpec.upto fnExactFilmLightSpec)

/-- 'laws.FnExactExponentCounts', WHERE WHAT IT READS IS OF BULK AT MOST 1048576: true; the input reads as it did. -/
def fnExactExponentCountsUptoRow : OpenClaim := { program := "ytpjbbmeebnbdlaa", sum := "a4b4ac6762dfce32ffc437974bcdb81599da29dd857956c7ea1cddb7bad8962a", func := "loop.example/g01308/laws.FnExactExponentCounts", spec := "fnExactExponentCounts", inPlace := ["math.Float64bits", "math.Float64frombits"], apart := false, narrowed := true }
def FnExactExponentCountsUptoSaid : Prop := fnExactExponentCountsUptoRow.holds Try.pinned (OpenSpec.upto fnExactExponentCountsSpec)

/-- 'laws.FnExactQuantileOf', WHERE WHAT IT READS IS OF BULK AT MOST 1048576: true; the input reads as it did. -/
def fnExactQuantileOfUptoRow : OpenClaim := { program := "ytpjbbmeebnbdlaa", sum := "a4b4ac6762dfce32ffc437974bcdb81599da29dd857956c7ea1cddb7bad8962a", func := "loop.example/g01308/laws.FnExactQuantileOf", spec := "fnExactQuantileOf", inPlace := ["math.archFloor", "math.Float64bits", "math.Float64frombits", "math.archTrunc", "slices.overlaps[float32]"], apart := false, narrowed := true }
def FnExactQuantileOfUptoSaid : Prop := fnExactQuantileOfUptoRow.holds Try.pinned (OpenSpec.upto fnExactQuantileOfSpec)

/-- 'laws.FnExactEvenTone', WHERE WHAT IT READS IS OF BULK AT MOST 1048576: true; the input reads as it did. -/
def fnExactEvenToneUptoRow : OpenClaim := { program := "ytpjbbmeebnbdlaa", sum := "a4b4ac6762dfce32ffc437974bcdb81599da29dd857956c7ea1cddb7bad8962a", func := "loop.example/g01308/laws.FnExactEvenTone", spec := "fnExactEvenTone", inPlace := ["math.Float64bits", "math.Float64frombits"], unfollowed := true, recurses := true, apart := false, narrowed := true }
def FnExactEvenToneUptoSaid : Prop := fnExactEvenToneUptoRow.holds Try.pinned (OpenSpec.upto fnExactEvenToneSpec)

/-- 'laws.FnExactHalvePicture', WHERE WHAT IT READS IS OF BULK AT MOST 1048576: true; the input reads as it did. -/
def fnExactHalvePictureUptoRow : OpenClaim := { program := "ytpjbbmeebnbdlaa", sum := "a4b4ac6762dfce32ffc437974bcdb81599da29dd857956c7ea1cddb7bad8962a", func := "loop.example/g01308/laws.FnExactHalvePicture", spec := "fnExactHalvePicture", inPlace := ["math.Float64bits", "math.Float64frombits"], unfollowed := true, recurses := true, apart := false, narrowed := true }
def FnExactHalvePictureUptoSaid : Prop := fnExactHalvePictureUptoRow.holds Try.pinned (OpenSpec.upto fnExactHalvePictureSpec)

/-- 'laws.FnExactDoublePicture', WHERE WHAT IT READS IS OF BULK AT MOST 1048576: true; the input reads as it did. -/
def fnExactDoublePictureUptoRow : OpenClaim := { program := "ytpjbbmeebnbdlaa", sum := "a4b4ac6762dfce32ffc437974bcdb81599da29dd857956c7ea1cddb7bad8962a", func := "loop.example/g01308/laws.FnExactDoublePicture", spec := "fnExactDoublePicture", inPlace := ["math.Float64bits", "math.Float64frombits"], unfollowed := true, recurses := true, apart := false, narrowed := true }
def FnExactDoublePictureUptoSaid : Prop := fnExactDoublePictureUptoRow.holds Try.pinned (OpenSpec.upto fnExactDoublePictureSpec)

end Rows
end Go.Proofs.Ytpjbbmeebnbdlaa
