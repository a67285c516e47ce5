/-
  No cell of these rows narrows 'for every input' (looked for: loops, veiled, ifaces, maps, wideKeys, modest, calm, conditions, laid).
  DERIVED. THE GIVEN ROWS OF THIS SEAT. 12 by the template 'for every input the law returns true; each argument reads behind the call as it read before'; 0 by the template 'total and deterministic' (their statements: YtnnldhfgnmcfiabTotals.lean).
  GIVEN WITH THE SEED: the statements are not yours to turn. If you find one false, say at which input.
  Laid BY PROGRAM, IN A SANDBOX (cutbox-rows.mjs): the forced cells as the released guide's own fill.sh prints them over the translation 112422de845cd593… (all of the seat's roots in one cut). By AI agents, Wed Nov 11 2026. No macro, syntax, notation, axiom, sorry.
-/
import Derived.Test.YtnnldhfgnmcfiabChecked
import GoSem.Claim
import GoSem.ClaimJoined
import GoSem.ClaimMapViews
import Derived.JoinedTies
import Derived.KernelRfl
namespace Go.Proofs.Ytnnldhfgnmcfiab
/- THE CELL 'sum', in the pinned program and in every row, IS THE sha256 OF THE DUMP (.gsa) THAT YtnnldhfgnmcfiabProg.lean LOADS. Nothing in Lean hashes anything: it is a label: what it is worth is what the hold of that sum in a sandbox is worth. -/
noncomputable def Try.pinned : Pinned := { name := "ytnnldhfgnmcfiab", sum := "112422de845cd593918a107d22eb92bf7649fe8bb9e60c61421240b3bfce13cf", checked := Try.checked }
namespace Rows
def none {H : Type} : Left H := { results := [], args := [] }

/-- 'laws.FnExactHatOf': WHATEVER THE INPUT: true; the input reads as it did. -/
def fnExactHatOfSpec : ChangeSpec := { name := "fnExactHatOf", fn := fun _ => fun
  | [d] => { results := [.lit (.bool true)], args := [d] }
  | _ => none }
def fnExactHatOfRow : OpenClaim := { program := "ytnnldhfgnmcfiab", sum := "112422de845cd593918a107d22eb92bf7649fe8bb9e60c61421240b3bfce13cf", func := "loop.example/g01308/laws.FnExactHatOf", spec := "fnExactHatOf", inPlace := ["math.Float64bits", "math.Float64frombits"], apart := false }
def FnExactHatOfSaid : Prop := fnExactHatOfRow.holds Try.pinned (OpenSpec.ofChange fnExactHatOfSpec)

/-- ITS FALSE NEIGHBOUR: 'it returns false'. Refute it at one input. -/
def fnExactHatOfWrong : ChangeSpec := { name := "fnExactHatOf", fn := fun _ => fun
  | [d] => { results := [.lit (.bool false)], args := [d] }
  | _ => none }
def FnExactHatOfWrongFalsely : Prop := fnExactHatOfRow.holds Try.pinned (OpenSpec.ofChange fnExactHatOfWrong)

/-- 'laws.FnExactExpose': WHATEVER THE INPUT: true; the input reads as it did. -/
def fnExactExposeSpec : ChangeSpec := { name := "fnExactExpose", fn := fun _ => fun
  | [d1, d2, d3] => { results := [.lit (.bool true)], args := [d1, d2, d3] }
  | _ => none }
def fnExactExposeRow : OpenClaim := { program := "ytnnldhfgnmcfiab", sum := "112422de845cd593918a107d22eb92bf7649fe8bb9e60c61421240b3bfce13cf", func := "loop.example/g01308/laws.FnExactExpose", spec := "fnExactExpose", inPlace := ["math.Float64bits", "math.Float64frombits"], unfollowed := true, recurses := true, apart := false }
def FnExactExposeSaid : Prop := fnExactExposeRow.holds Try.pinned (OpenSpec.ofChange fnExactExposeSpec)

/-- ITS FALSE NEIGHBOUR: 'it returns false'. Refute it at one input. -/
def fnExactExposeWrong : ChangeSpec := { name := "fnExactExpose", fn := fun _ => fun
  | [d1, d2, d3] => { results := [.lit (.bool false)], args := [d1, d2, d3] }
  | _ => none }
def FnExactExposeWrongFalsely : Prop := fnExactExposeRow.holds Try.pinned (OpenSpec.ofChange fnExactExposeWrong)

/-- 'laws.FnExactIsBend': WHATEVER THE INPUT: true; the input reads as it did. -/
def fnExactIsBendSpec : ChangeSpec := { name := "fnExactIsBend", fn := fun _ => fun
  | [d] => { results := [.lit (.bool true)], args := [d] }
  | _ => none }
def fnExactIsBendRow : OpenClaim := { program := "ytnnldhfgnmcfiab", sum := "112422de845cd593918a107d22eb92bf7649fe8bb9e60c61421240b3bfce13cf", func := "loop.example/g01308/laws.FnExactIsBend", spec := "fnExactIsBend", inPlace := ["math.Float64bits", "math.Float64frombits"], apart := false }
def FnExactIsBendSaid : Prop := fnExactIsBendRow.holds Try.pinned (OpenSpec.ofChange fnExactIsBendSpec)

/-- ITS FALSE NEIGHBOUR: 'it returns false'. Refute it at one input. -/
def fnExactIsBendWrong : ChangeSpec := { name := "fnExactIsBend", fn := fun _ => fun
  | [d] => { results := [.lit (.bool false)], args := [d] }
  | _ => none }
def FnExactIsBendWrongFalsely : Prop := fnExactIsBendRow.holds Try.pinned (OpenSpec.ofChange fnExactIsBendWrong)

/-- 'laws.FnExactBendAt': WHATEVER THE INPUT: true; the input reads as it did. -/
def fnExactBendAtSpec : ChangeSpec := { name := "fnExactBendAt", fn := fun _ => fun
  | [d1, d2] => { results := [.lit (.bool true)], args := [d1, d2] }
  | _ => none }
def fnExactBendAtRow : OpenClaim := { program := "ytnnldhfgnmcfiab", sum := "112422de845cd593918a107d22eb92bf7649fe8bb9e60c61421240b3bfce13cf", func := "loop.example/g01308/laws.FnExactBendAt", spec := "fnExactBendAt", inPlace := ["math.archFloor", "math.Float64bits", "math.Float64frombits", "math.archTrunc"], apart := false }
def FnExactBendAtSaid : Prop := fnExactBendAtRow.holds Try.pinned (OpenSpec.ofChange fnExactBendAtSpec)

/-- ITS FALSE NEIGHBOUR: 'it returns false'. Refute it at one input. -/
def fnExactBendAtWrong : ChangeSpec := { name := "fnExactBendAt", fn := fun _ => fun
  | [d1, d2] => { results := [.lit (.bool false)], args := [d1, d2] }
  | _ => none }
def FnExactBendAtWrongFalsely : Prop := fnExactBendAtRow.holds Try.pinned (OpenSpec.ofChange fnExactBendAtWrong)

/-- 'laws.FnExactBendBack': WHATEVER THE INPUT: true; the input reads as it did. -/
def fnExactBendBackSpec : ChangeSpec := { name := "fnExactBendBack", fn := fun _ => fun
  | [d1, d2] => { results := [.lit (.bool true)], args := [d1, d2] }
  | _ => none }
def fnExactBendBackRow : OpenClaim := { program := "ytnnldhfgnmcfiab", sum := "112422de845cd593918a107d22eb92bf7649fe8bb9e60c61421240b3bfce13cf", func := "loop.example/g01308/laws.FnExactBendBack", spec := "fnExactBendBack", inPlace := ["math.Float64bits", "math.Float64frombits"], apart := false }
def FnExactBendBackSaid : Prop := fnExactBendBackRow.holds Try.pinned (OpenSpec.ofChange fnExactBendBackSpec)

/-- ITS FALSE NEIGHBOUR: 'it returns false'. Refute it at one input. -/
def fnExactBendBackWrong : ChangeSpec := { name := "fnExactBendBack", fn := fun _ => fun
  | [d1, d2] => { results := [.lit (.bool false)], args := [d1, d2] }
  | _ => none }
def FnExactBendBackWrongFalsely : Prop := fnExactBendBackRow.holds Try.pinned (OpenSpec.ofChange fnExactBendBackWrong)

/-- 'laws.FnExactClearnessOf': WHATEVER THE INPUT: true; the input reads as it did. -/
def fnExactClearnessOfSpec : ChangeSpec := { name := "fnExactClearnessOf", fn := fun _ => fun
  | [d1, d2, d3, d4] => { results := [.lit (.bool true)], args := [d1, d2, d3, d4] }
  | _ => none }
def fnExactClearnessOfRow : OpenClaim := { program := "ytnnldhfgnmcfiab", sum := "112422de845cd593918a107d22eb92bf7649fe8bb9e60c61421240b3bfce13cf", func := "loop.example/g01308/laws.FnExactClearnessOf", spec := "fnExactClearnessOf", inPlace := ["math.sqrt", "math.Float64bits", "math.Float64frombits"], apart := false }
def FnExactClearnessOfSaid : Prop := fnExactClearnessOfRow.holds Try.pinned (OpenSpec.ofChange fnExactClearnessOfSpec)

/-- ITS FALSE NEIGHBOUR: 'it returns false'. Refute it at one input. -/
def fnExactClearnessOfWrong : ChangeSpec := { name := "fnExactClearnessOf", fn := fun _ => fun
  | [d1, d2, d3, d4] => { results := [.lit (.bool false)], args := [d1, d2, d3, d4] }
  | _ => none }
def FnExactClearnessOfWrongFalsely : Prop := fnExactClearnessOfRow.holds Try.pinned (OpenSpec.ofChange fnExactClearnessOfWrong)

/-- 'laws.FnExactPowerOfPair': WHATEVER THE INPUT: true; the input reads as it did. -/
def fnExactPowerOfPairSpec : ChangeSpec := { name := "fnExactPowerOfPair", fn := fun _ => fun
  | [d1, d2, d3] => { results := [.lit (.bool true)], args := [d1, d2, d3] }
  | _ => none }
def fnExactPowerOfPairRow : OpenClaim := { program := "ytnnldhfgnmcfiab", sum := "112422de845cd593918a107d22eb92bf7649fe8bb9e60c61421240b3bfce13cf", func := "loop.example/g01308/laws.FnExactPowerOfPair", spec := "fnExactPowerOfPair", inPlace := ["math.Float64frombits", "math.Float64bits", "math.Float32frombits"], apart := false }
def FnExactPowerOfPairSaid : Prop := fnExactPowerOfPairRow.holds Try.pinned (OpenSpec.ofChange fnExactPowerOfPairSpec)

/-- ITS FALSE NEIGHBOUR: 'it returns false'. Refute it at one input. -/
def fnExactPowerOfPairWrong : ChangeSpec := { name := "fnExactPowerOfPair", fn := fun _ => fun
  | [d1, d2, d3] => { results := [.lit (.bool false)], args := [d1, d2, d3] }
  | _ => none }
def FnExactPowerOfPairWrongFalsely : Prop := fnExactPowerOfPairRow.holds Try.pinned (OpenSpec.ofChange fnExactPowerOfPairWrong)

/-- 'laws.FnExactNoiseBetween': WHATEVER THE INPUT: true; the input reads as it did. -/
def fnExactNoiseBetweenSpec : ChangeSpec := { name := "fnExactNoiseBetween", fn := fun _ => fun
  | [d1, d2] => { results := [.lit (.bool true)], args := [d1, d2] }
  | _ => none }
def fnExactNoiseBetweenRow : OpenClaim := { program := "ytnnldhfgnmcfiab", sum := "112422de845cd593918a107d22eb92bf7649fe8bb9e60c61421240b3bfce13cf", func := "loop.example/g01308/laws.FnExactNoiseBetween", spec := "fnExactNoiseBetween", inPlace := ["math.sqrt", "math.Float64bits", "math.Float64frombits"], apart := false }
def FnExactNoiseBetweenSaid : Prop := fnExactNoiseBetweenRow.holds Try.pinned (OpenSpec.ofChange fnExactNoiseBetweenSpec)

/-- ITS FALSE NEIGHBOUR: 'it returns false'. Refute it at one input. -/
def fnExactNoiseBetweenWrong : ChangeSpec := { name := "fnExactNoiseBetween", fn := fun _ => fun
  | [d1, d2] => { results := [.lit (.bool false)], args := [d1, d2] }
  | _ => none }
def FnExactNoiseBetweenWrongFalsely : Prop := fnExactNoiseBetweenRow.holds Try.pinned (OpenSpec.ofChange fnExactNoiseBetweenWrong)

/-- 'laws.FnExactShotsFor': WHATEVER THE INPUT: true; the input reads as it did. -/
def fnExactShotsForSpec : ChangeSpec := { name := "fnExactShotsFor", fn := fun _ => fun
  | [d1, d2, d3, d4] => { results := [.lit (.bool true)], args := [d1, d2, d3, d4] }
  | _ => none }
def fnExactShotsForRow : OpenClaim := { program := "ytnnldhfgnmcfiab", sum := "112422de845cd593918a107d22eb92bf7649fe8bb9e60c61421240b3bfce13cf", func := "loop.example/g01308/laws.FnExactShotsFor", spec := "fnExactShotsFor", inPlace := ["math.Float64frombits", "math.Float64bits", "math.Float32frombits"], apart := false }
def FnExactShotsForSaid : Prop := fnExactShotsForRow.holds Try.pinned (OpenSpec.ofChange fnExactShotsForSpec)

/-- ITS FALSE NEIGHBOUR: 'it returns false'. Refute it at one input. -/
def fnExactShotsForWrong : ChangeSpec := { name := "fnExactShotsFor", fn := fun _ => fun
  | [d1, d2, d3, d4] => { results := [.lit (.bool false)], args := [d1, d2, d3, d4] }
  | _ => none }
def FnExactShotsForWrongFalsely : Prop := fnExactShotsForRow.holds Try.pinned (OpenSpec.ofChange fnExactShotsForWrong)

/-- 'laws.FnExactPlanTimes': WHATEVER THE INPUT: true; the input reads as it did. -/
def fnExactPlanTimesSpec : ChangeSpec := { name := "fnExactPlanTimes", fn := fun _ => fun
  | [d1, d2, d3] => { results := [.lit (.bool true)], args := [d1, d2, d3] }
  | _ => none }
def fnExactPlanTimesRow : OpenClaim := { program := "ytnnldhfgnmcfiab", sum := "112422de845cd593918a107d22eb92bf7649fe8bb9e60c61421240b3bfce13cf", func := "loop.example/g01308/laws.FnExactPlanTimes", spec := "fnExactPlanTimes", inPlace := ["math.Float64frombits", "math.Float64bits"], apart := false }
def FnExactPlanTimesSaid : Prop := fnExactPlanTimesRow.holds Try.pinned (OpenSpec.ofChange fnExactPlanTimesSpec)

/-- ITS FALSE NEIGHBOUR: 'it returns false'. Refute it at one input. -/
def fnExactPlanTimesWrong : ChangeSpec := { name := "fnExactPlanTimes", fn := fun _ => fun
  | [d1, d2, d3] => { results := [.lit (.bool false)], args := [d1, d2, d3] }
  | _ => none }
def FnExactPlanTimesWrongFalsely : Prop := fnExactPlanTimesRow.holds Try.pinned (OpenSpec.ofChange fnExactPlanTimesWrong)

/-- 'laws.FnExactLevelPicture': WHATEVER THE INPUT: true; the input reads as it did. -/
def fnExactLevelPictureSpec : ChangeSpec := { name := "fnExactLevelPicture", fn := fun _ => fun
  | [d1, d2] => { results := [.lit (.bool true)], args := [d1, d2] }
  | _ => none }
def fnExactLevelPictureRow : OpenClaim := { program := "ytnnldhfgnmcfiab", sum := "112422de845cd593918a107d22eb92bf7649fe8bb9e60c61421240b3bfce13cf", func := "loop.example/g01308/laws.FnExactLevelPicture", spec := "fnExactLevelPicture", inPlace := ["math.archFloor", "math.Float64bits", "math.Float64frombits", "math.archTrunc"], unfollowed := true, recurses := true, apart := false }
def FnExactLevelPictureSaid : Prop := fnExactLevelPictureRow.holds Try.pinned (OpenSpec.ofChange fnExactLevelPictureSpec)

/-- ITS FALSE NEIGHBOUR: 'it returns false'. Refute it at one input. -/
def fnExactLevelPictureWrong : ChangeSpec := { name := "fnExactLevelPicture", fn := fun _ => fun
  | [d1, d2] => { results := [.lit (.bool false)], args := [d1, d2] }
  | _ => none }
def FnExactLevelPictureWrongFalsely : Prop := fnExactLevelPictureRow.holds Try.pinned (OpenSpec.ofChange fnExactLevelPictureWrong)

/-- 'laws.FnExactBendPicture': WHATEVER THE INPUT: true; the input reads as it did. -/
def fnExactBendPictureSpec : ChangeSpec := { name := "fnExactBendPicture", fn := fun _ => fun
  | [d1, d2] => { results := [.lit (.bool true)], args := [d1, d2] }
  | _ => none }
def fnExactBendPictureRow : OpenClaim := { program := "ytnnldhfgnmcfiab", sum := "112422de845cd593918a107d22eb92bf7649fe8bb9e60c61421240b3bfce13cf", func := "loop.example/g01308/laws.FnExactBendPicture", spec := "fnExactBendPicture", inPlace := ["math.archFloor", "math.Float64bits", "math.Float64frombits", "math.archTrunc"], unfollowed := true, recurses := true, apart := false }
def FnExactBendPictureSaid : Prop := fnExactBendPictureRow.holds Try.pinned (OpenSpec.ofChange fnExactBendPictureSpec)

/-- ITS FALSE NEIGHBOUR: 'it returns false'. Refute it at one input. -/
def fnExactBendPictureWrong : ChangeSpec := { name := "fnExactBendPicture", fn := fun _ => fun
  | [d1, d2] => { results := [.lit (.bool false)], args := [d1, d2] }
  | _ => none }
def FnExactBendPictureWrongFalsely : Prop := fnExactBendPictureRow.holds Try.pinned (OpenSpec.ofChange fnExactBendPictureWrong)

/- THE SECOND FORM. 'bulk': how many values and letters a reading holds, each counted each time it is reached (what is shared counts as often as it is met; a slice's spare places count too). A statement '..UptoSaid' is the law's where the arguments, and the package variables that the reading takes, are together of bulk at most 1048576: NARROWER than '..Said'. Prove '..Said' where nothing that the law and all that it calls make is longer than what came in: it says more and counts as full. Else prove '..UptoSaid'. A law counts once. -/
mutual
def uptoBulk {H : Type} : DataW H → Nat
  | .lit (.string bytes) => bytes.length + 1
  | .lit _ => 1
  | .nil => 1
  | .ptr d => uptoBulk d + 1
  | .slice elems spare => uptoBulkAll elems + uptoBulkAll spare + 1
  | .agg parts => uptoBulkAll parts + 1
  | .iface _ d => uptoBulk d + 1
  | .map entries => uptoBulkEntries entries + 1
  | .held _ => 1
def uptoBulkAll {H : Type} : List (DataW H) → Nat
  | [] => 0
  | d :: r => uptoBulk d + uptoBulkAll r
def uptoBulkEntries {H : Type} : List (Lit × DataW H) → Nat
  | [] => 0
  | x :: r => uptoBulkEntry x + uptoBulkEntries r
def uptoBulkEntry {H : Type} : Lit × DataW H → Nat
  | (.string bytes, d) => bytes.length + uptoBulk d + 1
  | (_, d) => uptoBulk d + 1
 end
def uptoSmall : (H : Type) → List (DataW H) → Bool := fun _ ds => decide (uptoBulkAll ds ≤ 1048576)
def OpenSpec.upto (s : _root_.Go.ChangeSpec) : _root_.Go.OpenSpec := { _root_.Go.OpenSpec.ofChange s with cond := some uptoSmall }

/-- 'laws.FnExactHatOf', WHERE WHAT IT READS IS OF BULK AT MOST 1048576: true; the input reads as it did. -/
def fnExactHatOfUptoRow : OpenClaim := { program := "ytnnldhfgnmcfiab", sum := "112422de845cd593918a107d22eb92bf7649fe8bb9e60c61421240b3bfce13cf", func := "loop.example/g01308/laws.FnExactHatOf", spec := "fnExactHatOf", inPlace := ["math.Float64bits", "math.Float64frombits"], apart := false, narrowed := true }
def FnExactHatOfUptoSaid : Prop := fnExactHatOfUptoRow.holds Try.pinned (OpenSpec.upto fnExactHatOfSpec)

/-- 'laws.FnExactExpose', WHERE WHAT IT READS IS OF BULK AT MOST 1048576: true; the input reads as it did. -/
def fnExactExposeUptoRow : OpenClaim := { program := "ytnnldhfgnmcfiab", sum := "112422de845cd593918a107d22eb92bf7649fe8bb9e60c61421240b3bfce13cf", func := "loop.example/g01308/laws.FnExactExpose", spec := "fnExactExpose", inPlace := ["math.Float64bits", "math.Float64frombits"], unfollowed := true, recurses := true, apart := false, narrowed := true }
def FnExactExposeUptoSaid : Prop := fnExactExposeUptoRow.holds Try.pinned (OpenSpec.upto fnExactExposeSpec)

/-- 'laws.FnExactIsBend', WHERE WHAT IT READS IS OF BULK AT MOST 1048576: true; the input reads as it did. -/
def fnExactIsBendUptoRow : OpenClaim := { program := "ytnnldhfgnmcfiab", sum := "112422de845cd593918a107d22eb92bf7649fe8bb9e60c61421240b3bfce13cf", func := "loop.example/g01308/laws.FnExactIsBend", spec := "fnExactIsBend", inPlace := ["math.Float64bits", "math.Float64frombits"], apart := false, narrowed := true }
def FnExactIsBendUptoSaid : Prop := fnExactIsBendUptoRow.holds Try.pinned (OpenSpec.upto fnExactIsBendSpec)

/-- 'laws.FnExactBendAt', WHERE WHAT IT READS IS OF BULK AT MOST 1048576: true; the input reads as it did. -/
def fnExactBendAtUptoRow : OpenClaim := { program := "ytnnldhfgnmcfiab", sum := "112422de845cd593918a107d22eb92bf7649fe8bb9e60c61421240b3bfce13cf", func := "loop.example/g01308/laws.FnExactBendAt", spec := "fnExactBendAt", inPlace := ["math.archFloor", "math.Float64bits", "math.Float64frombits", "math.archTrunc"], apart := false, narrowed := true }
def FnExactBendAtUptoSaid : Prop := fnExactBendAtUptoRow.holds Try.pinned (OpenSpec.upto fnExactBendAtSpec)

/-- 'laws.FnExactBendBack', WHERE WHAT IT READS IS OF BULK AT MOST 1048576: true; the input reads as it did. -/
def fnExactBendBackUptoRow : OpenClaim := { program := "ytnnldhfgnmcfiab", sum := "112422de845cd593918a107d22eb92bf7649fe8bb9e60c61421240b3bfce13cf", func := "loop.example/g01308/laws.FnExactBendBack", spec := "fnExactBendBack", inPlace := ["math.Float64bits", "math.Float64frombits"], apart := false, narrowed := true }
def FnExactBendBackUptoSaid : Prop := fnExactBendBackUptoRow.holds Try.pinned (OpenSpec.upto fnExactBendBackSpec)

/-- 'laws.FnExactClearnessOf', WHERE WHAT IT READS IS OF BULK AT MOST 1048576: true; the input reads as it did. -/
def fnExactClearnessOfUptoRow : OpenClaim := { program := "ytnnldhfgnmcfiab", sum := "112422de845cd593918a107d22eb92bf7649fe8bb9e60c61421240b3bfce13cf", func := "loop.example/g01308/laws.FnExactClearnessOf", spec := "fnExactClearnessOf", inPlace := ["math.sqrt", "math.Float64bits", "math.Float64frombits"], apart := false, narrowed := true }
def FnExactClearnessOfUptoSaid : Prop := fnExactClearnessOfUptoRow.holds Try.pinned (OpenSpec.upto fnExactClearnessOfSpec)

/-- 'laws.FnExactPowerOfPair', WHERE WHAT IT READS IS OF BULK AT MOST 1048576: true; the input reads as it did. -/
def fnExactPowerOfPairUptoRow : OpenClaim := { program := "ytnnldhfgnmcfiab", sum := "112422de845cd593918a107d22eb92bf7649fe8bb9e60c61421240b3bfce13cf", func := "loop.example/g01308/laws.FnExactPowerOfPair", spec := "fnExactPowerOfPair", inPlace := ["math.Float64frombits", "math.Float64bits", "math.Float32frombits"], apart := false, narrowed := true }
def FnExactPowerOfPairUptoSaid : Prop := fnExactPowerOfPairUptoRow.holds Try.pinned (OpenSpec.upto fnExactPowerOfPairSpec)

/-- 'laws.FnExactNoiseBetween', WHERE WHAT IT READS IS OF BULK AT MOST 1048576: true; the input reads as it did. -/
def fnExactNoiseBetweenUptoRow : OpenClaim := { program := "ytnnldhfgnmcfiab", sum := "112422de845cd593918a107d22eb92bf7649fe8bb9e60c61421240b3bfce13cf", func := "loop.example/g01308/laws.FnExactNoiseBetween", spec := "fnExactNoiseBetween", inPlace := ["math.sqrt", "math.Float64bits", "math.Float64frombits"], apart := false, narrowed := true }
def FnExactNoiseBetweenUptoSaid : Prop := fnExactNoiseBetweenUptoRow.holds Try.pinned (OpenSpec.upto fnExactNoiseBetweenSpec)

/-- 'laws.FnExactShotsFor', WHERE WHAT IT READS IS OF BULK AT MOST 1048576: true; the input reads as it did. -/
def fnExactShotsForUptoRow : OpenClaim := { program := "ytnnldhfgnmcfiab", sum := "112422de845cd593918a107d22eb92bf7649fe8bb9e60c61421240b3bfce13cf", func := "loop.example/g01308/laws.FnExactShotsFor", spec := "fnExactShotsFor", inPlace := ["math.Float64frombits", "math.Float64bits", "math.Float32frombits"], apart := false, narrowed := true }
def FnExactShotsForUptoSaid : Prop := fnExactShotsForUptoRow.holds Try.pinned (OpenSpec.upto fnExactShotsForSpec)

/-- 'laws.FnExactPlanTimes', WHERE WHAT IT READS IS OF BULK AT MOST 1048576: true; the input reads as it did. -/
def fnExactPlanTimesUptoRow : OpenClaim := { program := "ytnnldhfgnmcfiab", sum := "112422de845cd593918a107d22eb92bf7649fe8bb9e60c61421240b3bfce13cf", func := "loop.example/g01308/laws.FnExactPlanTimes", spec := "fnExactPlanTimes", inPlace := ["math.Float64frombits", "math.Float64bits"], apart := false, narrowed := true }
def FnExactPlanTimesUptoSaid : Prop := fnExactPlanTimesUptoRow.holds Try.pinned (OpenSpec.upto fnExactPlanTimesSpec)

/-- 'laws.FnExactLevelPicture', WHERE WHAT IT READS IS OF BULK AT MOST 1048576: true; the input reads as it did. -/
def fnExactLevelPictureUptoRow : OpenClaim := { program := "ytnnldhfgnmcfiab", sum := "112422de845cd593918a107d22eb92bf7649fe8bb9e60c61421240b3bfce13cf", func := "loop.example/g01308/laws.FnExactLevelPicture", spec := "fnExactLevelPicture", inPlace := ["math.archFloor", "math.Float64bits", "math.Float64frombits", "math.archTrunc"], unfollowed := true, recurses := true, apart := false, narrowed := true }
def FnExactLevelPictureUptoSaid : Prop := fnExactLevelPictureUptoRow.holds Try.pinned (OpenSpec.upto fnExactLevelPictureSpec)

/-- 'laws.FnExactBendPicture', WHERE WHAT IT READS IS OF BULK AT MOST 1048576: true; the input reads as it did. -/
def fnExactBendPictureUptoRow : OpenClaim := { program := "ytnnldhfgnmcfiab", sum := "112422de845cd593918a107d22eb92bf7649fe8bb9e60c61421240b3bfce13cf", func := "loop.example/g01308/laws.FnExactBendPicture", spec := "fnExactBendPicture", inPlace := ["math.archFloor", "math.Float64bits", "math.Float64frombits", "math.archTrunc"], unfollowed := true, recurses := true, apart := false, narrowed := true }
def FnExactBendPictureUptoSaid : Prop := fnExactBendPictureUptoRow.holds Try.pinned (OpenSpec.upto fnExactBendPictureSpec)

end Rows
end Go.Proofs.Ytnnldhfgnmcfiab
