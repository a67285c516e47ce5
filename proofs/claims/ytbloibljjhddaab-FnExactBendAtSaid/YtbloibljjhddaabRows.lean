/-
  No cell of these rows narrows 'for every input' (looked for: loops, veiled, ifaces, maps, wideKeys, modest, calm, conditions, laid).
  DERIVED. THE GIVEN ROWS OF THIS SEAT. 7 by the template 'for every input the law returns true; each argument reads behind the call as it read before'; 0 by the template 'total and deterministic' (their statements: YtbloibljjhddaabTotals.lean).
  GIVEN WITH THE SEED: the statements are not yours to turn. If you find one false, say at which input.
  Laid BY PROGRAM, IN A SANDBOX (cutbox-rows.mjs): the forced cells as the released guide's own fill.sh prints them over the translation bbae0abb00b5f4e1… (all of the seat's roots in one cut). By AI agents, Wed Nov 11 2026. No macro, syntax, notation, axiom, sorry.
-/
import Derived.Test.YtbloibljjhddaabChecked
import GoSem.Claim
import GoSem.ClaimJoined
import GoSem.ClaimMapViews
import Derived.JoinedTies
import Derived.KernelRfl
namespace Go.Proofs.Ytbloibljjhddaab
/- THE CELL 'sum', in the pinned program and in every row, IS THE sha256 OF THE DUMP (.gsa) THAT YtbloibljjhddaabProg.lean LOADS. Nothing in Lean hashes anything: it is a label: what it is worth is what the hold of that sum in a sandbox is worth. -/
noncomputable def Try.pinned : Pinned := { name := "ytbloibljjhddaab", sum := "bbae0abb00b5f4e18eb8961596759f3feed5e951bc4adaed28d4a0fc59c75848", checked := Try.checked }
namespace Rows
def none {H : Type} : Left H := { results := [], args := [] }

/-- 'laws.FnExactBlurPicture': WHATEVER THE INPUT: true; the input reads as it did. -/
def fnExactBlurPictureSpec : ChangeSpec := { name := "fnExactBlurPicture", fn := fun _ => fun
  | [d1, d2] => { results := [.lit (.bool true)], args := [d1, d2] }
  | _ => none }
def fnExactBlurPictureRow : OpenClaim := { program := "ytbloibljjhddaab", sum := "bbae0abb00b5f4e18eb8961596759f3feed5e951bc4adaed28d4a0fc59c75848", func := "loop.example/g01308/laws.FnExactBlurPicture", spec := "fnExactBlurPicture", inPlace := ["math.Float64bits", "math.Float64frombits"], unfollowed := true, recurses := true, apart := false }
def FnExactBlurPictureSaid : Prop := fnExactBlurPictureRow.holds Try.pinned (OpenSpec.ofChange fnExactBlurPictureSpec)

/-- ITS FALSE NEIGHBOUR: 'it returns false'. Refute it at one input. -/
def fnExactBlurPictureWrong : ChangeSpec := { name := "fnExactBlurPicture", fn := fun _ => fun
  | [d1, d2] => { results := [.lit (.bool false)], args := [d1, d2] }
  | _ => none }
def FnExactBlurPictureWrongFalsely : Prop := fnExactBlurPictureRow.holds Try.pinned (OpenSpec.ofChange fnExactBlurPictureWrong)

/-- 'laws.FnExactBloomPicture': WHATEVER THE INPUT: true; the input reads as it did. -/
def fnExactBloomPictureSpec : ChangeSpec := { name := "fnExactBloomPicture", fn := fun _ => fun
  | [d1, d2, d3, d4] => { results := [.lit (.bool true)], args := [d1, d2, d3, d4] }
  | _ => none }
def fnExactBloomPictureRow : OpenClaim := { program := "ytbloibljjhddaab", sum := "bbae0abb00b5f4e18eb8961596759f3feed5e951bc4adaed28d4a0fc59c75848", func := "loop.example/g01308/laws.FnExactBloomPicture", spec := "fnExactBloomPicture", inPlace := ["math.Float64bits", "math.Float64frombits"], unfollowed := true, recurses := true, apart := false }
def FnExactBloomPictureSaid : Prop := fnExactBloomPictureRow.holds Try.pinned (OpenSpec.ofChange fnExactBloomPictureSpec)

/-- ITS FALSE NEIGHBOUR: 'it returns false'. Refute it at one input. -/
def fnExactBloomPictureWrong : ChangeSpec := { name := "fnExactBloomPicture", fn := fun _ => fun
  | [d1, d2, d3, d4] => { results := [.lit (.bool false)], args := [d1, d2, d3, d4] }
  | _ => none }
def FnExactBloomPictureWrongFalsely : Prop := fnExactBloomPictureRow.holds Try.pinned (OpenSpec.ofChange fnExactBloomPictureWrong)

/-- 'laws.FnExactWarpPicture': WHATEVER THE INPUT: true; the input reads as it did. -/
def fnExactWarpPictureSpec : ChangeSpec := { name := "fnExactWarpPicture", fn := fun _ => fun
  | [d1, d2] => { results := [.lit (.bool true)], args := [d1, d2] }
  | _ => none }
def fnExactWarpPictureRow : OpenClaim := { program := "ytbloibljjhddaab", sum := "bbae0abb00b5f4e18eb8961596759f3feed5e951bc4adaed28d4a0fc59c75848", func := "loop.example/g01308/laws.FnExactWarpPicture", spec := "fnExactWarpPicture", inPlace := ["math.archFloor", "math.Float64bits", "math.Float64frombits", "math.archTrunc"], unfollowed := true, recurses := true, apart := false }
def FnExactWarpPictureSaid : Prop := fnExactWarpPictureRow.holds Try.pinned (OpenSpec.ofChange fnExactWarpPictureSpec)

/-- ITS FALSE NEIGHBOUR: 'it returns false'. Refute it at one input. -/
def fnExactWarpPictureWrong : ChangeSpec := { name := "fnExactWarpPicture", fn := fun _ => fun
  | [d1, d2] => { results := [.lit (.bool false)], args := [d1, d2] }
  | _ => none }
def FnExactWarpPictureWrongFalsely : Prop := fnExactWarpPictureRow.holds Try.pinned (OpenSpec.ofChange fnExactWarpPictureWrong)

/-- 'laws.FnExactNoiseDither': WHATEVER THE INPUT: true; the input reads as it did. -/
def fnExactNoiseDitherSpec : ChangeSpec := { name := "fnExactNoiseDither", fn := fun _ => fun
  | [d1, d2, d3] => { results := [.lit (.bool true)], args := [d1, d2, d3] }
  | _ => none }
def fnExactNoiseDitherRow : OpenClaim := { program := "ytbloibljjhddaab", sum := "bbae0abb00b5f4e18eb8961596759f3feed5e951bc4adaed28d4a0fc59c75848", func := "loop.example/g01308/laws.FnExactNoiseDither", spec := "fnExactNoiseDither", inPlace := ["math.archFloor", "math.Float64bits", "math.Float64frombits", "math.archTrunc"], unfollowed := true, recurses := true, apart := false }
def FnExactNoiseDitherSaid : Prop := fnExactNoiseDitherRow.holds Try.pinned (OpenSpec.ofChange fnExactNoiseDitherSpec)

/-- ITS FALSE NEIGHBOUR: 'it returns false'. Refute it at one input. -/
def fnExactNoiseDitherWrong : ChangeSpec := { name := "fnExactNoiseDither", fn := fun _ => fun
  | [d1, d2, d3] => { results := [.lit (.bool false)], args := [d1, d2, d3] }
  | _ => none }
def FnExactNoiseDitherWrongFalsely : Prop := fnExactNoiseDitherRow.holds Try.pinned (OpenSpec.ofChange fnExactNoiseDitherWrong)

/-- 'laws.FnExactDiffuseDither': WHATEVER THE INPUT: true; the input reads as it did. -/
def fnExactDiffuseDitherSpec : ChangeSpec := { name := "fnExactDiffuseDither", fn := fun _ => fun
  | [d1, d2, d3] => { results := [.lit (.bool true)], args := [d1, d2, d3] }
  | _ => none }
def fnExactDiffuseDitherRow : OpenClaim := { program := "ytbloibljjhddaab", sum := "bbae0abb00b5f4e18eb8961596759f3feed5e951bc4adaed28d4a0fc59c75848", func := "loop.example/g01308/laws.FnExactDiffuseDither", spec := "fnExactDiffuseDither", inPlace := ["math.archFloor", "math.Float64bits", "math.Float64frombits", "math.archTrunc"], unfollowed := true, recurses := true, apart := false }
def FnExactDiffuseDitherSaid : Prop := fnExactDiffuseDitherRow.holds Try.pinned (OpenSpec.ofChange fnExactDiffuseDitherSpec)

/-- ITS FALSE NEIGHBOUR: 'it returns false'. Refute it at one input. -/
def fnExactDiffuseDitherWrong : ChangeSpec := { name := "fnExactDiffuseDither", fn := fun _ => fun
  | [d1, d2, d3] => { results := [.lit (.bool false)], args := [d1, d2, d3] }
  | _ => none }
def FnExactDiffuseDitherWrongFalsely : Prop := fnExactDiffuseDitherRow.holds Try.pinned (OpenSpec.ofChange fnExactDiffuseDitherWrong)

/-- 'laws.FnExactGuidedFilter': WHATEVER THE INPUT: true; the input reads as it did. -/
def fnExactGuidedFilterSpec : ChangeSpec := { name := "fnExactGuidedFilter", fn := fun _ => fun
  | [d1, d2, d3] => { results := [.lit (.bool true)], args := [d1, d2, d3] }
  | _ => none }
def fnExactGuidedFilterRow : OpenClaim := { program := "ytbloibljjhddaab", sum := "bbae0abb00b5f4e18eb8961596759f3feed5e951bc4adaed28d4a0fc59c75848", func := "loop.example/g01308/laws.FnExactGuidedFilter", spec := "fnExactGuidedFilter", inPlace := ["math.Float64bits", "math.Float64frombits"], unfollowed := true, recurses := true, apart := false }
def FnExactGuidedFilterSaid : Prop := fnExactGuidedFilterRow.holds Try.pinned (OpenSpec.ofChange fnExactGuidedFilterSpec)

/-- ITS FALSE NEIGHBOUR: 'it returns false'. Refute it at one input. -/
def fnExactGuidedFilterWrong : ChangeSpec := { name := "fnExactGuidedFilter", fn := fun _ => fun
  | [d1, d2, d3] => { results := [.lit (.bool false)], args := [d1, d2, d3] }
  | _ => none }
def FnExactGuidedFilterWrongFalsely : Prop := fnExactGuidedFilterRow.holds Try.pinned (OpenSpec.ofChange fnExactGuidedFilterWrong)

/-- 'laws.FnExactBendAt': WHATEVER THE INPUT: true; the input reads as it did. -/
def fnExactBendAtSpec : ChangeSpec := { name := "fnExactBendAt", fn := fun _ => fun
  | [d1, d2] => { results := [.lit (.bool true)], args := [d1, d2] }
  | _ => none }
def fnExactBendAtRow : OpenClaim := { program := "ytbloibljjhddaab", sum := "bbae0abb00b5f4e18eb8961596759f3feed5e951bc4adaed28d4a0fc59c75848", func := "loop.example/g01308/laws.FnExactBendAt", spec := "fnExactBendAt", inPlace := ["math.archFloor", "math.Float64bits", "math.Float64frombits", "math.archTrunc"], apart := false }
def FnExactBendAtSaid : Prop := fnExactBendAtRow.holds Try.pinned (OpenSpec.ofChange fnExactBendAtSpec)

/-- ITS FALSE NEIGHBOUR: 'it returns false'. Refute it at one input. -/
def fnExactBendAtWrong : ChangeSpec := { name := "fnExactBendAt", fn := fun _ => fun
  | [d1, d2] => { results := [.lit (.bool false)], args := [d1, d2] }
  | _ => none }
def FnExactBendAtWrongFalsely : Prop := fnExactBendAtRow.holds Try.pinned (OpenSpec.ofChange fnExactBendAtWrong)

/- THE SECOND FORM. 'bulk': how many values and letters a reading holds, each counted each time it is reached (what is shared counts as often as it is met; a slice's spare places count too). A statement '..UptoSaid' is the law's where the arguments, and the package variables that the reading takes, are together of bulk at most 1048576: NARROWER than '..Said'. Prove '..Said' where nothing that the law and all that it calls make is longer than what came in: it says more and counts as full. Else prove '..UptoSaid'. A law counts once. -/
mutual
def uptoBulk {H : Type} : DataW H → Nat
  | .lit (.string bytes) => bytes.length + 1
  | .lit _ => 1
  | .nil => 1
  | .ptr d => uptoBulk d + 1
  | .slice elems spare => uptoBulkAll elems + uptoBulkAll spare + 1
  | .agg parts => uptoBulkAll parts + 1
  | .iface _ d => uptoBulk d + 1
  | .map entries => uptoBulkEntries entries + 1
  | .held _ => 1
def uptoBulkAll {H : Type} : List (DataW H) → Nat
  | [] => 0
  | d :: r => uptoBulk d + uptoBulkAll r
def uptoBulkEntries {H : Type} : List (Lit × DataW H) → Nat
  | [] => 0
  | x :: r => uptoBulkEntry x + uptoBulkEntries r
def uptoBulkEntry {H : Type} : Lit × DataW H → Nat
  | (.string bytes, d) => bytes.length + uptoBulk d + 1
  | (_, d) => uptoBulk d + 1
 end
def uptoSmall : (H : Type) → List (DataW H) → Bool := fun _ ds => decide (uptoBulkAll ds ≤ 1048576)
def OpenSpec.upto (s : _root_.Go.ChangeSpec) : _root_.Go.OpenSpec := { _root_.Go.OpenSpec.ofChange s with cond := some uptoSmall }

/-- 'laws.FnExactBlurPicture', WHERE WHAT IT READS IS OF BULK AT MOST 1048576: true; the input reads as it did. -/
def fnExactBlurPictureUptoRow : OpenClaim := { program := "ytbloibljjhddaab", sum := "bbae0abb00b5f4e18eb8961596759f3feed5e951bc4adaed28d4a0fc59c75848", func := "loop.example/g01308/laws.FnExactBlurPicture", spec := "fnExactBlurPicture", inPlace := ["math.Float64bits", "math.Float64frombits"], unfollowed := true, recurses := true, apart := false, narrowed := true }
def FnExactBlurPictureUptoSaid : Prop := fnExactBlurPictureUptoRow.holds Try.pinned (OpenSpec.upto fnExactBlurPictureSpec)

/-- 'laws.FnExactBloomPicture', WHERE WHAT IT READS IS OF BULK AT MOST 1048576: true; the input reads as it did. -/
def fnExactBloomPictureUptoRow : OpenClaim := { program := "ytbloibljjhddaab", sum := "bbae0abb00b5f4e18eb8961596759f3feed5e951bc4adaed28d4a0fc59c75848", func := "loop.example/g01308/laws.FnExactBloomPicture", spec := "fnExactBloomPicture", inPlace := ["math.Float64bits", "math.Float64frombits"], unfollowed := true, recurses := true, apart := false, narrowed := true }
def FnExactBloomPictureUptoSaid : Prop := fnExactBloomPictureUptoRow.holds Try.pinned (OpenSpec.upto fnExactBloomPictureSpec)

/-- 'laws.FnExactWarpPicture', WHERE WHAT IT READS IS OF BULK AT MOST 1048576: true; the input reads as it did. -/
def fnExactWarpPictureUptoRow : OpenClaim := { program := "ytbloibljjhddaab", sum := "bbae0abb00b5f4e18eb8961596759f3feed5e951bc4adaed28d4a0fc59c75848", func := "loop.example/g01308/laws.FnExactWarpPicture", spec := "fnExactWarpPicture", inPlace := ["math.archFloor", "math.Float64bits", "math.Float64frombits", "math.archTrunc"], unfollowed := true, recurses := true, apart := false, narrowed := true }
def FnExactWarpPictureUptoSaid : Prop := fnExactWarpPictureUptoRow.holds Try.pinned (OpenSpec.upto fnExactWarpPictureSpec)

/-- 'laws.FnExactNoiseDither', WHERE WHAT IT READS IS OF BULK AT MOST 1048576: true; the input reads as it did. -/
def fnExactNoiseDitherUptoRow : OpenClaim := { program := "ytbloibljjhddaab", sum := "bbae0abb00b5f4e18eb8961596759f3feed5e951bc4adaed28d4a0fc59c75848", func := "loop.example/g01308/laws.FnExactNoiseDither", spec := "fnExactNoiseDither", inPlace := ["math.archFloor", "math.Float64bits", "math.Float64frombits", "math.archTrunc"], unfollowed := true, recurses := true, apart := false, narrowed := true }
def FnExactNoiseDitherUptoSaid : Prop := fnExactNoiseDitherUptoRow.holds Try.pinned (OpenSpec.upto fnExactNoiseDitherSpec)

/-- 'laws.FnExactDiffuseDither', WHERE WHAT IT READS IS OF BULK AT MOST 1048576: true; the input reads as it did. -/
def fnExactDiffuseDitherUptoRow : OpenClaim := { program := "ytbloibljjhddaab", sum := "bbae0abb00b5f4e18eb8961596759f3feed5e951bc4adaed28d4a0fc59c75848", func := "loop.example/g01308/laws.FnExactDiffuseDither", spec := "fnExactDiffuseDither", inPlace := ["math.archFloor", "math.Float64bits", "math.Float64frombits", "math.archTrunc"], unfollowed := true, recurses := true, apart := false, narrowed := true }
def FnExactDiffuseDitherUptoSaid : Prop := fnExactDiffuseDitherUptoRow.holds Try.pinned (OpenSpec.upto fnExactDiffuseDitherSpec)

/-- 'laws.FnExactGuidedFilter', WHERE WHAT IT READS IS OF BULK AT MOST 1048576: true; the input reads as it did. -/
def fnExactGuidedFilterUptoRow : OpenClaim := { program := "ytbloibljjhddaab", sum := "bbae0abb00b5f4e18eb8961596759f3feed5e951bc4adaed28d4a0fc59c75848", func := "loop.example/g01308/laws.FnExactGuidedFilter", spec := "fnExactGuidedFilter", inPlace := ["math.Float64bits", "math.Float64frombits"], unfollowed := true, recurses := true, apart := false, narrowed := true }
def FnExactGuidedFilterUptoSaid : Prop := fnExactGuidedFilterUptoRow.holds Try.pinned (OpenSpec.upto fnExactGuidedFilterSpec)

/-- 'laws.FnExactBendAt', WHERE WHAT IT READS IS OF BULK AT MOST 1048576: true; the input reads as it did. -/
def fnExactBendAtUptoRow : OpenClaim := { program := "ytbloibljjhddaab", sum := "bbae0abb00b5f4e18eb8961596759f3feed5e951bc4adaed28d4a0fc59c75848", func := "loop.example/g01308/laws.FnExactBendAt", spec := "fnExactBendAt", inPlace := ["math.archFloor", "math.Float64bits", "math.Float64frombits", "math.archTrunc"], apart := false, narrowed := true }
def FnExactBendAtUptoSaid : Prop := fnExactBendAtUptoRow.holds Try.pinned (OpenSpec.upto fnExactBendAtSpec)

end Rows
end Go.Proofs.Ytbloibljjhddaab
