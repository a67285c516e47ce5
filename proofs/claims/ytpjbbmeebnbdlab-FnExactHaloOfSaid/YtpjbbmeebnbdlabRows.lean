/-
  No cell of these rows narrows 'for every input' (looked for: loops, veiled, ifaces, maps, wideKeys, modest, calm, conditions, laid).
  DERIVED. THE GIVEN ROWS OF THIS SEAT. 12 by the template 'for every input the law returns true; each argument reads behind the call as it read before'; 0 by the template 'total and deterministic' (their statements: YtpjbbmeebnbdlabTotals.lean).
  GIVEN WITH THE SEED: the statements are not yours to turn. If you find one false, say at which input.
  Laid BY PROGRAM, IN A SANDBOX (cutbox-rows.mjs): the forced cells as the released guide's own fill.sh prints them over the translation 5609ad7bf9e50599… (all of the seat's roots in one cut). By AI agents, Wed Nov 11 2026. No macro, syntax, notation, axiom, sorry.
-/
import Derived.Test.YtpjbbmeebnbdlabChecked
import GoSem.Claim
import GoSem.ClaimJoined
import GoSem.ClaimMapViews
import Derived.JoinedTies
import Derived.KernelRfl
namespace Go.Proofs.Ytpjbbmeebnbdlab
/- THE CELL 'sum', in the pinned program and in every row, IS THE sha256 OF THE DUMP (.gsa) THAT YtpjbbmeebnbdlabProg.lean LOADS. Nothing in Lean hashes anything: it is a label: what it is worth is what the hold of that sum in a sandbox is worth. -/
noncomputable def Try.pinned : Pinned := { name := "ytpjbbmeebnbdlab", sum := "5609ad7bf9e505991e1284e73336e4ee1e9699b6896bc29dd1b617d9230cec13", checked := Try.checked }
namespace Rows
def none {H : Type} : Left H := { results := [], args := [] }

/-- 'laws.FnExactPyramidOf': WHATEVER THE INPUT: true; the input reads as it did. -/
def fnExactPyramidOfSpec : ChangeSpec := { name := "fnExactPyramidOf", fn := fun _ => fun
  | [d1, d2] => { results := [.lit (.bool true)], args := [d1, d2] }
  | _ => none }
def fnExactPyramidOfRow : OpenClaim := { program := "ytpjbbmeebnbdlab", sum := "5609ad7bf9e505991e1284e73336e4ee1e9699b6896bc29dd1b617d9230cec13", func := "loop.example/g01308/laws.FnExactPyramidOf", spec := "fnExactPyramidOf", inPlace := ["math.Float64bits", "math.Float64frombits"], unfollowed := true, recurses := true, apart := false }
def FnExactPyramidOfSaid : Prop := fnExactPyramidOfRow.holds Try.pinned (OpenSpec.ofChange fnExactPyramidOfSpec)

/-- ITS FALSE NEIGHBOUR: 'it returns false'. Refute it at one input. -/
def fnExactPyramidOfWrong : ChangeSpec := { name := "fnExactPyramidOf", fn := fun _ => fun
  | [d1, d2] => { results := [.lit (.bool false)], args := [d1, d2] }
  | _ => none }
def FnExactPyramidOfWrongFalsely : Prop := fnExactPyramidOfRow.holds Try.pinned (OpenSpec.ofChange fnExactPyramidOfWrong)

/-- 'laws.FnExactFromPyramid': WHATEVER THE INPUT: true; the input reads as it did. -/
def fnExactFromPyramidSpec : ChangeSpec := { name := "fnExactFromPyramid", fn := fun _ => fun
  | [d] => { results := [.lit (.bool true)], args := [d] }
  | _ => none }
def fnExactFromPyramidRow : OpenClaim := { program := "ytpjbbmeebnbdlab", sum := "5609ad7bf9e505991e1284e73336e4ee1e9699b6896bc29dd1b617d9230cec13", func := "loop.example/g01308/laws.FnExactFromPyramid", spec := "fnExactFromPyramid", inPlace := ["math.Float64bits", "math.Float64frombits"], unfollowed := true, recurses := true, apart := false }
def FnExactFromPyramidSaid : Prop := fnExactFromPyramidRow.holds Try.pinned (OpenSpec.ofChange fnExactFromPyramidSpec)

/-- ITS FALSE NEIGHBOUR: 'it returns false'. Refute it at one input. -/
def fnExactFromPyramidWrong : ChangeSpec := { name := "fnExactFromPyramid", fn := fun _ => fun
  | [d] => { results := [.lit (.bool false)], args := [d] }
  | _ => none }
def FnExactFromPyramidWrongFalsely : Prop := fnExactFromPyramidRow.holds Try.pinned (OpenSpec.ofChange fnExactFromPyramidWrong)

/-- 'laws.FnExactBoxMean': WHATEVER THE INPUT: true; the input reads as it did. -/
def fnExactBoxMeanSpec : ChangeSpec := { name := "fnExactBoxMean", fn := fun _ => fun
  | [d1, d2] => { results := [.lit (.bool true)], args := [d1, d2] }
  | _ => none }
def fnExactBoxMeanRow : OpenClaim := { program := "ytpjbbmeebnbdlab", sum := "5609ad7bf9e505991e1284e73336e4ee1e9699b6896bc29dd1b617d9230cec13", func := "loop.example/g01308/laws.FnExactBoxMean", spec := "fnExactBoxMean", inPlace := ["math.Float64bits", "math.Float64frombits"], unfollowed := true, recurses := true, apart := false }
def FnExactBoxMeanSaid : Prop := fnExactBoxMeanRow.holds Try.pinned (OpenSpec.ofChange fnExactBoxMeanSpec)

/-- ITS FALSE NEIGHBOUR: 'it returns false'. Refute it at one input. -/
def fnExactBoxMeanWrong : ChangeSpec := { name := "fnExactBoxMean", fn := fun _ => fun
  | [d1, d2] => { results := [.lit (.bool false)], args := [d1, d2] }
  | _ => none }
def FnExactBoxMeanWrongFalsely : Prop := fnExactBoxMeanRow.holds Try.pinned (OpenSpec.ofChange fnExactBoxMeanWrong)

/-- 'laws.FnExactBoxSpread': WHATEVER THE INPUT: true; the input reads as it did. -/
def fnExactBoxSpreadSpec : ChangeSpec := { name := "fnExactBoxSpread", fn := fun _ => fun
  | [d1, d2] => { results := [.lit (.bool true)], args := [d1, d2] }
  | _ => none }
def fnExactBoxSpreadRow : OpenClaim := { program := "ytpjbbmeebnbdlab", sum := "5609ad7bf9e505991e1284e73336e4ee1e9699b6896bc29dd1b617d9230cec13", func := "loop.example/g01308/laws.FnExactBoxSpread", spec := "fnExactBoxSpread", inPlace := ["math.Float64bits", "math.Float64frombits"], unfollowed := true, recurses := true, apart := false }
def FnExactBoxSpreadSaid : Prop := fnExactBoxSpreadRow.holds Try.pinned (OpenSpec.ofChange fnExactBoxSpreadSpec)

/-- ITS FALSE NEIGHBOUR: 'it returns false'. Refute it at one input. -/
def fnExactBoxSpreadWrong : ChangeSpec := { name := "fnExactBoxSpread", fn := fun _ => fun
  | [d1, d2] => { results := [.lit (.bool false)], args := [d1, d2] }
  | _ => none }
def FnExactBoxSpreadWrongFalsely : Prop := fnExactBoxSpreadRow.holds Try.pinned (OpenSpec.ofChange fnExactBoxSpreadWrong)

/-- 'laws.FnExactGuidedFilter': WHATEVER THE INPUT: true; the input reads as it did. -/
def fnExactGuidedFilterSpec : ChangeSpec := { name := "fnExactGuidedFilter", fn := fun _ => fun
  | [d1, d2, d3] => { results := [.lit (.bool true)], args := [d1, d2, d3] }
  | _ => none }
def fnExactGuidedFilterRow : OpenClaim := { program := "ytpjbbmeebnbdlab", sum := "5609ad7bf9e505991e1284e73336e4ee1e9699b6896bc29dd1b617d9230cec13", func := "loop.example/g01308/laws.FnExactGuidedFilter", spec := "fnExactGuidedFilter", inPlace := ["math.Float64bits", "math.Float64frombits"], unfollowed := true, recurses := true, apart := false }
def FnExactGuidedFilterSaid : Prop := fnExactGuidedFilterRow.holds Try.pinned (OpenSpec.ofChange fnExactGuidedFilterSpec)

/-- ITS FALSE NEIGHBOUR: 'it returns false'. Refute it at one input. -/
def fnExactGuidedFilterWrong : ChangeSpec := { name := "fnExactGuidedFilter", fn := fun _ => fun
  | [d1, d2, d3] => { results := [.lit (.bool false)], args := [d1, d2, d3] }
  | _ => none }
def FnExactGuidedFilterWrongFalsely : Prop := fnExactGuidedFilterRow.holds Try.pinned (OpenSpec.ofChange fnExactGuidedFilterWrong)

/-- 'laws.FnExactEdgeFilter': WHATEVER THE INPUT: true; the input reads as it did. -/
def fnExactEdgeFilterSpec : ChangeSpec := { name := "fnExactEdgeFilter", fn := fun _ => fun
  | [d1, d2, d3] => { results := [.lit (.bool true)], args := [d1, d2, d3] }
  | _ => none }
def fnExactEdgeFilterRow : OpenClaim := { program := "ytpjbbmeebnbdlab", sum := "5609ad7bf9e505991e1284e73336e4ee1e9699b6896bc29dd1b617d9230cec13", func := "loop.example/g01308/laws.FnExactEdgeFilter", spec := "fnExactEdgeFilter", inPlace := ["math.Float64bits", "math.Float64frombits"], unfollowed := true, recurses := true, apart := false }
def FnExactEdgeFilterSaid : Prop := fnExactEdgeFilterRow.holds Try.pinned (OpenSpec.ofChange fnExactEdgeFilterSpec)

/-- ITS FALSE NEIGHBOUR: 'it returns false'. Refute it at one input. -/
def fnExactEdgeFilterWrong : ChangeSpec := { name := "fnExactEdgeFilter", fn := fun _ => fun
  | [d1, d2, d3] => { results := [.lit (.bool false)], args := [d1, d2, d3] }
  | _ => none }
def FnExactEdgeFilterWrongFalsely : Prop := fnExactEdgeFilterRow.holds Try.pinned (OpenSpec.ofChange fnExactEdgeFilterWrong)

/-- 'laws.FnExactLocalTone': WHATEVER THE INPUT: true; the input reads as it did. -/
def fnExactLocalToneSpec : ChangeSpec := { name := "fnExactLocalTone", fn := fun _ => fun
  | [d1, d2] => { results := [.lit (.bool true)], args := [d1, d2] }
  | _ => none }
def fnExactLocalToneRow : OpenClaim := { program := "ytpjbbmeebnbdlab", sum := "5609ad7bf9e505991e1284e73336e4ee1e9699b6896bc29dd1b617d9230cec13", func := "loop.example/g01308/laws.FnExactLocalTone", spec := "fnExactLocalTone", inPlace := ["math.Float64bits", "math.Float64frombits"], unfollowed := true, recurses := true, apart := false }
def FnExactLocalToneSaid : Prop := fnExactLocalToneRow.holds Try.pinned (OpenSpec.ofChange fnExactLocalToneSpec)

/-- ITS FALSE NEIGHBOUR: 'it returns false'. Refute it at one input. -/
def fnExactLocalToneWrong : ChangeSpec := { name := "fnExactLocalTone", fn := fun _ => fun
  | [d1, d2] => { results := [.lit (.bool false)], args := [d1, d2] }
  | _ => none }
def FnExactLocalToneWrongFalsely : Prop := fnExactLocalToneRow.holds Try.pinned (OpenSpec.ofChange fnExactLocalToneWrong)

/-- 'laws.FnExactSharpenPicture': WHATEVER THE INPUT: true; the input reads as it did. -/
def fnExactSharpenPictureSpec : ChangeSpec := { name := "fnExactSharpenPicture", fn := fun _ => fun
  | [d1, d2, d3] => { results := [.lit (.bool true)], args := [d1, d2, d3] }
  | _ => none }
def fnExactSharpenPictureRow : OpenClaim := { program := "ytpjbbmeebnbdlab", sum := "5609ad7bf9e505991e1284e73336e4ee1e9699b6896bc29dd1b617d9230cec13", func := "loop.example/g01308/laws.FnExactSharpenPicture", spec := "fnExactSharpenPicture", inPlace := ["math.Float64bits", "math.Float64frombits"], unfollowed := true, recurses := true, apart := false }
def FnExactSharpenPictureSaid : Prop := fnExactSharpenPictureRow.holds Try.pinned (OpenSpec.ofChange fnExactSharpenPictureSpec)

/-- ITS FALSE NEIGHBOUR: 'it returns false'. Refute it at one input. -/
def fnExactSharpenPictureWrong : ChangeSpec := { name := "fnExactSharpenPicture", fn := fun _ => fun
  | [d1, d2, d3] => { results := [.lit (.bool false)], args := [d1, d2, d3] }
  | _ => none }
def FnExactSharpenPictureWrongFalsely : Prop := fnExactSharpenPictureRow.holds Try.pinned (OpenSpec.ofChange fnExactSharpenPictureWrong)

/-- 'laws.FnExactHaloOf': WHATEVER THE INPUT: true; the input reads as it did. -/
def fnExactHaloOfSpec : ChangeSpec := { name := "fnExactHaloOf", fn := fun _ => fun
  | [d1, d2] => { results := [.lit (.bool true)], args := [d1, d2] }
  | _ => none }
def fnExactHaloOfRow : OpenClaim := { program := "ytpjbbmeebnbdlab", sum := "5609ad7bf9e505991e1284e73336e4ee1e9699b6896bc29dd1b617d9230cec13", func := "loop.example/g01308/laws.FnExactHaloOf", spec := "fnExactHaloOf", inPlace := ["math.Float64bits", "math.Float64frombits"], apart := false }
def FnExactHaloOfSaid : Prop := fnExactHaloOfRow.holds Try.pinned (OpenSpec.ofChange fnExactHaloOfSpec)

/-- ITS FALSE NEIGHBOUR: 'it returns false'. Refute it at one input. -/
def fnExactHaloOfWrong : ChangeSpec := { name := "fnExactHaloOf", fn := fun _ => fun
  | [d1, d2] => { results := [.lit (.bool false)], args := [d1, d2] }
  | _ => none }
def FnExactHaloOfWrongFalsely : Prop := fnExactHaloOfRow.holds Try.pinned (OpenSpec.ofChange fnExactHaloOfWrong)

/-- 'laws.FnExactBendPicture': WHATEVER THE INPUT: true; the input reads as it did. -/
def fnExactBendPictureSpec : ChangeSpec := { name := "fnExactBendPicture", fn := fun _ => fun
  | [d1, d2] => { results := [.lit (.bool true)], args := [d1, d2] }
  | _ => none }
def fnExactBendPictureRow : OpenClaim := { program := "ytpjbbmeebnbdlab", sum := "5609ad7bf9e505991e1284e73336e4ee1e9699b6896bc29dd1b617d9230cec13", func := "loop.example/g01308/laws.FnExactBendPicture", spec := "fnExactBendPicture", inPlace := ["math.archFloor", "math.Float64bits", "math.Float64frombits", "math.archTrunc"], unfollowed := true, recurses := true, apart := false }
def FnExactBendPictureSaid : Prop := fnExactBendPictureRow.holds Try.pinned (OpenSpec.ofChange fnExactBendPictureSpec)

/-- ITS FALSE NEIGHBOUR: 'it returns false'. Refute it at one input. -/
def fnExactBendPictureWrong : ChangeSpec := { name := "fnExactBendPicture", fn := fun _ => fun
  | [d1, d2] => { results := [.lit (.bool false)], args := [d1, d2] }
  | _ => none }
def FnExactBendPictureWrongFalsely : Prop := fnExactBendPictureRow.holds Try.pinned (OpenSpec.ofChange fnExactBendPictureWrong)

/-- 'laws.FnExactFlipPicture': WHATEVER THE INPUT: true; the input reads as it did. -/
def fnExactFlipPictureSpec : ChangeSpec := { name := "fnExactFlipPicture", fn := fun _ => fun
  | [d] => { results := [.lit (.bool true)], args := [d] }
  | _ => none }
def fnExactFlipPictureRow : OpenClaim := { program := "ytpjbbmeebnbdlab", sum := "5609ad7bf9e505991e1284e73336e4ee1e9699b6896bc29dd1b617d9230cec13", func := "loop.example/g01308/laws.FnExactFlipPicture", spec := "fnExactFlipPicture", inPlace := ["math.Float64bits", "math.Float64frombits"], apart := false }
def FnExactFlipPictureSaid : Prop := fnExactFlipPictureRow.holds Try.pinned (OpenSpec.ofChange fnExactFlipPictureSpec)

/-- ITS FALSE NEIGHBOUR: 'it returns false'. Refute it at one input. -/
def fnExactFlipPictureWrong : ChangeSpec := { name := "fnExactFlipPicture", fn := fun _ => fun
  | [d] => { results := [.lit (.bool false)], args := [d] }
  | _ => none }
def FnExactFlipPictureWrongFalsely : Prop := fnExactFlipPictureRow.holds Try.pinned (OpenSpec.ofChange fnExactFlipPictureWrong)

/-- 'laws.FnExactMedianLight': WHATEVER THE INPUT: true; the input reads as it did. -/
def fnExactMedianLightSpec : ChangeSpec := { name := "fnExactMedianLight", fn := fun _ => fun
  | [d] => { results := [.lit (.bool true)], args := [d] }
  | _ => none }
def fnExactMedianLightRow : OpenClaim := { program := "ytpjbbmeebnbdlab", sum := "5609ad7bf9e505991e1284e73336e4ee1e9699b6896bc29dd1b617d9230cec13", func := "loop.example/g01308/laws.FnExactMedianLight", spec := "fnExactMedianLight", inPlace := ["math.Float64bits", "math.Float64frombits", "slices.overlaps[float32]"], apart := false }
def FnExactMedianLightSaid : Prop := fnExactMedianLightRow.holds Try.pinned (OpenSpec.ofChange fnExactMedianLightSpec)

/-- ITS FALSE NEIGHBOUR: 'it returns false'. Refute it at one input. -/
def fnExactMedianLightWrong : ChangeSpec := { name := "fnExactMedianLight", fn := fun _ => fun
  | [d] => { results := [.lit (.bool false)], args := [d] }
  | _ => none }
def FnExactMedianLightWrongFalsely : Prop := fnExactMedianLightRow.holds Try.pinned (OpenSpec.ofChange fnExactMedianLightWrong)

/- THE SECOND FORM. 'bulk': how many values and letters a reading holds, each counted each time it is reached (what is shared counts as often as it is met; a slice's spare places count too). A statement '..UptoSaid' is the law's where the arguments, and the package variables that the reading takes, are together of bulk at most 1048576: NARROWER than '..Said'. Prove '..Said' where nothing that the law and all that it calls make is longer than what came in: it says more and counts as full. Else prove '..UptoSaid'. A law counts once. -/
mutual
def uptoBulk {H : Type} : DataW H → Nat
  | .lit (.string bytes) => bytes.length + 1
  | .lit _ => 1
  | .nil => 1
  | .ptr d => uptoBulk d + 1
  | .slice elems spare => uptoBulkAll elems + uptoBulkAll spare + 1
  | .agg parts => uptoBulkAll parts + 1
  | .iface _ d => uptoBulk d + 1
  | .map entries => uptoBulkEntries entries + 1
  | .held _ => 1
def uptoBulkAll {H : Type} : List (DataW H) → Nat
  | [] => 0
  | d :: r => uptoBulk d + uptoBulkAll r
def uptoBulkEntries {H : Type} : List (Lit × DataW H) → Nat
  | [] => 0
  | x :: r => uptoBulkEntry x + uptoBulkEntries r
def uptoBulkEntry {H : Type} : Lit × DataW H → Nat
  | (.string bytes, d) => bytes.length + uptoBulk d + 1
  | (_, d) => uptoBulk d + 1
 end
def uptoSmall : (H : Type) → List (DataW H) → Bool := fun _ ds => decide (uptoBulkAll ds ≤ 1048576)
def OpenSpec.upto (s : _root_.Go.ChangeSpec) : _root_.Go.OpenSpec := { _root_.Go.OpenSpec.ofChange s with cond := some uptoSmall }

/-- 'laws.FnExactPyramidOf', WHERE WHAT IT READS IS OF BULK AT MOST 1048576: true; the input reads as it did. -/
def fnExactPyramidOfUptoRow : OpenClaim := { program := "ytpjbbmeebnbdlab", sum := "5609ad7bf9e505991e1284e73336e4ee1e9699b6896bc29dd1b617d9230cec13", func := "loop.example/g01308/laws.FnExactPyramidOf", spec := "fnExactPyramidOf", inPlace := ["math.Float64bits", "math.Float64frombits"], unfollowed := true, recurses := true, apart := false, narrowed := true }
def FnExactPyramidOfUptoSaid : Prop := fnExactPyramidOfUptoRow.holds Try.pinned (OpenSpec.upto fnExactPyramidOfSpec)

/-- 'laws.FnExactFromPyramid', WHERE WHAT IT READS IS OF BULK AT MOST 1048576: true; the input reads as it did. -/
def fnExactFromPyramidUptoRow : OpenClaim := { program := "ytpjbbmeebnbdlab", sum := "5609ad7bf9e505991e1284e73336e4ee1e9699b6896bc29dd1b617d9230cec13", func := "loop.example/g01308/laws.FnExactFromPyramid", spec := "fnExactFromPyramid", inPlace := ["math.Float64bits", "math.Float64frombits"], unfollowed := true, recurses := true, apart := false, narrowed := true }
def FnExactFromPyramidUptoSaid : Prop := fnExactFromPyramidUptoRow.holds Try.pinned (OpenSpec.upto fnExactFromPyramidSpec)

/-- 'laws.FnExactBoxMean', WHERE WHAT IT READS IS OF BULK AT MOST 1048576: true; the input reads as it did. -/
def fnExactBoxMeanUptoRow : OpenClaim := { program := "ytpjbbmeebnbdlab", sum := "5609ad7bf9e505991e1284e73336e4ee1e9699b6896bc29dd1b617d9230cec13", func := "loop.example/g01308/laws.FnExactBoxMean", spec := "fnExactBoxMean", inPlace := ["math.Float64bits", "math.Float64frombits"], unfollowed := true, recurses := true, apart := false, narrowed := true }
def FnExactBoxMeanUptoSaid : Prop := fnExactBoxMeanUptoRow.holds Try.pinned (OpenSpec.upto fnExactBoxMeanSpec)

/-- 'laws.FnExactBoxSpread', WHERE WHAT IT READS IS OF BULK AT MOST 1048576: true; the input reads as it did. -/
def fnExactBoxSpreadUptoRow : OpenClaim := { program := "ytpjbbmeebnbdlab", sum := "5609ad7bf9e505991e1284e73336e4ee1e9699b6896bc29dd1b617d9230cec13", func := "loop.example/g01308/laws.FnExactBoxSpread", spec := "fnExactBoxSpread", inPlace := ["math.Float64bits", "math.Float64frombits"], unfollowed := true, recurses := true, apart := false, narrowed := true }
def FnExactBoxSpreadUptoSaid : Prop := fnExactBoxSpreadUptoRow.holds Try.pinned (OpenSpec.upto fnExactBoxSpreadSpec)

/-- 'laws.FnExactGuidedFilter', WHERE WHAT IT READS IS OF BULK AT MOST 1048576: true; the input reads as it did. -/
def fnExactGuidedFilterUptoRow : OpenClaim := { program := "ytpjbbmeebnbdlab", sum := "5609ad7bf9e505991e1284e73336e4ee1e9699b6896bc29dd1b617d9230cec13", func := "loop.example/g01308/laws.FnExactGuidedFilter", spec := "fnExactGuidedFilter", inPlace := ["math.Float64bits", "math.Float64frombits"], unfollowed := true, recurses := true, apart := false, narrowed := true }
def FnExactGuidedFilterUptoSaid : Prop := fnExactGuidedFilterUptoRow.holds Try.pinned (OpenSpec.upto fnExactGuidedFilterSpec)

/-- 'laws.FnExactEdgeFilter', WHERE WHAT IT READS IS OF BULK AT MOST 1048576: true; the input reads as it did. -/
def fnExactEdgeFilterUptoRow : OpenClaim := { program := "ytpjbbmeebnbdlab", sum := "5609ad7bf9e505991e1284e73336e4ee1e9699b6896bc29dd1b617d9230cec13", func := "loop.example/g01308/laws.FnExactEdgeFilter", spec := "fnExactEdgeFilter", inPlace := ["math.Float64bits", "math.Float64frombits"], unfollowed := true, recurses := true, apart := false, narrowed := true }
def FnExactEdgeFilterUptoSaid : Prop := fnExactEdgeFilterUptoRow.holds Try.pinned (OpenSpec.upto fnExactEdgeFilterSpec)

/-- 'laws.FnExactLocalTone', WHERE WHAT IT READS IS OF BULK AT MOST 1048576: true; the input reads as it did. -/
def fnExactLocalToneUptoRow : OpenClaim := { program := "ytpjbbmeebnbdlab", sum := "5609ad7bf9e505991e1284e73336e4ee1e9699b6896bc29dd1b617d9230cec13", func := "loop.example/g01308/laws.FnExactLocalTone", spec := "fnExactLocalTone", inPlace := ["math.Float64bits", "math.Float64frombits"], unfollowed := true, recurses := true, apart := false, narrowed := true }
def FnExactLocalToneUptoSaid : Prop := fnExactLocalToneUptoRow.holds Try.pinned (OpenSpec.upto fnExactLocalToneSpec)

/-- 'laws.FnExactSharpenPicture', WHERE WHAT IT READS IS OF BULK AT MOST 1048576: true; the input reads as it did. -/
def fnExactSharpenPictureUptoRow : OpenClaim := { program := "ytpjbbmeebnbdlab", sum := "5609ad7bf9e505991e1284e73336e4ee1e9699b6896bc29dd1b617d9230cec13", func := "loop.example/g01308/laws.FnExactSharpenPicture", spec := "fnExactSharpenPicture", inPlace := ["math.Float64bits", "math.Float64frombits"], unfollowed := true, recurses := true, apart := false, narrowed := true }
def FnExactSharpenPictureUptoSaid : Prop := fnExactSharpenPictureUptoRow.holds Try.pinned (OpenSpec.upto fnExactSharpenPictureSpec)

/-- 'laws.FnExactHaloOf', WHERE WHAT IT READS IS OF BULK AT MOST 1048576: true; the input reads as it did. -/
def fnExactHaloOfUptoRow : OpenClaim := { program := "ytpjbbmeebnbdlab", sum := "5609ad7bf9e505991e1284e73336e4ee1e9699b6896bc29dd1b617d9230cec13", func := "loop.example/g01308/laws.FnExactHaloOf", spec := "fnExactHaloOf", inPlace := ["math.Float64bits", "math.Float64frombits"], apart := false, narrowed := true }
def FnExactHaloOfUptoSaid : Prop := fnExactHaloOfUptoRow.holds Try.pinned (OpenSpec.upto fnExactHaloOfSpec)

/-- 'laws.FnExactBendPicture', WHERE WHAT IT READS IS OF BULK AT MOST 1048576: true; the input reads as it did. -/
def fnExactBendPictureUptoRow : OpenClaim := { program := "ytpjbbmeebnbdlab", sum := "5609ad7bf9e505991e1284e73336e4ee1e9699b6896bc29dd1b617d9230cec13", func := "loop.example/g01308/laws.FnExactBendPicture", spec := "fnExactBendPicture", inPlace := ["math.archFloor", "math.Float64bits", "math.Float64frombits", "math.archTrunc"], unfollowed := true, recurses := true, apart := false, narrowed := true }
def FnExactBendPictureUptoSaid : Prop := fnExactBendPictureUptoRow.holds Try.pinned (OpenSpec.upto fnExactBendPictureSpec)

/-- 'laws.FnExactFlipPicture', WHERE WHAT IT READS IS OF BULK AT MOST 1048576: true; the input reads as it did. -/
def fnExactFlipPictureUptoRow : OpenClaim := { program := "ytpjbbmeebnbdlab", sum := "5609ad7bf9e505991e1284e73336e4ee1e9699b6896bc29dd1b617d9230cec13", func := "loop.example/g01308/laws.FnExactFlipPicture", spec := "fnExactFlipPicture", inPlace := ["math.Float64bits", "math.Float64frombits"], apart := false, narrowed := true }
def FnExactFlipPictureUptoSaid : Prop := fnExactFlipPictureUptoRow.holds Try.pinned (OpenSpec.upto fnExactFlipPictureSpec)

/-- 'laws.FnExactMedianLight', WHERE WHAT IT READS IS OF BULK AT MOST 1048576: true; the input reads as it did. -/
def fnExactMedianLightUptoRow : OpenClaim := { program := "ytpjbbmeebnbdlab", sum := "5609ad7bf9e505991e1284e73336e4ee1e9699b6896bc29dd1b617d9230cec13", func := "loop.example/g01308/laws.FnExactMedianLight", spec := "fnExactMedianLight", inPlace := ["math.Float64bits", "math.Float64frombits", "slices.overlaps[float32]"], apart := false, narrowed := true }
def FnExactMedianLightUptoSaid : Prop := fnExactMedianLightUptoRow.holds Try.pinned (OpenSpec.upto fnExactMedianLightSpec)

end Rows
end Go.Proofs.Ytpjbbmeebnbdlab
