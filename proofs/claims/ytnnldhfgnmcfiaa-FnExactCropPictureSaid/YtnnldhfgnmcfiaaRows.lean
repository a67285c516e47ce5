/-
  No cell of these rows narrows 'for every input' (looked for: loops, veiled, ifaces, maps, wideKeys, modest, calm, conditions, laid).
  DERIVED. THE GIVEN ROWS OF THIS SEAT. 12 by the template 'for every input the law returns true; each argument reads behind the call as it read before'; 0 by the template 'total and deterministic' (their statements: YtnnldhfgnmcfiaaTotals.lean).
  GIVEN WITH THE SEED: the statements are not yours to turn. If you find one false, say at which input.
  Laid BY PROGRAM, IN A SANDBOX (cutbox-rows.mjs): the forced cells as the released guide's own fill.sh prints them over the translation ff822696ca895813… (all of the seat's roots in one cut). By AI agents, Wed Nov 11 2026. No macro, syntax, notation, axiom, sorry.
-/
import Derived.Test.YtnnldhfgnmcfiaaChecked
import GoSem.Claim
import GoSem.ClaimJoined
import GoSem.ClaimMapViews
import Derived.JoinedTies
import Derived.KernelRfl
namespace Go.Proofs.Ytnnldhfgnmcfiaa
/- THE CELL 'sum', in the pinned program and in every row, IS THE sha256 OF THE DUMP (.gsa) THAT YtnnldhfgnmcfiaaProg.lean LOADS. Nothing in Lean hashes anything: it is a label: what it is worth is what the hold of that sum in a sandbox is worth. -/
noncomputable def Try.pinned : Pinned := { name := "ytnnldhfgnmcfiaa", sum := "ff822696ca8958136a365552d971d8e684a20f3a3b97637168de3cf81b38c823", checked := Try.checked }
namespace Rows
def none {H : Type} : Left H := { results := [], args := [] }

/-- 'laws.FnExactMixPictures': WHATEVER THE INPUT: true; the input reads as it did. -/
def fnExactMixPicturesSpec : ChangeSpec := { name := "fnExactMixPictures", fn := fun _ => fun
  | [d1, d2, d3] => { results := [.lit (.bool true)], args := [d1, d2, d3] }
  | _ => none }
def fnExactMixPicturesRow : OpenClaim := { program := "ytnnldhfgnmcfiaa", sum := "ff822696ca8958136a365552d971d8e684a20f3a3b97637168de3cf81b38c823", func := "loop.example/g01308/laws.FnExactMixPictures", spec := "fnExactMixPictures", inPlace := ["math.Float64bits", "math.Float64frombits"], unfollowed := true, recurses := true, apart := false }
def FnExactMixPicturesSaid : Prop := fnExactMixPicturesRow.holds Try.pinned (OpenSpec.ofChange fnExactMixPicturesSpec)

/-- ITS FALSE NEIGHBOUR: 'it returns false'. Refute it at one input. -/
def fnExactMixPicturesWrong : ChangeSpec := { name := "fnExactMixPictures", fn := fun _ => fun
  | [d1, d2, d3] => { results := [.lit (.bool false)], args := [d1, d2, d3] }
  | _ => none }
def FnExactMixPicturesWrongFalsely : Prop := fnExactMixPicturesRow.holds Try.pinned (OpenSpec.ofChange fnExactMixPicturesWrong)

/-- 'laws.FnExactClipPicture': WHATEVER THE INPUT: true; the input reads as it did. -/
def fnExactClipPictureSpec : ChangeSpec := { name := "fnExactClipPicture", fn := fun _ => fun
  | [d1, d2, d3] => { results := [.lit (.bool true)], args := [d1, d2, d3] }
  | _ => none }
def fnExactClipPictureRow : OpenClaim := { program := "ytnnldhfgnmcfiaa", sum := "ff822696ca8958136a365552d971d8e684a20f3a3b97637168de3cf81b38c823", func := "loop.example/g01308/laws.FnExactClipPicture", spec := "fnExactClipPicture", inPlace := ["math.Float64bits", "math.Float64frombits"], unfollowed := true, recurses := true, apart := false }
def FnExactClipPictureSaid : Prop := fnExactClipPictureRow.holds Try.pinned (OpenSpec.ofChange fnExactClipPictureSpec)

/-- ITS FALSE NEIGHBOUR: 'it returns false'. Refute it at one input. -/
def fnExactClipPictureWrong : ChangeSpec := { name := "fnExactClipPicture", fn := fun _ => fun
  | [d1, d2, d3] => { results := [.lit (.bool false)], args := [d1, d2, d3] }
  | _ => none }
def FnExactClipPictureWrongFalsely : Prop := fnExactClipPictureRow.holds Try.pinned (OpenSpec.ofChange fnExactClipPictureWrong)

/-- 'laws.FnExactHalfOf': WHATEVER THE INPUT: true; the input reads as it did. -/
def fnExactHalfOfSpec : ChangeSpec := { name := "fnExactHalfOf", fn := fun _ => fun
  | [d] => { results := [.lit (.bool true)], args := [d] }
  | _ => none }
def fnExactHalfOfRow : OpenClaim := { program := "ytnnldhfgnmcfiaa", sum := "ff822696ca8958136a365552d971d8e684a20f3a3b97637168de3cf81b38c823", func := "loop.example/g01308/laws.FnExactHalfOf", spec := "fnExactHalfOf", inPlace := ["math.Float64bits", "math.Float64frombits", "math.RoundToEven", "math.Float32bits", "math.Float32frombits"], apart := false }
def FnExactHalfOfSaid : Prop := fnExactHalfOfRow.holds Try.pinned (OpenSpec.ofChange fnExactHalfOfSpec)

/-- ITS FALSE NEIGHBOUR: 'it returns false'. Refute it at one input. -/
def fnExactHalfOfWrong : ChangeSpec := { name := "fnExactHalfOf", fn := fun _ => fun
  | [d] => { results := [.lit (.bool false)], args := [d] }
  | _ => none }
def FnExactHalfOfWrongFalsely : Prop := fnExactHalfOfRow.holds Try.pinned (OpenSpec.ofChange fnExactHalfOfWrong)

/-- 'laws.FnExactFromHalf': WHATEVER THE INPUT: true; the input reads as it did. -/
def fnExactFromHalfSpec : ChangeSpec := { name := "fnExactFromHalf", fn := fun _ => fun
  | [d] => { results := [.lit (.bool true)], args := [d] }
  | _ => none }
def fnExactFromHalfRow : OpenClaim := { program := "ytnnldhfgnmcfiaa", sum := "ff822696ca8958136a365552d971d8e684a20f3a3b97637168de3cf81b38c823", func := "loop.example/g01308/laws.FnExactFromHalf", spec := "fnExactFromHalf", inPlace := ["math.Float64bits", "math.Float64frombits", "math.Float32frombits"], apart := false }
def FnExactFromHalfSaid : Prop := fnExactFromHalfRow.holds Try.pinned (OpenSpec.ofChange fnExactFromHalfSpec)

/-- ITS FALSE NEIGHBOUR: 'it returns false'. Refute it at one input. -/
def fnExactFromHalfWrong : ChangeSpec := { name := "fnExactFromHalf", fn := fun _ => fun
  | [d] => { results := [.lit (.bool false)], args := [d] }
  | _ => none }
def FnExactFromHalfWrongFalsely : Prop := fnExactFromHalfRow.holds Try.pinned (OpenSpec.ofChange fnExactFromHalfWrong)

/-- 'laws.FnExactHalvedPicture': WHATEVER THE INPUT: true; the input reads as it did. -/
def fnExactHalvedPictureSpec : ChangeSpec := { name := "fnExactHalvedPicture", fn := fun _ => fun
  | [d] => { results := [.lit (.bool true)], args := [d] }
  | _ => none }
def fnExactHalvedPictureRow : OpenClaim := { program := "ytnnldhfgnmcfiaa", sum := "ff822696ca8958136a365552d971d8e684a20f3a3b97637168de3cf81b38c823", func := "loop.example/g01308/laws.FnExactHalvedPicture", spec := "fnExactHalvedPicture", inPlace := ["math.Float64bits", "math.Float64frombits", "math.RoundToEven", "math.Float32bits", "math.Float32frombits"], unfollowed := true, recurses := true, apart := false }
def FnExactHalvedPictureSaid : Prop := fnExactHalvedPictureRow.holds Try.pinned (OpenSpec.ofChange fnExactHalvedPictureSpec)

/-- ITS FALSE NEIGHBOUR: 'it returns false'. Refute it at one input. -/
def fnExactHalvedPictureWrong : ChangeSpec := { name := "fnExactHalvedPicture", fn := fun _ => fun
  | [d] => { results := [.lit (.bool false)], args := [d] }
  | _ => none }
def FnExactHalvedPictureWrongFalsely : Prop := fnExactHalvedPictureRow.holds Try.pinned (OpenSpec.ofChange fnExactHalvedPictureWrong)

/-- 'laws.FnExactWorstHalf': WHATEVER THE INPUT: true; the input reads as it did. -/
def fnExactWorstHalfSpec : ChangeSpec := { name := "fnExactWorstHalf", fn := fun _ => fun
  | [d] => { results := [.lit (.bool true)], args := [d] }
  | _ => none }
def fnExactWorstHalfRow : OpenClaim := { program := "ytnnldhfgnmcfiaa", sum := "ff822696ca8958136a365552d971d8e684a20f3a3b97637168de3cf81b38c823", func := "loop.example/g01308/laws.FnExactWorstHalf", spec := "fnExactWorstHalf", inPlace := ["math.Float64bits", "math.Float64frombits", "math.RoundToEven", "math.Float32bits", "math.Float32frombits"], unfollowed := true, recurses := true, apart := false }
def FnExactWorstHalfSaid : Prop := fnExactWorstHalfRow.holds Try.pinned (OpenSpec.ofChange fnExactWorstHalfSpec)

/-- ITS FALSE NEIGHBOUR: 'it returns false'. Refute it at one input. -/
def fnExactWorstHalfWrong : ChangeSpec := { name := "fnExactWorstHalf", fn := fun _ => fun
  | [d] => { results := [.lit (.bool false)], args := [d] }
  | _ => none }
def FnExactWorstHalfWrongFalsely : Prop := fnExactWorstHalfRow.holds Try.pinned (OpenSpec.ofChange fnExactWorstHalfWrong)

/-- 'laws.FnExactPlainPicture': WHATEVER THE INPUT: true; the input reads as it did. -/
def fnExactPlainPictureSpec : ChangeSpec := { name := "fnExactPlainPicture", fn := fun _ => fun
  | [d1, d2, d3] => { results := [.lit (.bool true)], args := [d1, d2, d3] }
  | _ => none }
def fnExactPlainPictureRow : OpenClaim := { program := "ytnnldhfgnmcfiaa", sum := "ff822696ca8958136a365552d971d8e684a20f3a3b97637168de3cf81b38c823", func := "loop.example/g01308/laws.FnExactPlainPicture", spec := "fnExactPlainPicture", inPlace := ["math.Float64bits", "math.Float64frombits"], unfollowed := true, recurses := true, apart := false }
def FnExactPlainPictureSaid : Prop := fnExactPlainPictureRow.holds Try.pinned (OpenSpec.ofChange fnExactPlainPictureSpec)

/-- ITS FALSE NEIGHBOUR: 'it returns false'. Refute it at one input. -/
def fnExactPlainPictureWrong : ChangeSpec := { name := "fnExactPlainPicture", fn := fun _ => fun
  | [d1, d2, d3] => { results := [.lit (.bool false)], args := [d1, d2, d3] }
  | _ => none }
def FnExactPlainPictureWrongFalsely : Prop := fnExactPlainPictureRow.holds Try.pinned (OpenSpec.ofChange fnExactPlainPictureWrong)

/-- 'laws.FnExactRampPicture': WHATEVER THE INPUT: true; the input reads as it did. -/
def fnExactRampPictureSpec : ChangeSpec := { name := "fnExactRampPicture", fn := fun _ => fun
  | [d1, d2, d3, d4] => { results := [.lit (.bool true)], args := [d1, d2, d3, d4] }
  | _ => none }
def fnExactRampPictureRow : OpenClaim := { program := "ytnnldhfgnmcfiaa", sum := "ff822696ca8958136a365552d971d8e684a20f3a3b97637168de3cf81b38c823", func := "loop.example/g01308/laws.FnExactRampPicture", spec := "fnExactRampPicture", inPlace := ["math.Float64bits", "math.Float64frombits"], unfollowed := true, recurses := true, apart := false }
def FnExactRampPictureSaid : Prop := fnExactRampPictureRow.holds Try.pinned (OpenSpec.ofChange fnExactRampPictureSpec)

/-- ITS FALSE NEIGHBOUR: 'it returns false'. Refute it at one input. -/
def fnExactRampPictureWrong : ChangeSpec := { name := "fnExactRampPicture", fn := fun _ => fun
  | [d1, d2, d3, d4] => { results := [.lit (.bool false)], args := [d1, d2, d3, d4] }
  | _ => none }
def FnExactRampPictureWrongFalsely : Prop := fnExactRampPictureRow.holds Try.pinned (OpenSpec.ofChange fnExactRampPictureWrong)

/-- 'laws.FnExactCropPicture': WHATEVER THE INPUT: true; the input reads as it did. -/
def fnExactCropPictureSpec : ChangeSpec := { name := "fnExactCropPicture", fn := fun _ => fun
  | [d1, d2, d3, d4, d5] => { results := [.lit (.bool true)], args := [d1, d2, d3, d4, d5] }
  | _ => none }
def fnExactCropPictureRow : OpenClaim := { program := "ytnnldhfgnmcfiaa", sum := "ff822696ca8958136a365552d971d8e684a20f3a3b97637168de3cf81b38c823", func := "loop.example/g01308/laws.FnExactCropPicture", spec := "fnExactCropPicture", inPlace := ["math.Float64bits", "math.Float64frombits"], apart := false }
def FnExactCropPictureSaid : Prop := fnExactCropPictureRow.holds Try.pinned (OpenSpec.ofChange fnExactCropPictureSpec)

/-- ITS FALSE NEIGHBOUR: 'it returns false'. Refute it at one input. -/
def fnExactCropPictureWrong : ChangeSpec := { name := "fnExactCropPicture", fn := fun _ => fun
  | [d1, d2, d3, d4, d5] => { results := [.lit (.bool false)], args := [d1, d2, d3, d4, d5] }
  | _ => none }
def FnExactCropPictureWrongFalsely : Prop := fnExactCropPictureRow.holds Try.pinned (OpenSpec.ofChange fnExactCropPictureWrong)

/-- 'laws.FnExactFlipPicture': WHATEVER THE INPUT: true; the input reads as it did. -/
def fnExactFlipPictureSpec : ChangeSpec := { name := "fnExactFlipPicture", fn := fun _ => fun
  | [d] => { results := [.lit (.bool true)], args := [d] }
  | _ => none }
def fnExactFlipPictureRow : OpenClaim := { program := "ytnnldhfgnmcfiaa", sum := "ff822696ca8958136a365552d971d8e684a20f3a3b97637168de3cf81b38c823", func := "loop.example/g01308/laws.FnExactFlipPicture", spec := "fnExactFlipPicture", inPlace := ["math.Float64bits", "math.Float64frombits"], apart := false }
def FnExactFlipPictureSaid : Prop := fnExactFlipPictureRow.holds Try.pinned (OpenSpec.ofChange fnExactFlipPictureSpec)

/-- ITS FALSE NEIGHBOUR: 'it returns false'. Refute it at one input. -/
def fnExactFlipPictureWrong : ChangeSpec := { name := "fnExactFlipPicture", fn := fun _ => fun
  | [d] => { results := [.lit (.bool false)], args := [d] }
  | _ => none }
def FnExactFlipPictureWrongFalsely : Prop := fnExactFlipPictureRow.holds Try.pinned (OpenSpec.ofChange fnExactFlipPictureWrong)

/-- 'laws.FnExactTurnPicture': WHATEVER THE INPUT: true; the input reads as it did. -/
def fnExactTurnPictureSpec : ChangeSpec := { name := "fnExactTurnPicture", fn := fun _ => fun
  | [d] => { results := [.lit (.bool true)], args := [d] }
  | _ => none }
def fnExactTurnPictureRow : OpenClaim := { program := "ytnnldhfgnmcfiaa", sum := "ff822696ca8958136a365552d971d8e684a20f3a3b97637168de3cf81b38c823", func := "loop.example/g01308/laws.FnExactTurnPicture", spec := "fnExactTurnPicture", inPlace := ["math.Float64bits", "math.Float64frombits"], unfollowed := true, recurses := true, apart := false }
def FnExactTurnPictureSaid : Prop := fnExactTurnPictureRow.holds Try.pinned (OpenSpec.ofChange fnExactTurnPictureSpec)

/-- ITS FALSE NEIGHBOUR: 'it returns false'. Refute it at one input. -/
def fnExactTurnPictureWrong : ChangeSpec := { name := "fnExactTurnPicture", fn := fun _ => fun
  | [d] => { results := [.lit (.bool false)], args := [d] }
  | _ => none }
def FnExactTurnPictureWrongFalsely : Prop := fnExactTurnPictureRow.holds Try.pinned (OpenSpec.ofChange fnExactTurnPictureWrong)

/-- 'laws.FnExactFromShare': WHATEVER THE INPUT: true; the input reads as it did. -/
def fnExactFromShareSpec : ChangeSpec := { name := "fnExactFromShare", fn := fun _ => fun
  | [d] => { results := [.lit (.bool true)], args := [d] }
  | _ => none }
def fnExactFromShareRow : OpenClaim := { program := "ytnnldhfgnmcfiaa", sum := "ff822696ca8958136a365552d971d8e684a20f3a3b97637168de3cf81b38c823", func := "loop.example/g01308/laws.FnExactFromShare", spec := "fnExactFromShare", inPlace := ["math.Float64bits", "math.Float64frombits"], apart := false }
def FnExactFromShareSaid : Prop := fnExactFromShareRow.holds Try.pinned (OpenSpec.ofChange fnExactFromShareSpec)

/-- ITS FALSE NEIGHBOUR: 'it returns false'. Refute it at one input. -/
def fnExactFromShareWrong : ChangeSpec := { name := "fnExactFromShare", fn := fun _ => fun
  | [d] => { results := [.lit (.bool false)], args := [d] }
  | _ => none }
def FnExactFromShareWrongFalsely : Prop := fnExactFromShareRow.holds Try.pinned (OpenSpec.ofChange fnExactFromShareWrong)

/- THE SECOND FORM. 'bulk': how many values and letters a reading holds, each counted each time it is reached (what is shared counts as often as it is met; a slice's spare places count too). A statement '..UptoSaid' is the law's where the arguments, and the package variables that the reading takes, are together of bulk at most 1048576: NARROWER than '..Said'. Prove '..Said' where nothing that the law and all that it calls make is longer than what came in: it says more and counts as full. Else prove '..UptoSaid'. A law counts once. -/
mutual
def uptoBulk {H : Type} : DataW H → Nat
  | .lit (.string bytes) => bytes.length + 1
  | .lit _ => 1
  | .nil => 1
  | .ptr d => uptoBulk d + 1
  | .slice elems spare => uptoBulkAll elems + uptoBulkAll spare + 1
  | .agg parts => uptoBulkAll parts + 1
  | .iface _ d => uptoBulk d + 1
  | .map entries => uptoBulkEntries entries + 1
  | .held _ => 1
def uptoBulkAll {H : Type} : List (DataW H) → Nat
  | [] => 0
  | d :: r => uptoBulk d + uptoBulkAll r
def uptoBulkEntries {H : Type} : List (Lit × DataW H) → Nat
  | [] => 0
  | x :: r => uptoBulkEntry x + uptoBulkEntries r
def uptoBulkEntry {H : Type} : Lit × DataW H → Nat
  | (.string bytes, d) => bytes.length + uptoBulk d + 1
  | (_, d) => uptoBulk d + 1
 end
def uptoSmall : (H : Type) → List (DataW H) → Bool := fun _ ds => decide (uptoBulkAll ds ≤ 1048576)
def OpenSpec.upto (s : _root_.Go.ChangeSpec) : _root_.Go.OpenSpec := { _root_.Go.OpenSpec.ofChange s with cond := some uptoSmall }

/-- 'laws.FnExactMixPictures', WHERE WHAT IT READS IS OF BULK AT MOST 1048576: true; the input reads as it did. -/
def fnExactMixPicturesUptoRow : OpenClaim := { program := "ytnnldhfgnmcfiaa", sum := "ff822696ca8958136a365552d971d8e684a20f3a3b97637168de3cf81b38c823", func := "loop.example/g01308/laws.FnExactMixPictures", spec := "fnExactMixPictures", inPlace := ["math.Float64bits", "math.Float64frombits"], unfollowed := true, recurses := true, apart := false, narrowed := true }
def FnExactMixPicturesUptoSaid : Prop := fnExactMixPicturesUptoRow.holds Try.pinned (OpenSpec.upto fnExactMixPicturesSpec)

/-- 'laws.FnExactClipPicture', WHERE WHAT IT READS IS OF BULK AT MOST 1048576: true; the input reads as it did. -/
def fnExactClipPictureUptoRow : OpenClaim := { program := "ytnnldhfgnmcfiaa", sum := "ff822696ca8958136a365552d971d8e684a20f3a3b97637168de3cf81b38c823", func := "loop.example/g01308/laws.FnExactClipPicture", spec := "fnExactClipPicture", inPlace := ["math.Float64bits", "math.Float64frombits"], unfollowed := true, recurses := true, apart := false, narrowed := true }
def FnExactClipPictureUptoSaid : Prop := fnExactClipPictureUptoRow.holds Try.pinned (OpenSpec.upto fnExactClipPictureSpec)

/-- 'laws.FnExactHalfOf', WHERE WHAT IT READS IS OF BULK AT MOST 1048576: true; the input reads as it did. -/
def fnExactHalfOfUptoRow : OpenClaim := { program := "ytnnldhfgnmcfiaa", sum := "ff822696ca8958136a365552d971d8e684a20f3a3b97637168de3cf81b38c823", func := "loop.example/g01308/laws.FnExactHalfOf", spec := "fnExactHalfOf", inPlace := ["math.Float64bits", "math.Float64frombits", "math.RoundToEven", "math.Float32bits", "math.Float32frombits"], apart := false, narrowed := true }
def FnExactHalfOfUptoSaid : Prop := fnExactHalfOfUptoRow.holds Try.pinned (OpenSpec.upto fnExactHalfOfSpec)

/-- 'laws.FnExactFromHalf', WHERE WHAT IT READS IS OF BULK AT MOST 1048576: true; the input reads as it did. -/
def fnExactFromHalfUptoRow : OpenClaim := { program := "ytnnldhfgnmcfiaa", sum := "ff822696ca8958136a365552d971d8e684a20f3a3b97637168de3cf81b38c823", func := "loop.example/g01308/laws.FnExactFromHalf", spec := "fnExactFromHalf", inPlace := ["math.Float64bits", "math.Float64frombits", "math.Float32frombits"], apart := false, narrowed := true }
def FnExactFromHalfUptoSaid : Prop := fnExactFromHalfUptoRow.holds Try.pinned (OpenSpec.upto fnExactFromHalfSpec)

/-- 'laws.FnExactHalvedPicture', WHERE WHAT IT READS IS OF BULK AT MOST 1048576: true; the input reads as it did. -/
def fnExactHalvedPictureUptoRow : OpenClaim := { program := "ytnnldhfgnmcfiaa", sum := "ff822696ca8958136a365552d971d8e684a20f3a3b97637168de3cf81b38c823", func := "loop.example/g01308/laws.FnExactHalvedPicture", spec := "fnExactHalvedPicture", inPlace := ["math.Float64bits", "math.Float64frombits", "math.RoundToEven", "math.Float32bits", "math.Float32frombits"], unfollowed := true, recurses := true, apart := false, narrowed := true }
def FnExactHalvedPictureUptoSaid : Prop := fnExactHalvedPictureUptoRow.holds Try.pinned (OpenSpec.upto fnExactHalvedPictureSpec)

/-- 'laws.FnExactWorstHalf', WHERE WHAT IT READS IS OF BULK AT MOST 1048576: true; the input reads as it did. -/
def fnExactWorstHalfUptoRow : OpenClaim := { program := "ytnnldhfgnmcfiaa", sum := "ff822696ca8958136a365552d971d8e684a20f3a3b97637168de3cf81b38c823", func := "loop.example/g01308/laws.FnExactWorstHalf", spec := "fnExactWorstHalf", inPlace := ["math.Float64bits", "math.Float64frombits", "math.RoundToEven", "math.Float32bits", "math.Float32frombits"], unfollowed := true, recurses := true, apart := false, narrowed := true }
def FnExactWorstHalfUptoSaid : Prop := fnExactWorstHalfUptoRow.holds Try.pinned (OpenSpec.upto fnExactWorstHalfSpec)

/-- 'laws.FnExactPlainPicture', WHERE WHAT IT READS IS OF BULK AT MOST 1048576: true; the input reads as it did. -/
def fnExactPlainPictureUptoRow : OpenClaim := { program := "ytnnldhfgnmcfiaa", sum := "ff822696ca8958136a365552d971d8e684a20f3a3b97637168de3cf81b38c823", func := "loop.example/g01308/laws.FnExactPlainPicture", spec := "fnExactPlainPicture", inPlace := ["math.Float64bits", "math.Float64frombits"], unfollowed := true, recurses := true, apart := false, narrowed := true }
def FnExactPlainPictureUptoSaid : Prop := fnExactPlainPictureUptoRow.holds Try.pinned (OpenSpec.upto fnExactPlainPictureSpec)

/-- 'laws.FnExactRampPicture', WHERE WHAT IT READS IS OF BULK AT MOST 1048576: true; the input reads as it did. -/
def fnExactRampPictureUptoRow : OpenClaim := { program := "ytnnldhfgnmcfiaa", sum := "ff822696ca8958136a365552d971d8e684a20f3a3b97637168de3cf81b38c823", func := "loop.example/g01308/laws.FnExactRampPicture", spec := "fnExactRampPicture", inPlace := ["math.Float64bits", "math.Float64frombits"], unfollowed := true, recurses := true, apart := false, narrowed := true }
def FnExactRampPictureUptoSaid : Prop := fnExactRampPictureUptoRow.holds Try.pinned (OpenSpec.upto fnExactRampPictureSpec)

/-- 'laws.FnExactCropPicture', WHERE WHAT IT READS IS OF BULK AT MOST 1048576: true; the input reads as it did. -/
def fnExactCropPictureUptoRow : OpenClaim := { program := "ytnnldhfgnmcfiaa", sum := "ff822696ca8958136a365552d971d8e684a20f3a3b97637168de3cf81b38c823", func := "loop.example/g01308/laws.FnExactCropPicture", spec := "fnExactCropPicture", inPlace := ["math.Float64bits", "math.Float64frombits"], apart := false, narrowed := true }
def FnExactCropPictureUptoSaid : Prop := fnExactCropPictureUptoRow.holds Try.pinned (OpenSpec.upto fnExactCropPictureSpec)

/-- 'laws.FnExactFlipPicture', WHERE WHAT IT READS IS OF BULK AT MOST 1048576: true; the input reads as it did. -/
def fnExactFlipPictureUptoRow : OpenClaim := { program := "ytnnldhfgnmcfiaa", sum := "ff822696ca8958136a365552d971d8e684a20f3a3b97637168de3cf81b38c823", func := "loop.example/g01308/laws.FnExactFlipPicture", spec := "fnExactFlipPicture", inPlace := ["math.Float64bits", "math.Float64frombits"], apart := false, narrowed := true }
def FnExactFlipPictureUptoSaid : Prop := fnExactFlipPictureUptoRow.holds Try.pinned (OpenSpec.upto fnExactFlipPictureSpec)

/-- 'laws.FnExactTurnPicture', WHERE WHAT IT READS IS OF BULK AT MOST 1048576: true; the input reads as it did. -/
def fnExactTurnPictureUptoRow : OpenClaim := { program := "ytnnldhfgnmcfiaa", sum := "ff822696ca8958136a365552d971d8e684a20f3a3b97637168de3cf81b38c823", func := "loop.example/g01308/laws.FnExactTurnPicture", spec := "fnExactTurnPicture", inPlace := ["math.Float64bits", "math.Float64frombits"], unfollowed := true, recurses := true, apart := false, narrowed := true }
def FnExactTurnPictureUptoSaid : Prop := fnExactTurnPictureUptoRow.holds Try.pinned (OpenSpec.upto fnExactTurnPictureSpec)

/-- 'laws.FnExactFromShare', WHERE WHAT IT READS IS OF BULK AT MOST 1048576: true; the input reads as it did. -/
def fnExactFromShareUptoRow : OpenClaim := { program := "ytnnldhfgnmcfiaa", sum := "ff822696ca8958136a365552d971d8e684a20f3a3b97637168de3cf81b38c823", func := "loop.example/g01308/laws.FnExactFromShare", spec := "fnExactFromShare", inPlace := ["math.Float64bits", "math.Float64frombits"], apart := false, narrowed := true }
def FnExactFromShareUptoSaid : Prop := fnExactFromShareUptoRow.holds Try.pinned (OpenSpec.upto fnExactFromShareSpec)

end Rows
end Go.Proofs.Ytnnldhfgnmcfiaa
