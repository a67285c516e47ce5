/-
  No cell of these rows narrows 'for every input' (looked for: loops, veiled, ifaces, maps, wideKeys, modest, calm, conditions, laid).
  DERIVED. THE GIVEN ROWS OF THIS SEAT. 11 by the template 'for every input the law returns true; each argument reads behind the call as it read before'; 0 by the template 'total and deterministic' (their statements: YtbloibljjhddaaaTotals.lean).
  GIVEN WITH THE SEED: the statements are not yours to turn. If you find one false, say at which input.
  Laid BY PROGRAM, IN A SANDBOX (cutbox-rows.mjs): the forced cells as the released guide's own fill.sh prints them over the translation a47eb720600fe52c… (all of the seat's roots in one cut). By AI agents, Wed Nov 11 2026. No macro, syntax, notation, axiom, sorry.
-/
import Derived.Test.YtbloibljjhddaaaChecked
import GoSem.Claim
import GoSem.ClaimJoined
import GoSem.ClaimMapViews
import Derived.JoinedTies
import Derived.KernelRfl
namespace Go.Proofs.Ytbloibljjhddaaa
/- THE CELL 'sum', in the pinned program and in every row, IS THE sha256 OF THE DUMP (.gsa) THAT YtbloibljjhddaaaProg.lean LOADS. Nothing in Lean hashes anything: it is a label: what it is worth is what the hold of that sum in a sandbox is worth. -/
noncomputable def Try.pinned : Pinned := { name := "ytbloibljjhddaaa", sum := "a47eb720600fe52c02bf7beae0cb5014b8604206ac0ce1823c231dfbfcd4887c", checked := Try.checked }
namespace Rows
def none {H : Type} : Left H := { results := [], args := [] }

/-- 'laws.FnExactIsKernel': WHATEVER THE INPUT: true; the input reads as it did. -/
def fnExactIsKernelSpec : ChangeSpec := { name := "fnExactIsKernel", fn := fun _ => fun
  | [d] => { results := [.lit (.bool true)], args := [d] }
  | _ => none }
def fnExactIsKernelRow : OpenClaim := { program := "ytbloibljjhddaaa", sum := "a47eb720600fe52c02bf7beae0cb5014b8604206ac0ce1823c231dfbfcd4887c", func := "loop.example/g01308/laws.FnExactIsKernel", spec := "fnExactIsKernel", inPlace := ["math.Float64bits", "math.Float64frombits"], apart := false }
def FnExactIsKernelSaid : Prop := fnExactIsKernelRow.holds Try.pinned (OpenSpec.ofChange fnExactIsKernelSpec)

/-- ITS FALSE NEIGHBOUR: 'it returns false'. Refute it at one input. -/
def fnExactIsKernelWrong : ChangeSpec := { name := "fnExactIsKernel", fn := fun _ => fun
  | [d] => { results := [.lit (.bool false)], args := [d] }
  | _ => none }
def FnExactIsKernelWrongFalsely : Prop := fnExactIsKernelRow.holds Try.pinned (OpenSpec.ofChange fnExactIsKernelWrong)

/-- 'laws.FnExactHillKernel': WHATEVER THE INPUT: true; the input reads as it did. -/
def fnExactHillKernelSpec : ChangeSpec := { name := "fnExactHillKernel", fn := fun _ => fun
  | [d1, d2] => { results := [.lit (.bool true)], args := [d1, d2] }
  | _ => none }
def fnExactHillKernelRow : OpenClaim := { program := "ytbloibljjhddaaa", sum := "a47eb720600fe52c02bf7beae0cb5014b8604206ac0ce1823c231dfbfcd4887c", func := "loop.example/g01308/laws.FnExactHillKernel", spec := "fnExactHillKernel", inPlace := ["math.Float64frombits", "math.Float64bits"], apart := false }
def FnExactHillKernelSaid : Prop := fnExactHillKernelRow.holds Try.pinned (OpenSpec.ofChange fnExactHillKernelSpec)

/-- ITS FALSE NEIGHBOUR: 'it returns false'. Refute it at one input. -/
def fnExactHillKernelWrong : ChangeSpec := { name := "fnExactHillKernel", fn := fun _ => fun
  | [d1, d2] => { results := [.lit (.bool false)], args := [d1, d2] }
  | _ => none }
def FnExactHillKernelWrongFalsely : Prop := fnExactHillKernelRow.holds Try.pinned (OpenSpec.ofChange fnExactHillKernelWrong)

/-- 'laws.FnExactOverPicture': WHATEVER THE INPUT: true; the input reads as it did. -/
def fnExactOverPictureSpec : ChangeSpec := { name := "fnExactOverPicture", fn := fun _ => fun
  | [d1, d2] => { results := [.lit (.bool true)], args := [d1, d2] }
  | _ => none }
def fnExactOverPictureRow : OpenClaim := { program := "ytbloibljjhddaaa", sum := "a47eb720600fe52c02bf7beae0cb5014b8604206ac0ce1823c231dfbfcd4887c", func := "loop.example/g01308/laws.FnExactOverPicture", spec := "fnExactOverPicture", inPlace := ["math.Float64bits", "math.Float64frombits"], unfollowed := true, recurses := true, apart := false }
def FnExactOverPictureSaid : Prop := fnExactOverPictureRow.holds Try.pinned (OpenSpec.ofChange fnExactOverPictureSpec)

/-- ITS FALSE NEIGHBOUR: 'it returns false'. Refute it at one input. -/
def fnExactOverPictureWrong : ChangeSpec := { name := "fnExactOverPicture", fn := fun _ => fun
  | [d1, d2] => { results := [.lit (.bool false)], args := [d1, d2] }
  | _ => none }
def FnExactOverPictureWrongFalsely : Prop := fnExactOverPictureRow.holds Try.pinned (OpenSpec.ofChange fnExactOverPictureWrong)

/-- 'laws.FnExactShadePicture': WHATEVER THE INPUT: true; the input reads as it did. -/
def fnExactShadePictureSpec : ChangeSpec := { name := "fnExactShadePicture", fn := fun _ => fun
  | [d1, d2] => { results := [.lit (.bool true)], args := [d1, d2] }
  | _ => none }
def fnExactShadePictureRow : OpenClaim := { program := "ytbloibljjhddaaa", sum := "a47eb720600fe52c02bf7beae0cb5014b8604206ac0ce1823c231dfbfcd4887c", func := "loop.example/g01308/laws.FnExactShadePicture", spec := "fnExactShadePicture", inPlace := ["math.Float64bits", "math.Float64frombits"], unfollowed := true, recurses := true, apart := false }
def FnExactShadePictureSaid : Prop := fnExactShadePictureRow.holds Try.pinned (OpenSpec.ofChange fnExactShadePictureSpec)

/-- ITS FALSE NEIGHBOUR: 'it returns false'. Refute it at one input. -/
def fnExactShadePictureWrong : ChangeSpec := { name := "fnExactShadePicture", fn := fun _ => fun
  | [d1, d2] => { results := [.lit (.bool false)], args := [d1, d2] }
  | _ => none }
def FnExactShadePictureWrongFalsely : Prop := fnExactShadePictureRow.holds Try.pinned (OpenSpec.ofChange fnExactShadePictureWrong)

/-- 'laws.FnExactUnshadePicture': WHATEVER THE INPUT: true; the input reads as it did. -/
def fnExactUnshadePictureSpec : ChangeSpec := { name := "fnExactUnshadePicture", fn := fun _ => fun
  | [d1, d2] => { results := [.lit (.bool true)], args := [d1, d2] }
  | _ => none }
def fnExactUnshadePictureRow : OpenClaim := { program := "ytbloibljjhddaaa", sum := "a47eb720600fe52c02bf7beae0cb5014b8604206ac0ce1823c231dfbfcd4887c", func := "loop.example/g01308/laws.FnExactUnshadePicture", spec := "fnExactUnshadePicture", inPlace := ["math.Float64bits", "math.Float64frombits"], unfollowed := true, recurses := true, apart := false }
def FnExactUnshadePictureSaid : Prop := fnExactUnshadePictureRow.holds Try.pinned (OpenSpec.ofChange fnExactUnshadePictureSpec)

/-- ITS FALSE NEIGHBOUR: 'it returns false'. Refute it at one input. -/
def fnExactUnshadePictureWrong : ChangeSpec := { name := "fnExactUnshadePicture", fn := fun _ => fun
  | [d1, d2] => { results := [.lit (.bool false)], args := [d1, d2] }
  | _ => none }
def FnExactUnshadePictureWrongFalsely : Prop := fnExactUnshadePictureRow.holds Try.pinned (OpenSpec.ofChange fnExactUnshadePictureWrong)

/-- 'laws.FnExactGreyOf': WHATEVER THE INPUT: true; the input reads as it did. -/
def fnExactGreyOfSpec : ChangeSpec := { name := "fnExactGreyOf", fn := fun _ => fun
  | [d] => { results := [.lit (.bool true)], args := [d] }
  | _ => none }
def fnExactGreyOfRow : OpenClaim := { program := "ytbloibljjhddaaa", sum := "a47eb720600fe52c02bf7beae0cb5014b8604206ac0ce1823c231dfbfcd4887c", func := "loop.example/g01308/laws.FnExactGreyOf", spec := "fnExactGreyOf", inPlace := ["math.Float64bits", "math.Float64frombits"], apart := false }
def FnExactGreyOfSaid : Prop := fnExactGreyOfRow.holds Try.pinned (OpenSpec.ofChange fnExactGreyOfSpec)

/-- ITS FALSE NEIGHBOUR: 'it returns false'. Refute it at one input. -/
def fnExactGreyOfWrong : ChangeSpec := { name := "fnExactGreyOf", fn := fun _ => fun
  | [d] => { results := [.lit (.bool false)], args := [d] }
  | _ => none }
def FnExactGreyOfWrongFalsely : Prop := fnExactGreyOfRow.holds Try.pinned (OpenSpec.ofChange fnExactGreyOfWrong)

/-- 'laws.FnExactSameColor': WHATEVER THE INPUT: true; the input reads as it did. -/
def fnExactSameColorSpec : ChangeSpec := { name := "fnExactSameColor", fn := fun _ => fun
  | [d1, d2] => { results := [.lit (.bool true)], args := [d1, d2] }
  | _ => none }
def fnExactSameColorRow : OpenClaim := { program := "ytbloibljjhddaaa", sum := "a47eb720600fe52c02bf7beae0cb5014b8604206ac0ce1823c231dfbfcd4887c", func := "loop.example/g01308/laws.FnExactSameColor", spec := "fnExactSameColor", inPlace := ["math.Float32bits", "math.Float32frombits"], apart := false }
def FnExactSameColorSaid : Prop := fnExactSameColorRow.holds Try.pinned (OpenSpec.ofChange fnExactSameColorSpec)

/-- ITS FALSE NEIGHBOUR: 'it returns false'. Refute it at one input. -/
def fnExactSameColorWrong : ChangeSpec := { name := "fnExactSameColor", fn := fun _ => fun
  | [d1, d2] => { results := [.lit (.bool false)], args := [d1, d2] }
  | _ => none }
def FnExactSameColorWrongFalsely : Prop := fnExactSameColorRow.holds Try.pinned (OpenSpec.ofChange fnExactSameColorWrong)

/-- 'laws.FnExactTurnColor': WHATEVER THE INPUT: true; the input reads as it did. -/
def fnExactTurnColorSpec : ChangeSpec := { name := "fnExactTurnColor", fn := fun _ => fun
  | [d1, d2] => { results := [.lit (.bool true)], args := [d1, d2] }
  | _ => none }
def fnExactTurnColorRow : OpenClaim := { program := "ytbloibljjhddaaa", sum := "a47eb720600fe52c02bf7beae0cb5014b8604206ac0ce1823c231dfbfcd4887c", func := "loop.example/g01308/laws.FnExactTurnColor", spec := "fnExactTurnColor", inPlace := ["math.Float64bits", "math.Float64frombits"], unfollowed := true, recurses := true, apart := false }
def FnExactTurnColorSaid : Prop := fnExactTurnColorRow.holds Try.pinned (OpenSpec.ofChange fnExactTurnColorSpec)

/-- ITS FALSE NEIGHBOUR: 'it returns false'. Refute it at one input. -/
def fnExactTurnColorWrong : ChangeSpec := { name := "fnExactTurnColor", fn := fun _ => fun
  | [d1, d2] => { results := [.lit (.bool false)], args := [d1, d2] }
  | _ => none }
def FnExactTurnColorWrongFalsely : Prop := fnExactTurnColorRow.holds Try.pinned (OpenSpec.ofChange fnExactTurnColorWrong)

/-- 'laws.FnExactJoinMatrices': WHATEVER THE INPUT: true; the input reads as it did. -/
def fnExactJoinMatricesSpec : ChangeSpec := { name := "fnExactJoinMatrices", fn := fun _ => fun
  | [d1, d2] => { results := [.lit (.bool true)], args := [d1, d2] }
  | _ => none }
def fnExactJoinMatricesRow : OpenClaim := { program := "ytbloibljjhddaaa", sum := "a47eb720600fe52c02bf7beae0cb5014b8604206ac0ce1823c231dfbfcd4887c", func := "loop.example/g01308/laws.FnExactJoinMatrices", spec := "fnExactJoinMatrices", apart := false }
def FnExactJoinMatricesSaid : Prop := fnExactJoinMatricesRow.holds Try.pinned (OpenSpec.ofChange fnExactJoinMatricesSpec)

/-- ITS FALSE NEIGHBOUR: 'it returns false'. Refute it at one input. -/
def fnExactJoinMatricesWrong : ChangeSpec := { name := "fnExactJoinMatrices", fn := fun _ => fun
  | [d1, d2] => { results := [.lit (.bool false)], args := [d1, d2] }
  | _ => none }
def FnExactJoinMatricesWrongFalsely : Prop := fnExactJoinMatricesRow.holds Try.pinned (OpenSpec.ofChange fnExactJoinMatricesWrong)

/-- 'laws.FnExactBackMatrix': WHATEVER THE INPUT: true; the input reads as it did. -/
def fnExactBackMatrixSpec : ChangeSpec := { name := "fnExactBackMatrix", fn := fun _ => fun
  | [d] => { results := [.lit (.bool true)], args := [d] }
  | _ => none }
def fnExactBackMatrixRow : OpenClaim := { program := "ytbloibljjhddaaa", sum := "a47eb720600fe52c02bf7beae0cb5014b8604206ac0ce1823c231dfbfcd4887c", func := "loop.example/g01308/laws.FnExactBackMatrix", spec := "fnExactBackMatrix", apart := false }
def FnExactBackMatrixSaid : Prop := fnExactBackMatrixRow.holds Try.pinned (OpenSpec.ofChange fnExactBackMatrixSpec)

/-- ITS FALSE NEIGHBOUR: 'it returns false'. Refute it at one input. -/
def fnExactBackMatrixWrong : ChangeSpec := { name := "fnExactBackMatrix", fn := fun _ => fun
  | [d] => { results := [.lit (.bool false)], args := [d] }
  | _ => none }
def FnExactBackMatrixWrongFalsely : Prop := fnExactBackMatrixRow.holds Try.pinned (OpenSpec.ofChange fnExactBackMatrixWrong)

/-- 'laws.FnExactWhiteMatrix': WHATEVER THE INPUT: true; the input reads as it did. -/
def fnExactWhiteMatrixSpec : ChangeSpec := { name := "fnExactWhiteMatrix", fn := fun _ => fun
  | [d1, d2, d3] => { results := [.lit (.bool true)], args := [d1, d2, d3] }
  | _ => none }
def fnExactWhiteMatrixRow : OpenClaim := { program := "ytbloibljjhddaaa", sum := "a47eb720600fe52c02bf7beae0cb5014b8604206ac0ce1823c231dfbfcd4887c", func := "loop.example/g01308/laws.FnExactWhiteMatrix", spec := "fnExactWhiteMatrix", inPlace := ["math.Float64bits", "math.Float64frombits"], unfollowed := true, recurses := true, apart := false }
def FnExactWhiteMatrixSaid : Prop := fnExactWhiteMatrixRow.holds Try.pinned (OpenSpec.ofChange fnExactWhiteMatrixSpec)

/-- ITS FALSE NEIGHBOUR: 'it returns false'. Refute it at one input. -/
def fnExactWhiteMatrixWrong : ChangeSpec := { name := "fnExactWhiteMatrix", fn := fun _ => fun
  | [d1, d2, d3] => { results := [.lit (.bool false)], args := [d1, d2, d3] }
  | _ => none }
def FnExactWhiteMatrixWrongFalsely : Prop := fnExactWhiteMatrixRow.holds Try.pinned (OpenSpec.ofChange fnExactWhiteMatrixWrong)

/- THE SECOND FORM. 'bulk': how many values and letters a reading holds, each counted each time it is reached (what is shared counts as often as it is met; a slice's spare places count too). A statement '..UptoSaid' is the law's where the arguments, and the package variables that the reading takes, are together of bulk at most 1048576: NARROWER than '..Said'. Prove '..Said' where nothing that the law and all that it calls make is longer than what came in: it says more and counts as full. Else prove '..UptoSaid'. A law counts once. -/
mutual
def uptoBulk {H : Type} : DataW H → Nat
  | .lit (.string bytes) => bytes.length + 1
  | .lit _ => 1
  | .nil => 1
  | .ptr d => uptoBulk d + 1
  | .slice elems spare => uptoBulkAll elems + uptoBulkAll spare + 1
  | .agg parts => uptoBulkAll parts + 1
  | .iface _ d => uptoBulk d + 1
  | .map entries => uptoBulkEntries entries + 1
  | .held _ => 1
def uptoBulkAll {H : Type} : List (DataW H) → Nat
  | [] => 0
  | d :: r => uptoBulk d + uptoBulkAll r
def uptoBulkEntries {H : Type} : List (Lit × DataW H) → Nat
  | [] => 0
  | x :: r => uptoBulkEntry x + uptoBulkEntries r
def uptoBulkEntry {H : Type} : Lit × DataW H → Nat
  | (.string bytes, d) => bytes.length + uptoBulk d + 1
  | (_, d) => uptoBulk d + 1
 end
def uptoSmall : (H : Type) → List (DataW H) → Bool := fun _ ds => decide (uptoBulkAll ds ≤ 1048576)
def OpenSpec.upto (s : _root_.Go.ChangeSpec) : _root_.Go.OpenSpec := { _root_.Go.OpenSpec.ofChange s with cond := some uptoSmall }

/-- 'laws.FnExactIsKernel', WHERE WHAT IT READS IS OF BULK AT MOST 1048576: true; the input reads as it did. -/
def fnExactIsKernelUptoRow : OpenClaim := { program := "ytbloibljjhddaaa", sum := "a47eb720600fe52c02bf7beae0cb5014b8604206ac0ce1823c231dfbfcd4887c", func := "loop.example/g01308/laws.FnExactIsKernel", spec := "fnExactIsKernel", inPlace := ["math.Float64bits", "math.Float64frombits"], apart := false, narrowed := true }
def FnExactIsKernelUptoSaid : Prop := fnExactIsKernelUptoRow.holds Try.pinned (OpenSpec.upto fnExactIsKernelSpec)

/-- 'laws.FnExactHillKernel', WHERE WHAT IT READS IS OF BULK AT MOST 1048576: true; the input reads as it did. -/
def fnExactHillKernelUptoRow : OpenClaim := { program := "ytbloibljjhddaaa", sum := "a47eb720600fe52c02bf7beae0cb5014b8604206ac0ce1823c231dfbfcd4887c", func := "loop.example/g01308/laws.FnExactHillKernel", spec := "fnExactHillKernel", inPlace := ["math.Float64frombits", "math.Float64bits"], apart := false, narrowed := true }
def FnExactHillKernelUptoSaid : Prop := fnExactHillKernelUptoRow.holds Try.pinned (OpenSpec.upto fnExactHillKernelSpec)

/-- 'laws.FnExactOverPicture', WHERE WHAT IT READS IS OF BULK AT MOST 1048576: true; the input reads as it did. -/
def fnExactOverPictureUptoRow : OpenClaim := { program := "ytbloibljjhddaaa", sum := "a47eb720600fe52c02bf7beae0cb5014b8604206ac0ce1823c231dfbfcd4887c", func := "loop.example/g01308/laws.FnExactOverPicture", spec := "fnExactOverPicture", inPlace := ["math.Float64bits", "math.Float64frombits"], unfollowed := true, recurses := true, apart := false, narrowed := true }
def FnExactOverPictureUptoSaid : Prop := fnExactOverPictureUptoRow.holds Try.pinned (OpenSpec.upto fnExactOverPictureSpec)

/-- 'laws.FnExactShadePicture', WHERE WHAT IT READS IS OF BULK AT MOST 1048576: true; the input reads as it did. -/
def fnExactShadePictureUptoRow : OpenClaim := { program := "ytbloibljjhddaaa", sum := "a47eb720600fe52c02bf7beae0cb5014b8604206ac0ce1823c231dfbfcd4887c", func := "loop.example/g01308/laws.FnExactShadePicture", spec := "fnExactShadePicture", inPlace := ["math.Float64bits", "math.Float64frombits"], unfollowed := true, recurses := true, apart := false, narrowed := true }
def FnExactShadePictureUptoSaid : Prop := fnExactShadePictureUptoRow.holds Try.pinned (OpenSpec.upto fnExactShadePictureSpec)

/-- 'laws.FnExactUnshadePicture', WHERE WHAT IT READS IS OF BULK AT MOST 1048576: true; the input reads as it did. -/
def fnExactUnshadePictureUptoRow : OpenClaim := { program := "ytbloibljjhddaaa", sum := "a47eb720600fe52c02bf7beae0cb5014b8604206ac0ce1823c231dfbfcd4887c", func := "loop.example/g01308/laws.FnExactUnshadePicture", spec := "fnExactUnshadePicture", inPlace := ["math.Float64bits", "math.Float64frombits"], unfollowed := true, recurses := true, apart := false, narrowed := true }
def FnExactUnshadePictureUptoSaid : Prop := fnExactUnshadePictureUptoRow.holds Try.pinned (OpenSpec.upto fnExactUnshadePictureSpec)

/-- 'laws.FnExactGreyOf', WHERE WHAT IT READS IS OF BULK AT MOST 1048576: true; the input reads as it did. -/
def fnExactGreyOfUptoRow : OpenClaim := { program := "ytbloibljjhddaaa", sum := "a47eb720600fe52c02bf7beae0cb5014b8604206ac0ce1823c231dfbfcd4887c", func := "loop.example/g01308/laws.FnExactGreyOf", spec := "fnExactGreyOf", inPlace := ["math.Float64bits", "math.Float64frombits"], apart := false, narrowed := true }
def FnExactGreyOfUptoSaid : Prop := fnExactGreyOfUptoRow.holds Try.pinned (OpenSpec.upto fnExactGreyOfSpec)

/-- 'laws.FnExactSameColor', WHERE WHAT IT READS IS OF BULK AT MOST 1048576: true; the input reads as it did. -/
def fnExactSameColorUptoRow : OpenClaim := { program := "ytbloibljjhddaaa", sum := "a47eb720600fe52c02bf7beae0cb5014b8604206ac0ce1823c231dfbfcd4887c", func := "loop.example/g01308/laws.FnExactSameColor", spec := "fnExactSameColor", inPlace := ["math.Float32bits", "math.Float32frombits"], apart := false, narrowed := true }
def FnExactSameColorUptoSaid : Prop := fnExactSameColorUptoRow.holds Try.pinned (OpenSpec.upto fnExactSameColorSpec)

/-- 'laws.FnExactTurnColor', WHERE WHAT IT READS IS OF BULK AT MOST 1048576: true; the input reads as it did. -/
def fnExactTurnColorUptoRow : OpenClaim := { program := "ytbloibljjhddaaa", sum := "a47eb720600fe52c02bf7beae0cb5014b8604206ac0ce1823c231dfbfcd4887c", func := "loop.example/g01308/laws.FnExactTurnColor", spec := "fnExactTurnColor", inPlace := ["math.Float64bits", "math.Float64frombits"], unfollowed := true, recurses := true, apart := false, narrowed := true }
def FnExactTurnColorUptoSaid : Prop := fnExactTurnColorUptoRow.holds Try.pinned (OpenSpec.upto fnExactTurnColorSpec)

/-- 'laws.FnExactJoinMatrices', WHERE WHAT IT READS IS OF BULK AT MOST 1048576: true; the input reads as it did. -/
def fnExactJoinMatricesUptoRow : OpenClaim := { program := "ytbloibljjhddaaa", sum := "a47eb720600fe52c02bf7beae0cb5014b8604206ac0ce1823c231dfbfcd4887c", func := "loop.example/g01308/laws.FnExactJoinMatrices", spec := "fnExactJoinMatrices", apart := false, narrowed := true }
def FnExactJoinMatricesUptoSaid : Prop := fnExactJoinMatricesUptoRow.holds Try.pinned (OpenSpec.upto fnExactJoinMatricesSpec)

/-- 'laws.FnExactBackMatrix', WHERE WHAT IT READS IS OF BULK AT MOST 1048576: true; the input reads as it did. -/
def fnExactBackMatrixUptoRow : OpenClaim := { program := "ytbloibljjhddaaa", sum := "a47eb720600fe52c02bf7beae0cb5014b8604206ac0ce1823c231dfbfcd4887c", func := "loop.example/g01308/laws.FnExactBackMatrix", spec := "fnExactBackMatrix", apart := false, narrowed := true }
def FnExactBackMatrixUptoSaid : Prop := fnExactBackMatrixUptoRow.holds Try.pinned (OpenSpec.upto fnExactBackMatrixSpec)

/-- 'laws.FnExactWhiteMatrix', WHERE WHAT IT READS IS OF BULK AT MOST 1048576: true; the input reads as it did. -/
def fnExactWhiteMatrixUptoRow : OpenClaim := { program := "ytbloibljjhddaaa", sum := "a47eb720600fe52c02bf7beae0cb5014b8604206ac0ce1823c231dfbfcd4887c", func := "loop.example/g01308/laws.FnExactWhiteMatrix", spec := "fnExactWhiteMatrix", inPlace := ["math.Float64bits", "math.Float64frombits"], unfollowed := true, recurses := true, apart := false, narrowed := true }
def FnExactWhiteMatrixUptoSaid : Prop := fnExactWhiteMatrixUptoRow.holds Try.pinned (OpenSpec.upto fnExactWhiteMatrixSpec)

end Rows
end Go.Proofs.Ytbloibljjhddaaa
