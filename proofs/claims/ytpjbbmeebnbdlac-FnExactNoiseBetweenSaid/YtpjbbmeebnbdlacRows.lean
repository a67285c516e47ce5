/-
  No cell of these rows narrows 'for every input' (looked for: loops, veiled, ifaces, maps, wideKeys, modest, calm, conditions, laid).
  DERIVED. THE GIVEN ROWS OF THIS SEAT. 12 by the template 'for every input the law returns true; each argument reads behind the call as it read before'; 0 by the template 'total and deterministic' (their statements: YtpjbbmeebnbdlacTotals.lean).
  GIVEN WITH THE SEED: the statements are not yours to turn. If you find one false, say at which input.
  Laid BY PROGRAM, IN A SANDBOX (cutbox-rows.mjs): the forced cells as the released guide's own fill.sh prints them over the translation 81dcef6dc1d01d91… (all of the seat's roots in one cut). By AI agents, Wed Nov 11 2026. No macro, syntax, notation, axiom, sorry.
-/
import Derived.Test.YtpjbbmeebnbdlacChecked
import GoSem.Claim
import GoSem.ClaimJoined
import GoSem.ClaimMapViews
import Derived.JoinedTies
import Derived.KernelRfl
namespace Go.Proofs.Ytpjbbmeebnbdlac
/- THE CELL 'sum', in the pinned program and in every row, IS THE sha256 OF THE DUMP (.gsa) THAT YtpjbbmeebnbdlacProg.lean LOADS. Nothing in Lean hashes anything: it is a label: what it is worth is what the hold of that sum in a sandbox is worth. -/
noncomputable def Try.pinned : Pinned := { name := "ytpjbbmeebnbdlac", sum := "81dcef6dc1d01d91b8181a03df6a7536e7f569f3c4968ba714789f5175845111", checked := Try.checked }
namespace Rows
def none {H : Type} : Left H := { results := [], args := [] }

/-- 'laws.FnExactAddPictures': WHATEVER THE INPUT: true; the input reads as it did. -/
def fnExactAddPicturesSpec : ChangeSpec := { name := "fnExactAddPictures", fn := fun _ => fun
  | [d1, d2] => { results := [.lit (.bool true)], args := [d1, d2] }
  | _ => none }
def fnExactAddPicturesRow : OpenClaim := { program := "ytpjbbmeebnbdlac", sum := "81dcef6dc1d01d91b8181a03df6a7536e7f569f3c4968ba714789f5175845111", func := "loop.example/g01308/laws.FnExactAddPictures", spec := "fnExactAddPictures", inPlace := ["math.Float64bits", "math.Float64frombits"], unfollowed := true, recurses := true, apart := false }
def FnExactAddPicturesSaid : Prop := fnExactAddPicturesRow.holds Try.pinned (OpenSpec.ofChange fnExactAddPicturesSpec)

/-- ITS FALSE NEIGHBOUR: 'it returns false'. Refute it at one input. -/
def fnExactAddPicturesWrong : ChangeSpec := { name := "fnExactAddPictures", fn := fun _ => fun
  | [d1, d2] => { results := [.lit (.bool false)], args := [d1, d2] }
  | _ => none }
def FnExactAddPicturesWrongFalsely : Prop := fnExactAddPicturesRow.holds Try.pinned (OpenSpec.ofChange fnExactAddPicturesWrong)

/-- 'laws.FnExactMixPictures': WHATEVER THE INPUT: true; the input reads as it did. -/
def fnExactMixPicturesSpec : ChangeSpec := { name := "fnExactMixPictures", fn := fun _ => fun
  | [d1, d2, d3] => { results := [.lit (.bool true)], args := [d1, d2, d3] }
  | _ => none }
def fnExactMixPicturesRow : OpenClaim := { program := "ytpjbbmeebnbdlac", sum := "81dcef6dc1d01d91b8181a03df6a7536e7f569f3c4968ba714789f5175845111", func := "loop.example/g01308/laws.FnExactMixPictures", spec := "fnExactMixPictures", inPlace := ["math.Float64bits", "math.Float64frombits"], unfollowed := true, recurses := true, apart := false }
def FnExactMixPicturesSaid : Prop := fnExactMixPicturesRow.holds Try.pinned (OpenSpec.ofChange fnExactMixPicturesSpec)

/-- ITS FALSE NEIGHBOUR: 'it returns false'. Refute it at one input. -/
def fnExactMixPicturesWrong : ChangeSpec := { name := "fnExactMixPictures", fn := fun _ => fun
  | [d1, d2, d3] => { results := [.lit (.bool false)], args := [d1, d2, d3] }
  | _ => none }
def FnExactMixPicturesWrongFalsely : Prop := fnExactMixPicturesRow.holds Try.pinned (OpenSpec.ofChange fnExactMixPicturesWrong)

/-- 'laws.FnExactNoiseBetween': WHATEVER THE INPUT: true; the input reads as it did. -/
def fnExactNoiseBetweenSpec : ChangeSpec := { name := "fnExactNoiseBetween", fn := fun _ => fun
  | [d1, d2] => { results := [.lit (.bool true)], args := [d1, d2] }
  | _ => none }
def fnExactNoiseBetweenRow : OpenClaim := { program := "ytpjbbmeebnbdlac", sum := "81dcef6dc1d01d91b8181a03df6a7536e7f569f3c4968ba714789f5175845111", func := "loop.example/g01308/laws.FnExactNoiseBetween", spec := "fnExactNoiseBetween", inPlace := ["math.sqrt", "math.Float64bits", "math.Float64frombits"], apart := false }
def FnExactNoiseBetweenSaid : Prop := fnExactNoiseBetweenRow.holds Try.pinned (OpenSpec.ofChange fnExactNoiseBetweenSpec)

/-- ITS FALSE NEIGHBOUR: 'it returns false'. Refute it at one input. -/
def fnExactNoiseBetweenWrong : ChangeSpec := { name := "fnExactNoiseBetween", fn := fun _ => fun
  | [d1, d2] => { results := [.lit (.bool false)], args := [d1, d2] }
  | _ => none }
def FnExactNoiseBetweenWrongFalsely : Prop := fnExactNoiseBetweenRow.holds Try.pinned (OpenSpec.ofChange fnExactNoiseBetweenWrong)

/-- 'laws.FnExactNoisyPicture': WHATEVER THE INPUT: true; the input reads as it did. -/
def fnExactNoisyPictureSpec : ChangeSpec := { name := "fnExactNoisyPicture", fn := fun _ => fun
  | [d1, d2, d3] => { results := [.lit (.bool true)], args := [d1, d2, d3] }
  | _ => none }
def fnExactNoisyPictureRow : OpenClaim := { program := "ytpjbbmeebnbdlac", sum := "81dcef6dc1d01d91b8181a03df6a7536e7f569f3c4968ba714789f5175845111", func := "loop.example/g01308/laws.FnExactNoisyPicture", spec := "fnExactNoisyPicture", inPlace := ["math.Float64bits", "math.Float64frombits"], unfollowed := true, recurses := true, apart := false }
def FnExactNoisyPictureSaid : Prop := fnExactNoisyPictureRow.holds Try.pinned (OpenSpec.ofChange fnExactNoisyPictureSpec)

/-- ITS FALSE NEIGHBOUR: 'it returns false'. Refute it at one input. -/
def fnExactNoisyPictureWrong : ChangeSpec := { name := "fnExactNoisyPicture", fn := fun _ => fun
  | [d1, d2, d3] => { results := [.lit (.bool false)], args := [d1, d2, d3] }
  | _ => none }
def FnExactNoisyPictureWrongFalsely : Prop := fnExactNoisyPictureRow.holds Try.pinned (OpenSpec.ofChange fnExactNoisyPictureWrong)

/-- 'laws.FnExactValidBracket': WHATEVER THE INPUT: true; the input reads as it did. -/
def fnExactValidBracketSpec : ChangeSpec := { name := "fnExactValidBracket", fn := fun _ => fun
  | [d] => { results := [.lit (.bool true)], args := [d] }
  | _ => none }
def fnExactValidBracketRow : OpenClaim := { program := "ytpjbbmeebnbdlac", sum := "81dcef6dc1d01d91b8181a03df6a7536e7f569f3c4968ba714789f5175845111", func := "loop.example/g01308/laws.FnExactValidBracket", spec := "fnExactValidBracket", inPlace := ["math.Float64bits", "math.Float64frombits"], apart := false }
def FnExactValidBracketSaid : Prop := fnExactValidBracketRow.holds Try.pinned (OpenSpec.ofChange fnExactValidBracketSpec)

/-- ITS FALSE NEIGHBOUR: 'it returns false'. Refute it at one input. -/
def fnExactValidBracketWrong : ChangeSpec := { name := "fnExactValidBracket", fn := fun _ => fun
  | [d] => { results := [.lit (.bool false)], args := [d] }
  | _ => none }
def FnExactValidBracketWrongFalsely : Prop := fnExactValidBracketRow.holds Try.pinned (OpenSpec.ofChange fnExactValidBracketWrong)

/-- 'laws.FnExactSameBracket': WHATEVER THE INPUT: true; the input reads as it did. -/
def fnExactSameBracketSpec : ChangeSpec := { name := "fnExactSameBracket", fn := fun _ => fun
  | [d1, d2] => { results := [.lit (.bool true)], args := [d1, d2] }
  | _ => none }
def fnExactSameBracketRow : OpenClaim := { program := "ytpjbbmeebnbdlac", sum := "81dcef6dc1d01d91b8181a03df6a7536e7f569f3c4968ba714789f5175845111", func := "loop.example/g01308/laws.FnExactSameBracket", spec := "fnExactSameBracket", inPlace := ["math.Float32bits", "math.Float32frombits"], unfollowed := true, recurses := true, apart := false }
def FnExactSameBracketSaid : Prop := fnExactSameBracketRow.holds Try.pinned (OpenSpec.ofChange fnExactSameBracketSpec)

/-- ITS FALSE NEIGHBOUR: 'it returns false'. Refute it at one input. -/
def fnExactSameBracketWrong : ChangeSpec := { name := "fnExactSameBracket", fn := fun _ => fun
  | [d1, d2] => { results := [.lit (.bool false)], args := [d1, d2] }
  | _ => none }
def FnExactSameBracketWrongFalsely : Prop := fnExactSameBracketRow.holds Try.pinned (OpenSpec.ofChange fnExactSameBracketWrong)

/-- 'laws.FnExactShootBracket': WHATEVER THE INPUT: true; the input reads as it did. -/
def fnExactShootBracketSpec : ChangeSpec := { name := "fnExactShootBracket", fn := fun _ => fun
  | [d1, d2, d3] => { results := [.lit (.bool true)], args := [d1, d2, d3] }
  | _ => none }
def fnExactShootBracketRow : OpenClaim := { program := "ytpjbbmeebnbdlac", sum := "81dcef6dc1d01d91b8181a03df6a7536e7f569f3c4968ba714789f5175845111", func := "loop.example/g01308/laws.FnExactShootBracket", spec := "fnExactShootBracket", inPlace := ["math.Float64bits", "math.Float64frombits"], unfollowed := true, recurses := true, apart := false }
def FnExactShootBracketSaid : Prop := fnExactShootBracketRow.holds Try.pinned (OpenSpec.ofChange fnExactShootBracketSpec)

/-- ITS FALSE NEIGHBOUR: 'it returns false'. Refute it at one input. -/
def fnExactShootBracketWrong : ChangeSpec := { name := "fnExactShootBracket", fn := fun _ => fun
  | [d1, d2, d3] => { results := [.lit (.bool false)], args := [d1, d2, d3] }
  | _ => none }
def FnExactShootBracketWrongFalsely : Prop := fnExactShootBracketRow.holds Try.pinned (OpenSpec.ofChange fnExactShootBracketWrong)

/-- 'laws.FnExactMergeBracket': WHATEVER THE INPUT: true; the input reads as it did. -/
def fnExactMergeBracketSpec : ChangeSpec := { name := "fnExactMergeBracket", fn := fun _ => fun
  | [d] => { results := [.lit (.bool true)], args := [d] }
  | _ => none }
def fnExactMergeBracketRow : OpenClaim := { program := "ytpjbbmeebnbdlac", sum := "81dcef6dc1d01d91b8181a03df6a7536e7f569f3c4968ba714789f5175845111", func := "loop.example/g01308/laws.FnExactMergeBracket", spec := "fnExactMergeBracket", inPlace := ["math.Float64bits", "math.Float64frombits"], unfollowed := true, recurses := true, apart := false }
def FnExactMergeBracketSaid : Prop := fnExactMergeBracketRow.holds Try.pinned (OpenSpec.ofChange fnExactMergeBracketSpec)

/-- ITS FALSE NEIGHBOUR: 'it returns false'. Refute it at one input. -/
def fnExactMergeBracketWrong : ChangeSpec := { name := "fnExactMergeBracket", fn := fun _ => fun
  | [d] => { results := [.lit (.bool false)], args := [d] }
  | _ => none }
def FnExactMergeBracketWrongFalsely : Prop := fnExactMergeBracketRow.holds Try.pinned (OpenSpec.ofChange fnExactMergeBracketWrong)

/-- 'laws.FnExactMedianBracket': WHATEVER THE INPUT: true; the input reads as it did. -/
def fnExactMedianBracketSpec : ChangeSpec := { name := "fnExactMedianBracket", fn := fun _ => fun
  | [d] => { results := [.lit (.bool true)], args := [d] }
  | _ => none }
def fnExactMedianBracketRow : OpenClaim := { program := "ytpjbbmeebnbdlac", sum := "81dcef6dc1d01d91b8181a03df6a7536e7f569f3c4968ba714789f5175845111", func := "loop.example/g01308/laws.FnExactMedianBracket", spec := "fnExactMedianBracket", inPlace := ["math.Float64bits", "math.Float64frombits", "slices.overlaps[float32]"], unfollowed := true, recurses := true, apart := false }
def FnExactMedianBracketSaid : Prop := fnExactMedianBracketRow.holds Try.pinned (OpenSpec.ofChange fnExactMedianBracketSpec)

/-- ITS FALSE NEIGHBOUR: 'it returns false'. Refute it at one input. -/
def fnExactMedianBracketWrong : ChangeSpec := { name := "fnExactMedianBracket", fn := fun _ => fun
  | [d] => { results := [.lit (.bool false)], args := [d] }
  | _ => none }
def FnExactMedianBracketWrongFalsely : Prop := fnExactMedianBracketRow.holds Try.pinned (OpenSpec.ofChange fnExactMedianBracketWrong)

/-- 'laws.FnExactGhostsIn': WHATEVER THE INPUT: true; the input reads as it did. -/
def fnExactGhostsInSpec : ChangeSpec := { name := "fnExactGhostsIn", fn := fun _ => fun
  | [d1, d2] => { results := [.lit (.bool true)], args := [d1, d2] }
  | _ => none }
def fnExactGhostsInRow : OpenClaim := { program := "ytpjbbmeebnbdlac", sum := "81dcef6dc1d01d91b8181a03df6a7536e7f569f3c4968ba714789f5175845111", func := "loop.example/g01308/laws.FnExactGhostsIn", spec := "fnExactGhostsIn", inPlace := ["math.Float64bits", "math.Float64frombits", "slices.overlaps[float32]"], apart := false }
def FnExactGhostsInSaid : Prop := fnExactGhostsInRow.holds Try.pinned (OpenSpec.ofChange fnExactGhostsInSpec)

/-- ITS FALSE NEIGHBOUR: 'it returns false'. Refute it at one input. -/
def fnExactGhostsInWrong : ChangeSpec := { name := "fnExactGhostsIn", fn := fun _ => fun
  | [d1, d2] => { results := [.lit (.bool false)], args := [d1, d2] }
  | _ => none }
def FnExactGhostsInWrongFalsely : Prop := fnExactGhostsInRow.holds Try.pinned (OpenSpec.ofChange fnExactGhostsInWrong)

/-- 'laws.FnExactDropShot': WHATEVER THE INPUT: true; the input reads as it did. -/
def fnExactDropShotSpec : ChangeSpec := { name := "fnExactDropShot", fn := fun _ => fun
  | [d1, d2] => { results := [.lit (.bool true)], args := [d1, d2] }
  | _ => none }
def fnExactDropShotRow : OpenClaim := { program := "ytpjbbmeebnbdlac", sum := "81dcef6dc1d01d91b8181a03df6a7536e7f569f3c4968ba714789f5175845111", func := "loop.example/g01308/laws.FnExactDropShot", spec := "fnExactDropShot", inPlace := ["math.Float64bits", "math.Float64frombits"], apart := false }
def FnExactDropShotSaid : Prop := fnExactDropShotRow.holds Try.pinned (OpenSpec.ofChange fnExactDropShotSpec)

/-- ITS FALSE NEIGHBOUR: 'it returns false'. Refute it at one input. -/
def fnExactDropShotWrong : ChangeSpec := { name := "fnExactDropShot", fn := fun _ => fun
  | [d1, d2] => { results := [.lit (.bool false)], args := [d1, d2] }
  | _ => none }
def FnExactDropShotWrongFalsely : Prop := fnExactDropShotRow.holds Try.pinned (OpenSpec.ofChange fnExactDropShotWrong)

/-- 'laws.FnExactFitPower': WHATEVER THE INPUT: true; the input reads as it did. -/
def fnExactFitPowerSpec : ChangeSpec := { name := "fnExactFitPower", fn := fun _ => fun
  | [d] => { results := [.lit (.bool true)], args := [d] }
  | _ => none }
def fnExactFitPowerRow : OpenClaim := { program := "ytpjbbmeebnbdlac", sum := "81dcef6dc1d01d91b8181a03df6a7536e7f569f3c4968ba714789f5175845111", func := "loop.example/g01308/laws.FnExactFitPower", spec := "fnExactFitPower", inPlace := ["math.Float64frombits", "math.Float64bits", "math.Float32frombits"], apart := false }
def FnExactFitPowerSaid : Prop := fnExactFitPowerRow.holds Try.pinned (OpenSpec.ofChange fnExactFitPowerSpec)

/-- ITS FALSE NEIGHBOUR: 'it returns false'. Refute it at one input. -/
def fnExactFitPowerWrong : ChangeSpec := { name := "fnExactFitPower", fn := fun _ => fun
  | [d] => { results := [.lit (.bool false)], args := [d] }
  | _ => none }
def FnExactFitPowerWrongFalsely : Prop := fnExactFitPowerRow.holds Try.pinned (OpenSpec.ofChange fnExactFitPowerWrong)

/- THE SECOND FORM. 'bulk': how many values and letters a reading holds, each counted each time it is reached (what is shared counts as often as it is met; a slice's spare places count too). A statement '..UptoSaid' is the law's where the arguments, and the package variables that the reading takes, are together of bulk at most 1048576: NARROWER than '..Said'. Prove '..Said' where nothing that the law and all that it calls make is longer than what came in: it says more and counts as full. Else prove '..UptoSaid'. A law counts once. -/
mutual
def uptoBulk {H : Type} : DataW H → Nat
  | .lit (.string bytes) => bytes.length + 1
  | .lit _ => 1
  | .nil => 1
  | .ptr d => uptoBulk d + 1
  | .slice elems spare => uptoBulkAll elems + uptoBulkAll spare + 1
  | .agg parts => uptoBulkAll parts + 1
  | .iface _ d => uptoBulk d + 1
  | .map entries => uptoBulkEntries entries + 1
  | .held _ => 1
def uptoBulkAll {H : Type} : List (DataW H) → Nat
  | [] => 0
  | d :: r => uptoBulk d + uptoBulkAll r
def uptoBulkEntries {H : Type} : List (Lit × DataW H) → Nat
  | [] => 0
  | x :: r => uptoBulkEntry x + uptoBulkEntries r
def uptoBulkEntry {H : Type} : Lit × DataW H → Nat
  | (.string bytes, d) => bytes.length + uptoBulk d + 1
  | (_, d) => uptoBulk d + 1
 end
def uptoSmall : (H : Type) → List (DataW H) → Bool := fun _ ds => decide (uptoBulkAll ds ≤ 1048576)
def OpenSpec.upto (s : _root_.Go.ChangeSpec) : _root_.Go.OpenSpec := { _root_.Go.OpenSpec.ofChange s with cond := some uptoSmall }

/-- 'laws.FnExactAddPictures', WHERE WHAT IT READS IS OF BULK AT MOST 1048576: true; the input reads as it did. -/
def fnExactAddPicturesUptoRow : OpenClaim := { program := "ytpjbbmeebnbdlac", sum := "81dcef6dc1d01d91b8181a03df6a7536e7f569f3c4968ba714789f5175845111", func := "loop.example/g01308/laws.FnExactAddPictures", spec := "fnExactAddPictures", inPlace := ["math.Float64bits", "math.Float64frombits"], unfollowed := true, recurses := true, apart := false, narrowed := true }
def FnExactAddPicturesUptoSaid : Prop := fnExactAddPicturesUptoRow.holds Try.pinned (OpenSpec.upto fnExactAddPicturesSpec)

/-- 'laws.FnExactMixPictures', WHERE WHAT IT READS IS OF BULK AT MOST 1048576: true; the input reads as it did. -/
def fnExactMixPicturesUptoRow : OpenClaim := { program := "ytpjbbmeebnbdlac", sum := "81dcef6dc1d01d91b8181a03df6a7536e7f569f3c4968ba714789f5175845111", func := "loop.example/g01308/laws.FnExactMixPictures", spec := "fnExactMixPictures", inPlace := ["math.Float64bits", "math.Float64frombits"], unfollowed := true, recurses := true, apart := false, narrowed := true }
def FnExactMixPicturesUptoSaid : Prop := fnExactMixPicturesUptoRow.holds Try.pinned (OpenSpec.upto fnExactMixPicturesSpec)

/-- 'laws.FnExactNoiseBetween', WHERE WHAT IT READS IS OF BULK AT MOST 1048576: true; the input reads as it did. -/
def fnExactNoiseBetweenUptoRow : OpenClaim := { program := "ytpjbbmeebnbdlac", sum := "81dcef6dc1d01d91b8181a03df6a7536e7f569f3c4968ba714789f5175845111", func := "loop.example/g01308/laws.FnExactNoiseBetween", spec := "fnExactNoiseBetween", inPlace := ["math.sqrt", "math.Float64bits", "math.Float64frombits"], apart := false, narrowed := true }
def FnExactNoiseBetweenUptoSaid : Prop := fnExactNoiseBetweenUptoRow.holds Try.pinned (OpenSpec.upto fnExactNoiseBetweenSpec)

/-- 'laws.FnExactNoisyPicture', WHERE WHAT IT READS IS OF BULK AT MOST 1048576: true; the input reads as it did. -/
def fnExactNoisyPictureUptoRow : OpenClaim := { program := "ytpjbbmeebnbdlac", sum := "81dcef6dc1d01d91b8181a03df6a7536e7f569f3c4968ba714789f5175845111", func := "loop.example/g01308/laws.FnExactNoisyPicture", spec := "fnExactNoisyPicture", inPlace := ["math.Float64bits", "math.Float64frombits"], unfollowed := true, recurses := true, apart := false, narrowed := true }
def FnExactNoisyPictureUptoSaid : Prop := fnExactNoisyPictureUptoRow.holds Try.pinned (OpenSpec.upto fnExactNoisyPictureSpec)

/-- 'laws.FnExactValidBracket', WHERE WHAT IT READS IS OF BULK AT MOST 1048576: true; the input reads as it did. -/
def fnExactValidBracketUptoRow : OpenClaim := { program := "ytpjbbmeebnbdlac", sum := "81dcef6dc1d01d91b8181a03df6a7536e7f569f3c4968ba714789f5175845111", func := "loop.example/g01308/laws.FnExactValidBracket", spec := "fnExactValidBracket", inPlace := ["math.Float64bits", "math.Float64frombits"], apart := false, narrowed := true }
def FnExactValidBracketUptoSaid : Prop := fnExactValidBracketUptoRow.holds Try.pinned (OpenSpec.upto fnExactValidBracketSpec)

/-- 'laws.FnExactSameBracket', WHERE WHAT IT READS IS OF BULK AT MOST 1048576: true; the input reads as it did. -/
def fnExactSameBracketUptoRow : OpenClaim := { program := "ytpjbbmeebnbdlac", sum := "81dcef6dc1d01d91b8181a03df6a7536e7f569f3c4968ba714789f5175845111", func := "loop.example/g01308/laws.FnExactSameBracket", spec := "fnExactSameBracket", inPlace := ["math.Float32bits", "math.Float32frombits"], unfollowed := true, recurses := true, apart := false, narrowed := true }
def FnExactSameBracketUptoSaid : Prop := fnExactSameBracketUptoRow.holds Try.pinned (OpenSpec.upto fnExactSameBracketSpec)

/-- 'laws.FnExactShootBracket', WHERE WHAT IT READS IS OF BULK AT MOST 1048576: true; the input reads as it did. -/
def fnExactShootBracketUptoRow : OpenClaim := { program := "ytpjbbmeebnbdlac", sum := "81dcef6dc1d01d91b8181a03df6a7536e7f569f3c4968ba714789f5175845111", func := "loop.example/g01308/laws.FnExactShootBracket", spec := "fnExactShootBracket", inPlace := ["math.Float64bits", "math.Float64frombits"], unfollowed := true, recurses := true, apart := false, narrowed := true }
def FnExactShootBracketUptoSaid : Prop := fnExactShootBracketUptoRow.holds Try.pinned (OpenSpec.upto fnExactShootBracketSpec)

/-- 'laws.FnExactMergeBracket', WHERE WHAT IT READS IS OF BULK AT MOST 1048576: true; the input reads as it did. -/
def fnExactMergeBracketUptoRow : OpenClaim := { program := "ytpjbbmeebnbdlac", sum := "81dcef6dc1d01d91b8181a03df6a7536e7f569f3c4968ba714789f5175845111", func := "loop.example/g01308/laws.FnExactMergeBracket", spec := "fnExactMergeBracket", inPlace := ["math.Float64bits", "math.Float64frombits"], unfollowed := true, recurses := true, apart := false, narrowed := true }
def FnExactMergeBracketUptoSaid : Prop := fnExactMergeBracketUptoRow.holds Try.pinned (OpenSpec.upto fnExactMergeBracketSpec)

/-- 'laws.FnExactMedianBracket', WHERE WHAT IT READS IS OF BULK AT MOST 1048576: true; the input reads as it did. -/
def fnExactMedianBracketUptoRow : OpenClaim := { program := "ytpjbbmeebnbdlac", sum := "81dcef6dc1d01d91b8181a03df6a7536e7f569f3c4968ba714789f5175845111", func := "loop.example/g01308/laws.FnExactMedianBracket", spec := "fnExactMedianBracket", inPlace := ["math.Float64bits", "math.Float64frombits", "slices.overlaps[float32]"], unfollowed := true, recurses := true, apart := false, narrowed := true }
def FnExactMedianBracketUptoSaid : Prop := fnExactMedianBracketUptoRow.holds Try.pinned (OpenSpec.upto fnExactMedianBracketSpec)

/-- 'laws.FnExactGhostsIn', WHERE WHAT IT READS IS OF BULK AT MOST 1048576: true; the input reads as it did. -/
def fnExactGhostsInUptoRow : OpenClaim := { program := "ytpjbbmeebnbdlac", sum := "81dcef6dc1d01d91b8181a03df6a7536e7f569f3c4968ba714789f5175845111", func := "loop.example/g01308/laws.FnExactGhostsIn", spec := "fnExactGhostsIn", inPlace := ["math.Float64bits", "math.Float64frombits", "slices.overlaps[float32]"], apart := false, narrowed := true }
def FnExactGhostsInUptoSaid : Prop := fnExactGhostsInUptoRow.holds Try.pinned (OpenSpec.upto fnExactGhostsInSpec)

/-- 'laws.FnExactDropShot', WHERE WHAT IT READS IS OF BULK AT MOST 1048576: true; the input reads as it did. -/
def fnExactDropShotUptoRow : OpenClaim := { program := "ytpjbbmeebnbdlac", sum := "81dcef6dc1d01d91b8181a03df6a7536e7f569f3c4968ba714789f5175845111", func := "loop.example/g01308/laws.FnExactDropShot", spec := "fnExactDropShot", inPlace := ["math.Float64bits", "math.Float64frombits"], apart := false, narrowed := true }
def FnExactDropShotUptoSaid : Prop := fnExactDropShotUptoRow.holds Try.pinned (OpenSpec.upto fnExactDropShotSpec)

/-- 'laws.FnExactFitPower', WHERE WHAT IT READS IS OF BULK AT MOST 1048576: true; the input reads as it did. -/
def fnExactFitPowerUptoRow : OpenClaim := { program := "ytpjbbmeebnbdlac", sum := "81dcef6dc1d01d91b8181a03df6a7536e7f569f3c4968ba714789f5175845111", func := "loop.example/g01308/laws.FnExactFitPower", spec := "fnExactFitPower", inPlace := ["math.Float64frombits", "math.Float64bits", "math.Float32frombits"], apart := false, narrowed := true }
def FnExactFitPowerUptoSaid : Prop := fnExactFitPowerUptoRow.holds Try.pinned (OpenSpec.upto fnExactFitPowerSpec)

end Rows
end Go.Proofs.Ytpjbbmeebnbdlac
