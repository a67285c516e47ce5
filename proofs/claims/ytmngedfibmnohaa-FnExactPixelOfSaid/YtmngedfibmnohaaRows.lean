/-
  No cell of these rows narrows 'for every input' (looked for: loops, veiled, ifaces, maps, wideKeys, modest, calm, conditions, laid).
  DERIVED. THE GIVEN ROWS OF THIS SEAT. 12 by the template 'for every input the law returns true; each argument reads behind the call as it read before'; 0 by the template 'total and deterministic' (their statements: YtmngedfibmnohaaTotals.lean).
  GIVEN WITH THE SEED: the statements are not yours to turn. If you find one false, say at which input.
  Laid BY PROGRAM, IN A SANDBOX (cutbox-rows.mjs): the forced cells as the released guide's own fill.sh prints them over the translation 86a980120e9524fd… (all of the seat's roots in one cut). By AI agents, Wed Nov 11 2026. No macro, syntax, notation, axiom, sorry.
-/
import Derived.Test.YtmngedfibmnohaaChecked
import GoSem.Claim
import GoSem.ClaimJoined
import GoSem.ClaimMapViews
import Derived.JoinedTies
import Derived.KernelRfl
namespace Go.Proofs.Ytmngedfibmnohaa
/- THE CELL 'sum', in the pinned program and in every row, IS THE sha256 OF THE DUMP (.gsa) THAT YtmngedfibmnohaaProg.lean LOADS. Nothing in Lean hashes anything: it is a label: what it is worth is what the hold of that sum in a sandbox is worth. -/
noncomputable def Try.pinned : Pinned := { name := "ytmngedfibmnohaa", sum := "86a980120e9524fdf4ef8e0805a36fef7c11ae7bce64481411219e8dd73d3553", checked := Try.checked }
namespace Rows
def none {H : Type} : Left H := { results := [], args := [] }

/-- 'laws.FnExactIsWay': WHATEVER THE INPUT: true; the input reads as it did. -/
def fnExactIsWaySpec : ChangeSpec := { name := "fnExactIsWay", fn := fun _ => fun
  | [d] => { results := [.lit (.bool true)], args := [d] }
  | _ => none }
def fnExactIsWayRow : OpenClaim := { program := "ytmngedfibmnohaa", sum := "86a980120e9524fdf4ef8e0805a36fef7c11ae7bce64481411219e8dd73d3553", func := "loop.example/g01308/laws.FnExactIsWay", spec := "fnExactIsWay", inPlace := ["math.Float64bits", "math.Float64frombits"], apart := false }
def FnExactIsWaySaid : Prop := fnExactIsWayRow.holds Try.pinned (OpenSpec.ofChange fnExactIsWaySpec)

/-- ITS FALSE NEIGHBOUR: 'it returns false'. Refute it at one input. -/
def fnExactIsWayWrong : ChangeSpec := { name := "fnExactIsWay", fn := fun _ => fun
  | [d] => { results := [.lit (.bool false)], args := [d] }
  | _ => none }
def FnExactIsWayWrongFalsely : Prop := fnExactIsWayRow.holds Try.pinned (OpenSpec.ofChange fnExactIsWayWrong)

/-- 'laws.FnExactSameWay': WHATEVER THE INPUT: true; the input reads as it did. -/
def fnExactSameWaySpec : ChangeSpec := { name := "fnExactSameWay", fn := fun _ => fun
  | [d1, d2] => { results := [.lit (.bool true)], args := [d1, d2] }
  | _ => none }
def fnExactSameWayRow : OpenClaim := { program := "ytmngedfibmnohaa", sum := "86a980120e9524fdf4ef8e0805a36fef7c11ae7bce64481411219e8dd73d3553", func := "loop.example/g01308/laws.FnExactSameWay", spec := "fnExactSameWay", inPlace := ["math.Float32bits", "math.Float32frombits"], apart := false }
def FnExactSameWaySaid : Prop := fnExactSameWayRow.holds Try.pinned (OpenSpec.ofChange fnExactSameWaySpec)

/-- ITS FALSE NEIGHBOUR: 'it returns false'. Refute it at one input. -/
def fnExactSameWayWrong : ChangeSpec := { name := "fnExactSameWay", fn := fun _ => fun
  | [d1, d2] => { results := [.lit (.bool false)], args := [d1, d2] }
  | _ => none }
def FnExactSameWayWrongFalsely : Prop := fnExactSameWayRow.holds Try.pinned (OpenSpec.ofChange fnExactSameWayWrong)

/-- 'laws.FnExactUnitWay': WHATEVER THE INPUT: true; the input reads as it did. -/
def fnExactUnitWaySpec : ChangeSpec := { name := "fnExactUnitWay", fn := fun _ => fun
  | [d] => { results := [.lit (.bool true)], args := [d] }
  | _ => none }
def fnExactUnitWayRow : OpenClaim := { program := "ytmngedfibmnohaa", sum := "86a980120e9524fdf4ef8e0805a36fef7c11ae7bce64481411219e8dd73d3553", func := "loop.example/g01308/laws.FnExactUnitWay", spec := "fnExactUnitWay", inPlace := ["math.sqrt", "math.Float64bits", "math.Float64frombits"], apart := false }
def FnExactUnitWaySaid : Prop := fnExactUnitWayRow.holds Try.pinned (OpenSpec.ofChange fnExactUnitWaySpec)

/-- ITS FALSE NEIGHBOUR: 'it returns false'. Refute it at one input. -/
def fnExactUnitWayWrong : ChangeSpec := { name := "fnExactUnitWay", fn := fun _ => fun
  | [d] => { results := [.lit (.bool false)], args := [d] }
  | _ => none }
def FnExactUnitWayWrongFalsely : Prop := fnExactUnitWayRow.holds Try.pinned (OpenSpec.ofChange fnExactUnitWayWrong)

/-- 'laws.FnExactInnerOf': WHATEVER THE INPUT: true; the input reads as it did. -/
def fnExactInnerOfSpec : ChangeSpec := { name := "fnExactInnerOf", fn := fun _ => fun
  | [d1, d2] => { results := [.lit (.bool true)], args := [d1, d2] }
  | _ => none }
def fnExactInnerOfRow : OpenClaim := { program := "ytmngedfibmnohaa", sum := "86a980120e9524fdf4ef8e0805a36fef7c11ae7bce64481411219e8dd73d3553", func := "loop.example/g01308/laws.FnExactInnerOf", spec := "fnExactInnerOf", inPlace := ["math.Float64bits", "math.Float64frombits"], apart := false }
def FnExactInnerOfSaid : Prop := fnExactInnerOfRow.holds Try.pinned (OpenSpec.ofChange fnExactInnerOfSpec)

/-- ITS FALSE NEIGHBOUR: 'it returns false'. Refute it at one input. -/
def fnExactInnerOfWrong : ChangeSpec := { name := "fnExactInnerOf", fn := fun _ => fun
  | [d1, d2] => { results := [.lit (.bool false)], args := [d1, d2] }
  | _ => none }
def FnExactInnerOfWrongFalsely : Prop := fnExactInnerOfRow.holds Try.pinned (OpenSpec.ofChange fnExactInnerOfWrong)

/-- 'laws.FnExactTurnWay': WHATEVER THE INPUT: true; the input reads as it did. -/
def fnExactTurnWaySpec : ChangeSpec := { name := "fnExactTurnWay", fn := fun _ => fun
  | [d1, d2] => { results := [.lit (.bool true)], args := [d1, d2] }
  | _ => none }
def fnExactTurnWayRow : OpenClaim := { program := "ytmngedfibmnohaa", sum := "86a980120e9524fdf4ef8e0805a36fef7c11ae7bce64481411219e8dd73d3553", func := "loop.example/g01308/laws.FnExactTurnWay", spec := "fnExactTurnWay", inPlace := ["math.Float64frombits", "math.Float64bits", "math.Float32frombits"], apart := false }
def FnExactTurnWaySaid : Prop := fnExactTurnWayRow.holds Try.pinned (OpenSpec.ofChange fnExactTurnWaySpec)

/-- ITS FALSE NEIGHBOUR: 'it returns false'. Refute it at one input. -/
def fnExactTurnWayWrong : ChangeSpec := { name := "fnExactTurnWay", fn := fun _ => fun
  | [d1, d2] => { results := [.lit (.bool false)], args := [d1, d2] }
  | _ => none }
def FnExactTurnWayWrongFalsely : Prop := fnExactTurnWayRow.holds Try.pinned (OpenSpec.ofChange fnExactTurnWayWrong)

/-- 'laws.FnExactTiltWay': WHATEVER THE INPUT: true; the input reads as it did. -/
def fnExactTiltWaySpec : ChangeSpec := { name := "fnExactTiltWay", fn := fun _ => fun
  | [d1, d2] => { results := [.lit (.bool true)], args := [d1, d2] }
  | _ => none }
def fnExactTiltWayRow : OpenClaim := { program := "ytmngedfibmnohaa", sum := "86a980120e9524fdf4ef8e0805a36fef7c11ae7bce64481411219e8dd73d3553", func := "loop.example/g01308/laws.FnExactTiltWay", spec := "fnExactTiltWay", inPlace := ["math.Float64frombits", "math.Float64bits", "math.Float32frombits"], apart := false }
def FnExactTiltWaySaid : Prop := fnExactTiltWayRow.holds Try.pinned (OpenSpec.ofChange fnExactTiltWaySpec)

/-- ITS FALSE NEIGHBOUR: 'it returns false'. Refute it at one input. -/
def fnExactTiltWayWrong : ChangeSpec := { name := "fnExactTiltWay", fn := fun _ => fun
  | [d1, d2] => { results := [.lit (.bool false)], args := [d1, d2] }
  | _ => none }
def FnExactTiltWayWrongFalsely : Prop := fnExactTiltWayRow.holds Try.pinned (OpenSpec.ofChange fnExactTiltWayWrong)

/-- 'laws.FnExactWayOf': WHATEVER THE INPUT: true; the input reads as it did. -/
def fnExactWayOfSpec : ChangeSpec := { name := "fnExactWayOf", fn := fun _ => fun
  | [d1, d2, d3] => { results := [.lit (.bool true)], args := [d1, d2, d3] }
  | _ => none }
def fnExactWayOfRow : OpenClaim := { program := "ytmngedfibmnohaa", sum := "86a980120e9524fdf4ef8e0805a36fef7c11ae7bce64481411219e8dd73d3553", func := "loop.example/g01308/laws.FnExactWayOf", spec := "fnExactWayOf", inPlace := ["math.Float64frombits", "math.Float64bits", "math.Float32frombits"], apart := false }
def FnExactWayOfSaid : Prop := fnExactWayOfRow.holds Try.pinned (OpenSpec.ofChange fnExactWayOfSpec)

/-- ITS FALSE NEIGHBOUR: 'it returns false'. Refute it at one input. -/
def fnExactWayOfWrong : ChangeSpec := { name := "fnExactWayOf", fn := fun _ => fun
  | [d1, d2, d3] => { results := [.lit (.bool false)], args := [d1, d2, d3] }
  | _ => none }
def FnExactWayOfWrongFalsely : Prop := fnExactWayOfRow.holds Try.pinned (OpenSpec.ofChange fnExactWayOfWrong)

/-- 'laws.FnExactSolidOf': WHATEVER THE INPUT: true; the input reads as it did. -/
def fnExactSolidOfSpec : ChangeSpec := { name := "fnExactSolidOf", fn := fun _ => fun
  | [d1, d2] => { results := [.lit (.bool true)], args := [d1, d2] }
  | _ => none }
def fnExactSolidOfRow : OpenClaim := { program := "ytmngedfibmnohaa", sum := "86a980120e9524fdf4ef8e0805a36fef7c11ae7bce64481411219e8dd73d3553", func := "loop.example/g01308/laws.FnExactSolidOf", spec := "fnExactSolidOf", inPlace := ["math.Float64frombits", "math.Float64bits", "math.Float32frombits"], apart := false }
def FnExactSolidOfSaid : Prop := fnExactSolidOfRow.holds Try.pinned (OpenSpec.ofChange fnExactSolidOfSpec)

/-- ITS FALSE NEIGHBOUR: 'it returns false'. Refute it at one input. -/
def fnExactSolidOfWrong : ChangeSpec := { name := "fnExactSolidOf", fn := fun _ => fun
  | [d1, d2] => { results := [.lit (.bool false)], args := [d1, d2] }
  | _ => none }
def FnExactSolidOfWrongFalsely : Prop := fnExactSolidOfRow.holds Try.pinned (OpenSpec.ofChange fnExactSolidOfWrong)

/-- 'laws.FnExactFaceWay': WHATEVER THE INPUT: true; the input reads as it did. -/
def fnExactFaceWaySpec : ChangeSpec := { name := "fnExactFaceWay", fn := fun _ => fun
  | [d1, d2, d3] => { results := [.lit (.bool true)], args := [d1, d2, d3] }
  | _ => none }
def fnExactFaceWayRow : OpenClaim := { program := "ytmngedfibmnohaa", sum := "86a980120e9524fdf4ef8e0805a36fef7c11ae7bce64481411219e8dd73d3553", func := "loop.example/g01308/laws.FnExactFaceWay", spec := "fnExactFaceWay", apart := false }
def FnExactFaceWaySaid : Prop := fnExactFaceWayRow.holds Try.pinned (OpenSpec.ofChange fnExactFaceWaySpec)

/-- ITS FALSE NEIGHBOUR: 'it returns false'. Refute it at one input. -/
def fnExactFaceWayWrong : ChangeSpec := { name := "fnExactFaceWay", fn := fun _ => fun
  | [d1, d2, d3] => { results := [.lit (.bool false)], args := [d1, d2, d3] }
  | _ => none }
def FnExactFaceWayWrongFalsely : Prop := fnExactFaceWayRow.holds Try.pinned (OpenSpec.ofChange fnExactFaceWayWrong)

/-- 'laws.FnExactFaceOf': WHATEVER THE INPUT: true; the input reads as it did. -/
def fnExactFaceOfSpec : ChangeSpec := { name := "fnExactFaceOf", fn := fun _ => fun
  | [d] => { results := [.lit (.bool true)], args := [d] }
  | _ => none }
def fnExactFaceOfRow : OpenClaim := { program := "ytmngedfibmnohaa", sum := "86a980120e9524fdf4ef8e0805a36fef7c11ae7bce64481411219e8dd73d3553", func := "loop.example/g01308/laws.FnExactFaceOf", spec := "fnExactFaceOf", inPlace := ["math.Float64bits", "math.Float64frombits"], apart := false }
def FnExactFaceOfSaid : Prop := fnExactFaceOfRow.holds Try.pinned (OpenSpec.ofChange fnExactFaceOfSpec)

/-- ITS FALSE NEIGHBOUR: 'it returns false'. Refute it at one input. -/
def fnExactFaceOfWrong : ChangeSpec := { name := "fnExactFaceOf", fn := fun _ => fun
  | [d] => { results := [.lit (.bool false)], args := [d] }
  | _ => none }
def FnExactFaceOfWrongFalsely : Prop := fnExactFaceOfRow.holds Try.pinned (OpenSpec.ofChange fnExactFaceOfWrong)

/-- 'laws.FnExactPixelOf': WHATEVER THE INPUT: true; the input reads as it did. -/
def fnExactPixelOfSpec : ChangeSpec := { name := "fnExactPixelOf", fn := fun _ => fun
  | [d1, d2] => { results := [.lit (.bool true)], args := [d1, d2] }
  | _ => none }
def fnExactPixelOfRow : OpenClaim := { program := "ytmngedfibmnohaa", sum := "86a980120e9524fdf4ef8e0805a36fef7c11ae7bce64481411219e8dd73d3553", func := "loop.example/g01308/laws.FnExactPixelOf", spec := "fnExactPixelOf", inPlace := ["math.Float64frombits", "math.Float64bits", "math.sqrt", "math.archFloor", "math.archTrunc", "math.Float32frombits"], apart := false }
def FnExactPixelOfSaid : Prop := fnExactPixelOfRow.holds Try.pinned (OpenSpec.ofChange fnExactPixelOfSpec)

/-- ITS FALSE NEIGHBOUR: 'it returns false'. Refute it at one input. -/
def fnExactPixelOfWrong : ChangeSpec := { name := "fnExactPixelOf", fn := fun _ => fun
  | [d1, d2] => { results := [.lit (.bool false)], args := [d1, d2] }
  | _ => none }
def FnExactPixelOfWrongFalsely : Prop := fnExactPixelOfRow.holds Try.pinned (OpenSpec.ofChange fnExactPixelOfWrong)

/-- 'laws.FnExactLightAt': WHATEVER THE INPUT: true; the input reads as it did. -/
def fnExactLightAtSpec : ChangeSpec := { name := "fnExactLightAt", fn := fun _ => fun
  | [d1, d2] => { results := [.lit (.bool true)], args := [d1, d2] }
  | _ => none }
def fnExactLightAtRow : OpenClaim := { program := "ytmngedfibmnohaa", sum := "86a980120e9524fdf4ef8e0805a36fef7c11ae7bce64481411219e8dd73d3553", func := "loop.example/g01308/laws.FnExactLightAt", spec := "fnExactLightAt", inPlace := ["math.Float64frombits", "math.Float64bits", "math.sqrt", "math.archFloor", "math.archTrunc", "math.Float32frombits"], apart := false }
def FnExactLightAtSaid : Prop := fnExactLightAtRow.holds Try.pinned (OpenSpec.ofChange fnExactLightAtSpec)

/-- ITS FALSE NEIGHBOUR: 'it returns false'. Refute it at one input. -/
def fnExactLightAtWrong : ChangeSpec := { name := "fnExactLightAt", fn := fun _ => fun
  | [d1, d2] => { results := [.lit (.bool false)], args := [d1, d2] }
  | _ => none }
def FnExactLightAtWrongFalsely : Prop := fnExactLightAtRow.holds Try.pinned (OpenSpec.ofChange fnExactLightAtWrong)

/- THE SECOND FORM. 'bulk': how many values and letters a reading holds, each counted each time it is reached (what is shared counts as often as it is met; a slice's spare places count too). A statement '..UptoSaid' is the law's where the arguments, and the package variables that the reading takes, are together of bulk at most 1048576: NARROWER than '..Said'. Prove '..Said' where nothing that the law and all that it calls make is longer than what came in: it says more and counts as full. Else prove '..UptoSaid'. A law counts once. -/
mutual
def uptoBulk {H : Type} : DataW H → Nat
  | .lit (.string bytes) => bytes.length + 1
  | .lit _ => 1
  | .nil => 1
  | .ptr d => uptoBulk d + 1
  | .slice elems spare => uptoBulkAll elems + uptoBulkAll spare + 1
  | .agg parts => uptoBulkAll parts + 1
  | .iface _ d => uptoBulk d + 1
  | .map entries => uptoBulkEntries entries + 1
  | .held _ => 1
def uptoBulkAll {H : Type} : List (DataW H) → Nat
  | [] => 0
  | d :: r => uptoBulk d + uptoBulkAll r
def uptoBulkEntries {H : Type} : List (Lit × DataW H) → Nat
  | [] => 0
  | x :: r => uptoBulkEntry x + uptoBulkEntries r
def uptoBulkEntry {H : Type} : Lit × DataW H → Nat
  | (.string bytes, d) => bytes.length + uptoBulk d + 1
  | (_, d) => uptoBulk d + 1
 end
def uptoSmall : (H : Type) → List (DataW H) → Bool := fun _ ds => decide (uptoBulkAll ds ≤ 1048576)
def OpenSpec.upto (s : _root_.Go.ChangeSpec) : _root_.Go.OpenSpec := { _root_.Go.OpenSpec.ofChange s with cond := some uptoSmall }

/-- 'laws.FnExactIsWay', WHERE WHAT IT READS IS OF BULK AT MOST 1048576: true; the input reads as it did. -/
def fnExactIsWayUptoRow : OpenClaim := { program := "ytmngedfibmnohaa", sum := "86a980120e9524fdf4ef8e0805a36fef7c11ae7bce64481411219e8dd73d3553", func := "loop.example/g01308/laws.FnExactIsWay", spec := "fnExactIsWay", inPlace := ["math.Float64bits", "math.Float64frombits"], apart := false, narrowed := true }
def FnExactIsWayUptoSaid : Prop := fnExactIsWayUptoRow.holds Try.pinned (OpenSpec.upto fnExactIsWaySpec)

/-- 'laws.FnExactSameWay', WHERE WHAT IT READS IS OF BULK AT MOST 1048576: true; the input reads as it did. -/
def fnExactSameWayUptoRow : OpenClaim := { program := "ytmngedfibmnohaa", sum := "86a980120e9524fdf4ef8e0805a36fef7c11ae7bce64481411219e8dd73d3553", func := "loop.example/g01308/laws.FnExactSameWay", spec := "fnExactSameWay", inPlace := ["math.Float32bits", "math.Float32frombits"], apart := false, narrowed := true }
def FnExactSameWayUptoSaid : Prop := fnExactSameWayUptoRow.holds Try.pinned (OpenSpec.upto fnExactSameWaySpec)

/-- 'laws.FnExactUnitWay', WHERE WHAT IT READS IS OF BULK AT MOST 1048576: true; the input reads as it did. -/
def fnExactUnitWayUptoRow : OpenClaim := { program := "ytmngedfibmnohaa", sum := "86a980120e9524fdf4ef8e0805a36fef7c11ae7bce64481411219e8dd73d3553", func := "loop.example/g01308/laws.FnExactUnitWay", spec := "fnExactUnitWay", inPlace := ["math.sqrt", "math.Float64bits", "math.Float64frombits"], apart := false, narrowed := true }
def FnExactUnitWayUptoSaid : Prop := fnExactUnitWayUptoRow.holds Try.pinned (OpenSpec.upto fnExactUnitWaySpec)

/-- 'laws.FnExactInnerOf', WHERE WHAT IT READS IS OF BULK AT MOST 1048576: true; the input reads as it did. -/
def fnExactInnerOfUptoRow : OpenClaim := { program := "ytmngedfibmnohaa", sum := "86a980120e9524fdf4ef8e0805a36fef7c11ae7bce64481411219e8dd73d3553", func := "loop.example/g01308/laws.FnExactInnerOf", spec := "fnExactInnerOf", inPlace := ["math.Float64bits", "math.Float64frombits"], apart := false, narrowed := true }
def FnExactInnerOfUptoSaid : Prop := fnExactInnerOfUptoRow.holds Try.pinned (OpenSpec.upto fnExactInnerOfSpec)

/-- 'laws.FnExactTurnWay', WHERE WHAT IT READS IS OF BULK AT MOST 1048576: true; the input reads as it did. -/
def fnExactTurnWayUptoRow : OpenClaim := { program := "ytmngedfibmnohaa", sum := "86a980120e9524fdf4ef8e0805a36fef7c11ae7bce64481411219e8dd73d3553", func := "loop.example/g01308/laws.FnExactTurnWay", spec := "fnExactTurnWay", inPlace := ["math.Float64frombits", "math.Float64bits", "math.Float32frombits"], apart := false, narrowed := true }
def FnExactTurnWayUptoSaid : Prop := fnExactTurnWayUptoRow.holds Try.pinned (OpenSpec.upto fnExactTurnWaySpec)

/-- 'laws.FnExactTiltWay', WHERE WHAT IT READS IS OF BULK AT MOST 1048576: true; the input reads as it did. -/
def fnExactTiltWayUptoRow : OpenClaim := { program := "ytmngedfibmnohaa", sum := "86a980120e9524fdf4ef8e0805a36fef7c11ae7bce64481411219e8dd73d3553", func := "loop.example/g01308/laws.FnExactTiltWay", spec := "fnExactTiltWay", inPlace := ["math.Float64frombits", "math.Float64bits", "math.Float32frombits"], apart := false, narrowed := true }
def FnExactTiltWayUptoSaid : Prop := fnExactTiltWayUptoRow.holds Try.pinned (OpenSpec.upto fnExactTiltWaySpec)

/-- 'laws.FnExactWayOf', WHERE WHAT IT READS IS OF BULK AT MOST 1048576: true; the input reads as it did. -/
def fnExactWayOfUptoRow : OpenClaim := { program := "ytmngedfibmnohaa", sum := "86a980120e9524fdf4ef8e0805a36fef7c11ae7bce64481411219e8dd73d3553", func := "loop.example/g01308/laws.FnExactWayOf", spec := "fnExactWayOf", inPlace := ["math.Float64frombits", "math.Float64bits", "math.Float32frombits"], apart := false, narrowed := true }
def FnExactWayOfUptoSaid : Prop := fnExactWayOfUptoRow.holds Try.pinned (OpenSpec.upto fnExactWayOfSpec)

/-- 'laws.FnExactSolidOf', WHERE WHAT IT READS IS OF BULK AT MOST 1048576: true; the input reads as it did. -/
def fnExactSolidOfUptoRow : OpenClaim := { program := "ytmngedfibmnohaa", sum := "86a980120e9524fdf4ef8e0805a36fef7c11ae7bce64481411219e8dd73d3553", func := "loop.example/g01308/laws.FnExactSolidOf", spec := "fnExactSolidOf", inPlace := ["math.Float64frombits", "math.Float64bits", "math.Float32frombits"], apart := false, narrowed := true }
def FnExactSolidOfUptoSaid : Prop := fnExactSolidOfUptoRow.holds Try.pinned (OpenSpec.upto fnExactSolidOfSpec)

/-- 'laws.FnExactFaceWay', WHERE WHAT IT READS IS OF BULK AT MOST 1048576: true; the input reads as it did. -/
def fnExactFaceWayUptoRow : OpenClaim := { program := "ytmngedfibmnohaa", sum := "86a980120e9524fdf4ef8e0805a36fef7c11ae7bce64481411219e8dd73d3553", func := "loop.example/g01308/laws.FnExactFaceWay", spec := "fnExactFaceWay", apart := false, narrowed := true }
def FnExactFaceWayUptoSaid : Prop := fnExactFaceWayUptoRow.holds Try.pinned (OpenSpec.upto fnExactFaceWaySpec)

/-- 'laws.FnExactFaceOf', WHERE WHAT IT READS IS OF BULK AT MOST 1048576: true; the input reads as it did. -/
def fnExactFaceOfUptoRow : OpenClaim := { program := "ytmngedfibmnohaa", sum := "86a980120e9524fdf4ef8e0805a36fef7c11ae7bce64481411219e8dd73d3553", func := "loop.example/g01308/laws.FnExactFaceOf", spec := "fnExactFaceOf", inPlace := ["math.Float64bits", "math.Float64frombits"], apart := false, narrowed := true }
def FnExactFaceOfUptoSaid : Prop := fnExactFaceOfUptoRow.holds Try.pinned (OpenSpec.upto fnExactFaceOfSpec)

/-- 'laws.FnExactPixelOf', WHERE WHAT IT READS IS OF BULK AT MOST 1048576: true; the input reads as it did. -/
def fnExactPixelOfUptoRow : OpenClaim := { program := "ytmngedfibmnohaa", sum := "86a980120e9524fdf4ef8e0805a36fef7c11ae7bce64481411219e8dd73d3553", func := "loop.example/g01308/laws.FnExactPixelOf", spec := "fnExactPixelOf", inPlace := ["math.Float64frombits", "math.Float64bits", "math.sqrt", "math.archFloor", "math.archTrunc", "math.Float32frombits"], apart := false, narrowed := true }
def FnExactPixelOfUptoSaid : Prop := fnExactPixelOfUptoRow.holds Try.pinned (OpenSpec.upto fnExactPixelOfSpec)

/-- 'laws.FnExactLightAt', WHERE WHAT IT READS IS OF BULK AT MOST 1048576: true; the input reads as it did. -/
def fnExactLightAtUptoRow : OpenClaim := { program := "ytmngedfibmnohaa", sum := "86a980120e9524fdf4ef8e0805a36fef7c11ae7bce64481411219e8dd73d3553", func := "loop.example/g01308/laws.FnExactLightAt", spec := "fnExactLightAt", inPlace := ["math.Float64frombits", "math.Float64bits", "math.sqrt", "math.archFloor", "math.archTrunc", "math.Float32frombits"], apart := false, narrowed := true }
def FnExactLightAtUptoSaid : Prop := fnExactLightAtUptoRow.holds Try.pinned (OpenSpec.upto fnExactLightAtSpec)

end Rows
end Go.Proofs.Ytmngedfibmnohaa
