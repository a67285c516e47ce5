/-
  No cell of these rows narrows 'for every input' (looked for: loops, veiled, ifaces, maps, wideKeys, modest, calm, conditions, laid).
  DERIVED. THE GIVEN ROWS OF THIS SEAT. 12 by the template 'for every input the law returns true; each argument reads behind the call as it read before'; 0 by the template 'total and deterministic' (their statements: YtmngedfibmnohabTotals.lean).
  GIVEN WITH THE SEED: the statements are not yours to turn. If you find one false, say at which input.
  Laid BY PROGRAM, IN A SANDBOX (cutbox-rows.mjs): the forced cells as the released guide's own fill.sh prints them over the translation b9f59f215c93d591… (all of the seat's roots in one cut). By AI agents, Wed Nov 11 2026. No macro, syntax, notation, axiom, sorry.
-/
import Derived.Test.YtmngedfibmnohabChecked
import GoSem.Claim
import GoSem.ClaimJoined
import GoSem.ClaimMapViews
import Derived.JoinedTies
import Derived.KernelRfl
namespace Go.Proofs.Ytmngedfibmnohab
/- THE CELL 'sum', in the pinned program and in every row, IS THE sha256 OF THE DUMP (.gsa) THAT YtmngedfibmnohabProg.lean LOADS. Nothing in Lean hashes anything: it is a label: what it is worth is what the hold of that sum in a sandbox is worth. -/
noncomputable def Try.pinned : Pinned := { name := "ytmngedfibmnohab", sum := "b9f59f215c93d591807da418f632fdd3fb498fcc5c981dad91d316268b801111", checked := Try.checked }
namespace Rows
def none {H : Type} : Left H := { results := [], args := [] }

/-- 'laws.FnExactTotalLight': WHATEVER THE INPUT: true; the input reads as it did. -/
def fnExactTotalLightSpec : ChangeSpec := { name := "fnExactTotalLight", fn := fun _ => fun
  | [d] => { results := [.lit (.bool true)], args := [d] }
  | _ => none }
def fnExactTotalLightRow : OpenClaim := { program := "ytmngedfibmnohab", sum := "b9f59f215c93d591807da418f632fdd3fb498fcc5c981dad91d316268b801111", func := "loop.example/g01308/laws.FnExactTotalLight", spec := "fnExactTotalLight", inPlace := ["math.Float64frombits", "math.Float64bits", "math.Float32frombits"], unfollowed := true, recurses := true, apart := false }
def FnExactTotalLightSaid : Prop := fnExactTotalLightRow.holds Try.pinned (OpenSpec.ofChange fnExactTotalLightSpec)

/-- ITS FALSE NEIGHBOUR: 'it returns false'. Refute it at one input. -/
def fnExactTotalLightWrong : ChangeSpec := { name := "fnExactTotalLight", fn := fun _ => fun
  | [d] => { results := [.lit (.bool false)], args := [d] }
  | _ => none }
def FnExactTotalLightWrongFalsely : Prop := fnExactTotalLightRow.holds Try.pinned (OpenSpec.ofChange fnExactTotalLightWrong)

/-- 'laws.FnExactBrightestWay': WHATEVER THE INPUT: true; the input reads as it did. -/
def fnExactBrightestWaySpec : ChangeSpec := { name := "fnExactBrightestWay", fn := fun _ => fun
  | [d] => { results := [.lit (.bool true)], args := [d] }
  | _ => none }
def fnExactBrightestWayRow : OpenClaim := { program := "ytmngedfibmnohab", sum := "b9f59f215c93d591807da418f632fdd3fb498fcc5c981dad91d316268b801111", func := "loop.example/g01308/laws.FnExactBrightestWay", spec := "fnExactBrightestWay", inPlace := ["math.Float64frombits", "math.Float64bits", "math.Float32frombits"], apart := false }
def FnExactBrightestWaySaid : Prop := fnExactBrightestWayRow.holds Try.pinned (OpenSpec.ofChange fnExactBrightestWaySpec)

/-- ITS FALSE NEIGHBOUR: 'it returns false'. Refute it at one input. -/
def fnExactBrightestWayWrong : ChangeSpec := { name := "fnExactBrightestWay", fn := fun _ => fun
  | [d] => { results := [.lit (.bool false)], args := [d] }
  | _ => none }
def FnExactBrightestWayWrongFalsely : Prop := fnExactBrightestWayRow.holds Try.pinned (OpenSpec.ofChange fnExactBrightestWayWrong)

/-- 'laws.FnExactTurnSphere': WHATEVER THE INPUT: true; the input reads as it did. -/
def fnExactTurnSphereSpec : ChangeSpec := { name := "fnExactTurnSphere", fn := fun _ => fun
  | [d1, d2] => { results := [.lit (.bool true)], args := [d1, d2] }
  | _ => none }
def fnExactTurnSphereRow : OpenClaim := { program := "ytmngedfibmnohab", sum := "b9f59f215c93d591807da418f632fdd3fb498fcc5c981dad91d316268b801111", func := "loop.example/g01308/laws.FnExactTurnSphere", spec := "fnExactTurnSphere", inPlace := ["math.Float64frombits", "math.Float64bits", "math.sqrt", "math.archFloor", "math.archTrunc", "math.Float32frombits"], unfollowed := true, recurses := true, apart := false }
def FnExactTurnSphereSaid : Prop := fnExactTurnSphereRow.holds Try.pinned (OpenSpec.ofChange fnExactTurnSphereSpec)

/-- ITS FALSE NEIGHBOUR: 'it returns false'. Refute it at one input. -/
def fnExactTurnSphereWrong : ChangeSpec := { name := "fnExactTurnSphere", fn := fun _ => fun
  | [d1, d2] => { results := [.lit (.bool false)], args := [d1, d2] }
  | _ => none }
def FnExactTurnSphereWrongFalsely : Prop := fnExactTurnSphereRow.holds Try.pinned (OpenSpec.ofChange fnExactTurnSphereWrong)

/-- 'laws.FnExactTiltSphere': WHATEVER THE INPUT: true; the input reads as it did. -/
def fnExactTiltSphereSpec : ChangeSpec := { name := "fnExactTiltSphere", fn := fun _ => fun
  | [d1, d2] => { results := [.lit (.bool true)], args := [d1, d2] }
  | _ => none }
def fnExactTiltSphereRow : OpenClaim := { program := "ytmngedfibmnohab", sum := "b9f59f215c93d591807da418f632fdd3fb498fcc5c981dad91d316268b801111", func := "loop.example/g01308/laws.FnExactTiltSphere", spec := "fnExactTiltSphere", inPlace := ["math.Float64frombits", "math.Float64bits", "math.sqrt", "math.archFloor", "math.archTrunc", "math.Float32frombits"], unfollowed := true, recurses := true, apart := false }
def FnExactTiltSphereSaid : Prop := fnExactTiltSphereRow.holds Try.pinned (OpenSpec.ofChange fnExactTiltSphereSpec)

/-- ITS FALSE NEIGHBOUR: 'it returns false'. Refute it at one input. -/
def fnExactTiltSphereWrong : ChangeSpec := { name := "fnExactTiltSphere", fn := fun _ => fun
  | [d1, d2] => { results := [.lit (.bool false)], args := [d1, d2] }
  | _ => none }
def FnExactTiltSphereWrongFalsely : Prop := fnExactTiltSphereRow.holds Try.pinned (OpenSpec.ofChange fnExactTiltSphereWrong)

/-- 'laws.FnExactWavesAt': WHATEVER THE INPUT: true; the input reads as it did. -/
def fnExactWavesAtSpec : ChangeSpec := { name := "fnExactWavesAt", fn := fun _ => fun
  | [d] => { results := [.lit (.bool true)], args := [d] }
  | _ => none }
def fnExactWavesAtRow : OpenClaim := { program := "ytmngedfibmnohab", sum := "b9f59f215c93d591807da418f632fdd3fb498fcc5c981dad91d316268b801111", func := "loop.example/g01308/laws.FnExactWavesAt", spec := "fnExactWavesAt", inPlace := ["math.sqrt", "math.Float64bits", "math.Float64frombits"], apart := false }
def FnExactWavesAtSaid : Prop := fnExactWavesAtRow.holds Try.pinned (OpenSpec.ofChange fnExactWavesAtSpec)

/-- ITS FALSE NEIGHBOUR: 'it returns false'. Refute it at one input. -/
def fnExactWavesAtWrong : ChangeSpec := { name := "fnExactWavesAt", fn := fun _ => fun
  | [d] => { results := [.lit (.bool false)], args := [d] }
  | _ => none }
def FnExactWavesAtWrongFalsely : Prop := fnExactWavesAtRow.holds Try.pinned (OpenSpec.ofChange fnExactWavesAtWrong)

/-- 'laws.FnExactBandsOf': WHATEVER THE INPUT: true; the input reads as it did. -/
def fnExactBandsOfSpec : ChangeSpec := { name := "fnExactBandsOf", fn := fun _ => fun
  | [d] => { results := [.lit (.bool true)], args := [d] }
  | _ => none }
def fnExactBandsOfRow : OpenClaim := { program := "ytmngedfibmnohab", sum := "b9f59f215c93d591807da418f632fdd3fb498fcc5c981dad91d316268b801111", func := "loop.example/g01308/laws.FnExactBandsOf", spec := "fnExactBandsOf", inPlace := ["math.Float64frombits", "math.sqrt", "math.Float64bits", "math.Float32frombits"], unfollowed := true, recurses := true, apart := false }
def FnExactBandsOfSaid : Prop := fnExactBandsOfRow.holds Try.pinned (OpenSpec.ofChange fnExactBandsOfSpec)

/-- ITS FALSE NEIGHBOUR: 'it returns false'. Refute it at one input. -/
def fnExactBandsOfWrong : ChangeSpec := { name := "fnExactBandsOf", fn := fun _ => fun
  | [d] => { results := [.lit (.bool false)], args := [d] }
  | _ => none }
def FnExactBandsOfWrongFalsely : Prop := fnExactBandsOfRow.holds Try.pinned (OpenSpec.ofChange fnExactBandsOfWrong)

/-- 'laws.FnExactBandPowers': WHATEVER THE INPUT: true; the input reads as it did. -/
def fnExactBandPowersSpec : ChangeSpec := { name := "fnExactBandPowers", fn := fun _ => fun
  | [d] => { results := [.lit (.bool true)], args := [d] }
  | _ => none }
def fnExactBandPowersRow : OpenClaim := { program := "ytmngedfibmnohab", sum := "b9f59f215c93d591807da418f632fdd3fb498fcc5c981dad91d316268b801111", func := "loop.example/g01308/laws.FnExactBandPowers", spec := "fnExactBandPowers", inPlace := ["math.Float64bits", "math.Float64frombits"], apart := false }
def FnExactBandPowersSaid : Prop := fnExactBandPowersRow.holds Try.pinned (OpenSpec.ofChange fnExactBandPowersSpec)

/-- ITS FALSE NEIGHBOUR: 'it returns false'. Refute it at one input. -/
def fnExactBandPowersWrong : ChangeSpec := { name := "fnExactBandPowers", fn := fun _ => fun
  | [d] => { results := [.lit (.bool false)], args := [d] }
  | _ => none }
def FnExactBandPowersWrongFalsely : Prop := fnExactBandPowersRow.holds Try.pinned (OpenSpec.ofChange fnExactBandPowersWrong)

/-- 'laws.FnExactTurnBands': WHATEVER THE INPUT: true; the input reads as it did. -/
def fnExactTurnBandsSpec : ChangeSpec := { name := "fnExactTurnBands", fn := fun _ => fun
  | [d1, d2] => { results := [.lit (.bool true)], args := [d1, d2] }
  | _ => none }
def fnExactTurnBandsRow : OpenClaim := { program := "ytmngedfibmnohab", sum := "b9f59f215c93d591807da418f632fdd3fb498fcc5c981dad91d316268b801111", func := "loop.example/g01308/laws.FnExactTurnBands", spec := "fnExactTurnBands", inPlace := ["math.Float64frombits", "math.Float64bits", "math.Float32frombits"], apart := false }
def FnExactTurnBandsSaid : Prop := fnExactTurnBandsRow.holds Try.pinned (OpenSpec.ofChange fnExactTurnBandsSpec)

/-- ITS FALSE NEIGHBOUR: 'it returns false'. Refute it at one input. -/
def fnExactTurnBandsWrong : ChangeSpec := { name := "fnExactTurnBands", fn := fun _ => fun
  | [d1, d2] => { results := [.lit (.bool false)], args := [d1, d2] }
  | _ => none }
def FnExactTurnBandsWrongFalsely : Prop := fnExactTurnBandsRow.holds Try.pinned (OpenSpec.ofChange fnExactTurnBandsWrong)

/-- 'laws.FnExactFromBands': WHATEVER THE INPUT: true; the input reads as it did. -/
def fnExactFromBandsSpec : ChangeSpec := { name := "fnExactFromBands", fn := fun _ => fun
  | [d1, d2, d3] => { results := [.lit (.bool true)], args := [d1, d2, d3] }
  | _ => none }
def fnExactFromBandsRow : OpenClaim := { program := "ytmngedfibmnohab", sum := "b9f59f215c93d591807da418f632fdd3fb498fcc5c981dad91d316268b801111", func := "loop.example/g01308/laws.FnExactFromBands", spec := "fnExactFromBands", inPlace := ["math.Float64frombits", "math.sqrt", "math.Float64bits", "math.Float32frombits"], unfollowed := true, recurses := true, apart := false }
def FnExactFromBandsSaid : Prop := fnExactFromBandsRow.holds Try.pinned (OpenSpec.ofChange fnExactFromBandsSpec)

/-- ITS FALSE NEIGHBOUR: 'it returns false'. Refute it at one input. -/
def fnExactFromBandsWrong : ChangeSpec := { name := "fnExactFromBands", fn := fun _ => fun
  | [d1, d2, d3] => { results := [.lit (.bool false)], args := [d1, d2, d3] }
  | _ => none }
def FnExactFromBandsWrongFalsely : Prop := fnExactFromBandsRow.holds Try.pinned (OpenSpec.ofChange fnExactFromBandsWrong)

/-- 'laws.FnExactSurfaceLight': WHATEVER THE INPUT: true; the input reads as it did. -/
def fnExactSurfaceLightSpec : ChangeSpec := { name := "fnExactSurfaceLight", fn := fun _ => fun
  | [d1, d2] => { results := [.lit (.bool true)], args := [d1, d2] }
  | _ => none }
def fnExactSurfaceLightRow : OpenClaim := { program := "ytmngedfibmnohab", sum := "b9f59f215c93d591807da418f632fdd3fb498fcc5c981dad91d316268b801111", func := "loop.example/g01308/laws.FnExactSurfaceLight", spec := "fnExactSurfaceLight", inPlace := ["math.sqrt", "math.Float64bits", "math.Float64frombits"], apart := false }
def FnExactSurfaceLightSaid : Prop := fnExactSurfaceLightRow.holds Try.pinned (OpenSpec.ofChange fnExactSurfaceLightSpec)

/-- ITS FALSE NEIGHBOUR: 'it returns false'. Refute it at one input. -/
def fnExactSurfaceLightWrong : ChangeSpec := { name := "fnExactSurfaceLight", fn := fun _ => fun
  | [d1, d2] => { results := [.lit (.bool false)], args := [d1, d2] }
  | _ => none }
def FnExactSurfaceLightWrongFalsely : Prop := fnExactSurfaceLightRow.holds Try.pinned (OpenSpec.ofChange fnExactSurfaceLightWrong)

/-- 'laws.FnExactDirectLight': WHATEVER THE INPUT: true; the input reads as it did. -/
def fnExactDirectLightSpec : ChangeSpec := { name := "fnExactDirectLight", fn := fun _ => fun
  | [d1, d2] => { results := [.lit (.bool true)], args := [d1, d2] }
  | _ => none }
def fnExactDirectLightRow : OpenClaim := { program := "ytmngedfibmnohab", sum := "b9f59f215c93d591807da418f632fdd3fb498fcc5c981dad91d316268b801111", func := "loop.example/g01308/laws.FnExactDirectLight", spec := "fnExactDirectLight", inPlace := ["math.sqrt", "math.Float64frombits", "math.Float64bits", "math.Float32frombits"], unfollowed := true, recurses := true, apart := false }
def FnExactDirectLightSaid : Prop := fnExactDirectLightRow.holds Try.pinned (OpenSpec.ofChange fnExactDirectLightSpec)

/-- ITS FALSE NEIGHBOUR: 'it returns false'. Refute it at one input. -/
def fnExactDirectLightWrong : ChangeSpec := { name := "fnExactDirectLight", fn := fun _ => fun
  | [d1, d2] => { results := [.lit (.bool false)], args := [d1, d2] }
  | _ => none }
def FnExactDirectLightWrongFalsely : Prop := fnExactDirectLightRow.holds Try.pinned (OpenSpec.ofChange fnExactDirectLightWrong)

/-- 'laws.FnExactBallPicture': WHATEVER THE INPUT: true; the input reads as it did. -/
def fnExactBallPictureSpec : ChangeSpec := { name := "fnExactBallPicture", fn := fun _ => fun
  | [d1, d2] => { results := [.lit (.bool true)], args := [d1, d2] }
  | _ => none }
def fnExactBallPictureRow : OpenClaim := { program := "ytmngedfibmnohab", sum := "b9f59f215c93d591807da418f632fdd3fb498fcc5c981dad91d316268b801111", func := "loop.example/g01308/laws.FnExactBallPicture", spec := "fnExactBallPicture", inPlace := ["math.sqrt", "math.Float64bits", "math.Float64frombits"], unfollowed := true, recurses := true, apart := false }
def FnExactBallPictureSaid : Prop := fnExactBallPictureRow.holds Try.pinned (OpenSpec.ofChange fnExactBallPictureSpec)

/-- ITS FALSE NEIGHBOUR: 'it returns false'. Refute it at one input. -/
def fnExactBallPictureWrong : ChangeSpec := { name := "fnExactBallPicture", fn := fun _ => fun
  | [d1, d2] => { results := [.lit (.bool false)], args := [d1, d2] }
  | _ => none }
def FnExactBallPictureWrongFalsely : Prop := fnExactBallPictureRow.holds Try.pinned (OpenSpec.ofChange fnExactBallPictureWrong)

/- THE SECOND FORM. 'bulk': how many values and letters a reading holds, each counted each time it is reached (what is shared counts as often as it is met; a slice's spare places count too). A statement '..UptoSaid' is the law's where the arguments, and the package variables that the reading takes, are together of bulk at most 1048576: NARROWER than '..Said'. Prove '..Said' where nothing that the law and all that it calls make is longer than what came in: it says more and counts as full. Else prove '..UptoSaid'. A law counts once. -/
mutual
def uptoBulk {H : Type} : DataW H → Nat
  | .lit (.string bytes) => bytes.length + 1
  | .lit _ => 1
  | .nil => 1
  | .ptr d => uptoBulk d + 1
  | .slice elems spare => uptoBulkAll elems + uptoBulkAll spare + 1
  | .agg parts => uptoBulkAll parts + 1
  | .iface _ d => uptoBulk d + 1
  | .map entries => uptoBulkEntries entries + 1
  | .held _ => 1
def uptoBulkAll {H : Type} : List (DataW H) → Nat
  | [] => 0
  | d :: r => uptoBulk d + uptoBulkAll r
def uptoBulkEntries {H : Type} : List (Lit × DataW H) → Nat
  | [] => 0
  | x :: r => uptoBulkEntry x + uptoBulkEntries r
def uptoBulkEntry {H : Type} : Lit × DataW H → Nat
  | (.string bytes, d) => bytes.length + uptoBulk d + 1
  | (_, d) => uptoBulk d + 1
 end
def uptoSmall : (H : Type) → List (DataW H) → Bool := fun _ ds => decide (uptoBulkAll ds ≤ 1048576)
def OpenSpec.upto (s : _root_.Go.ChangeSpec) : _root_.Go.OpenSpec := { _root_.Go.OpenSpec.ofChange s with cond := some uptoSmall }

/-- 'laws.FnExactTotalLight', WHERE WHAT IT READS IS OF BULK AT MOST 1048576: true; the input reads as it did. -/
def fnExactTotalLightUptoRow : OpenClaim := { program := "ytmngedfibmnohab", sum := "b9f59f215c93d591807da418f632fdd3fb498fcc5c981dad91d316268b801111", func := "loop.example/g01308/laws.FnExactTotalLight", spec := "fnExactTotalLight", inPlace := ["math.Float64frombits", "math.Float64bits", "math.Float32frombits"], unfollowed := true, recurses := true, apart := false, narrowed := true }
def FnExactTotalLightUptoSaid : Prop := fnExactTotalLightUptoRow.holds Try.pinned (OpenSpec.upto fnExactTotalLightSpec)

/-- 'laws.FnExactBrightestWay', WHERE WHAT IT READS IS OF BULK AT MOST 1048576: true; the input reads as it did. -/
def fnExactBrightestWayUptoRow : OpenClaim := { program := "ytmngedfibmnohab", sum := "b9f59f215c93d591807da418f632fdd3fb498fcc5c981dad91d316268b801111", func := "loop.example/g01308/laws.FnExactBrightestWay", spec := "fnExactBrightestWay", inPlace := ["math.Float64frombits", "math.Float64bits", "math.Float32frombits"], apart := false, narrowed := true }
def FnExactBrightestWayUptoSaid : Prop := fnExactBrightestWayUptoRow.holds Try.pinned (OpenSpec.upto fnExactBrightestWaySpec)

/-- 'laws.FnExactTurnSphere', WHERE WHAT IT READS IS OF BULK AT MOST 1048576: true; the input reads as it did. -/
def fnExactTurnSphereUptoRow : OpenClaim := { program := "ytmngedfibmnohab", sum := "b9f59f215c93d591807da418f632fdd3fb498fcc5c981dad91d316268b801111", func := "loop.example/g01308/laws.FnExactTurnSphere", spec := "fnExactTurnSphere", inPlace := ["math.Float64frombits", "math.Float64bits", "math.sqrt", "math.archFloor", "math.archTrunc", "math.Float32frombits"], unfollowed := true, recurses := true, apart := false, narrowed := true }
def FnExactTurnSphereUptoSaid : Prop := fnExactTurnSphereUptoRow.holds Try.pinned (OpenSpec.upto fnExactTurnSphereSpec)

/-- 'laws.FnExactTiltSphere', WHERE WHAT IT READS IS OF BULK AT MOST 1048576: true; the input reads as it did. -/
def fnExactTiltSphereUptoRow : OpenClaim := { program := "ytmngedfibmnohab", sum := "b9f59f215c93d591807da418f632fdd3fb498fcc5c981dad91d316268b801111", func := "loop.example/g01308/laws.FnExactTiltSphere", spec := "fnExactTiltSphere", inPlace := ["math.Float64frombits", "math.Float64bits", "math.sqrt", "math.archFloor", "math.archTrunc", "math.Float32frombits"], unfollowed := true, recurses := true, apart := false, narrowed := true }
def FnExactTiltSphereUptoSaid : Prop := fnExactTiltSphereUptoRow.holds Try.pinned (OpenSpec.upto fnExactTiltSphereSpec)

/-- 'laws.FnExactWavesAt', WHERE WHAT IT READS IS OF BULK AT MOST 1048576: true; the input reads as it did. -/
def fnExactWavesAtUptoRow : OpenClaim := { program := "ytmngedfibmnohab", sum := "b9f59f215c93d591807da418f632fdd3fb498fcc5c981dad91d316268b801111", func := "loop.example/g01308/laws.FnExactWavesAt", spec := "fnExactWavesAt", inPlace := ["math.sqrt", "math.Float64bits", "math.Float64frombits"], apart := false, narrowed := true }
def FnExactWavesAtUptoSaid : Prop := fnExactWavesAtUptoRow.holds Try.pinned (OpenSpec.upto fnExactWavesAtSpec)

/-- 'laws.FnExactBandsOf', WHERE WHAT IT READS IS OF BULK AT MOST 1048576: true; the input reads as it did. -/
def fnExactBandsOfUptoRow : OpenClaim := { program := "ytmngedfibmnohab", sum := "b9f59f215c93d591807da418f632fdd3fb498fcc5c981dad91d316268b801111", func := "loop.example/g01308/laws.FnExactBandsOf", spec := "fnExactBandsOf", inPlace := ["math.Float64frombits", "math.sqrt", "math.Float64bits", "math.Float32frombits"], unfollowed := true, recurses := true, apart := false, narrowed := true }
def FnExactBandsOfUptoSaid : Prop := fnExactBandsOfUptoRow.holds Try.pinned (OpenSpec.upto fnExactBandsOfSpec)

/-- 'laws.FnExactBandPowers', WHERE WHAT IT READS IS OF BULK AT MOST 1048576: true; the input reads as it did. -/
def fnExactBandPowersUptoRow : OpenClaim := { program := "ytmngedfibmnohab", sum := "b9f59f215c93d591807da418f632fdd3fb498fcc5c981dad91d316268b801111", func := "loop.example/g01308/laws.FnExactBandPowers", spec := "fnExactBandPowers", inPlace := ["math.Float64bits", "math.Float64frombits"], apart := false, narrowed := true }
def FnExactBandPowersUptoSaid : Prop := fnExactBandPowersUptoRow.holds Try.pinned (OpenSpec.upto fnExactBandPowersSpec)

/-- 'laws.FnExactTurnBands', WHERE WHAT IT READS IS OF BULK AT MOST 1048576: true; the input reads as it did. -/
def fnExactTurnBandsUptoRow : OpenClaim := { program := "ytmngedfibmnohab", sum := "b9f59f215c93d591807da418f632fdd3fb498fcc5c981dad91d316268b801111", func := "loop.example/g01308/laws.FnExactTurnBands", spec := "fnExactTurnBands", inPlace := ["math.Float64frombits", "math.Float64bits", "math.Float32frombits"], apart := false, narrowed := true }
def FnExactTurnBandsUptoSaid : Prop := fnExactTurnBandsUptoRow.holds Try.pinned (OpenSpec.upto fnExactTurnBandsSpec)

/-- 'laws.FnExactFromBands', WHERE WHAT IT READS IS OF BULK AT MOST 1048576: true; the input reads as it did. -/
def fnExactFromBandsUptoRow : OpenClaim := { program := "ytmngedfibmnohab", sum := "b9f59f215c93d591807da418f632fdd3fb498fcc5c981dad91d316268b801111", func := "loop.example/g01308/laws.FnExactFromBands", spec := "fnExactFromBands", inPlace := ["math.Float64frombits", "math.sqrt", "math.Float64bits", "math.Float32frombits"], unfollowed := true, recurses := true, apart := false, narrowed := true }
def FnExactFromBandsUptoSaid : Prop := fnExactFromBandsUptoRow.holds Try.pinned (OpenSpec.upto fnExactFromBandsSpec)

/-- 'laws.FnExactSurfaceLight', WHERE WHAT IT READS IS OF BULK AT MOST 1048576: true; the input reads as it did. -/
def fnExactSurfaceLightUptoRow : OpenClaim := { program := "ytmngedfibmnohab", sum := "b9f59f215c93d591807da418f632fdd3fb498fcc5c981dad91d316268b801111", func := "loop.example/g01308/laws.FnExactSurfaceLight", spec := "fnExactSurfaceLight", inPlace := ["math.sqrt", "math.Float64bits", "math.Float64frombits"], apart := false, narrowed := true }
def FnExactSurfaceLightUptoSaid : Prop := fnExactSurfaceLightUptoRow.holds Try.pinned (OpenSpec.upto fnExactSurfaceLightSpec)

/-- 'laws.FnExactDirectLight', WHERE WHAT IT READS IS OF BULK AT MOST 1048576: true; the input reads as it did. -/
def fnExactDirectLightUptoRow : OpenClaim := { program := "ytmngedfibmnohab", sum := "b9f59f215c93d591807da418f632fdd3fb498fcc5c981dad91d316268b801111", func := "loop.example/g01308/laws.FnExactDirectLight", spec := "fnExactDirectLight", inPlace := ["math.sqrt", "math.Float64frombits", "math.Float64bits", "math.Float32frombits"], unfollowed := true, recurses := true, apart := false, narrowed := true }
def FnExactDirectLightUptoSaid : Prop := fnExactDirectLightUptoRow.holds Try.pinned (OpenSpec.upto fnExactDirectLightSpec)

/-- 'laws.FnExactBallPicture', WHERE WHAT IT READS IS OF BULK AT MOST 1048576: true; the input reads as it did. -/
def fnExactBallPictureUptoRow : OpenClaim := { program := "ytmngedfibmnohab", sum := "b9f59f215c93d591807da418f632fdd3fb498fcc5c981dad91d316268b801111", func := "loop.example/g01308/laws.FnExactBallPicture", spec := "fnExactBallPicture", inPlace := ["math.sqrt", "math.Float64bits", "math.Float64frombits"], unfollowed := true, recurses := true, apart := false, narrowed := true }
def FnExactBallPictureUptoSaid : Prop := fnExactBallPictureUptoRow.holds Try.pinned (OpenSpec.upto fnExactBallPictureSpec)

end Rows
end Go.Proofs.Ytmngedfibmnohab
