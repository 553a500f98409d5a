/-
  No cell of these rows narrows 'for every input' (looked for: loops, veiled, ifaces, maps, wideKeys, modest, calm, conditions, laid).
  DERIVED. THE GIVEN ROWS OF THIS SEAT. 12 by the template 'for every input the law returns true; each argument reads behind the call as it read before'; 0 by the template 'total and deterministic' (their statements: YtjooebiiceillaaTotals.lean).
  GIVEN WITH THE SEED: the statements are not yours to turn. If you find one false, say at which input.
  Laid BY PROGRAM, IN A SANDBOX (cutbox-rows.mjs): the forced cells as the released guide's own fill.sh prints them over the translation 083c9a6b77bd9d4c… (all of the seat's roots in one cut). By AI agents, Wed Nov 11 2026. No macro, syntax, notation, axiom, sorry.
-/
import Derived.Test.YtjooebiiceillaaChecked
import GoSem.Claim
import GoSem.ClaimJoined
import GoSem.ClaimMapViews
import Derived.JoinedTies
import Derived.KernelRfl
namespace Go.Proofs.Ytjooebiiceillaa
/- THE CELL 'sum', in the pinned program and in every row, IS THE sha256 OF THE DUMP (.gsa) THAT YtjooebiiceillaaProg.lean LOADS. Nothing in Lean hashes anything: it is a label: what it is worth is what the hold of that sum in a sandbox is worth. -/
noncomputable def Try.pinned : Pinned := { name := "ytjooebiiceillaa", sum := "083c9a6b77bd9d4ced8dc93cef3607587ed439609ca7e5d1905b2820b99de845", checked := Try.checked }
namespace Rows
def none {H : Type} : Left H := { results := [], args := [] }

/-- 'laws.FnExactWarmDensity': WHATEVER THE INPUT: true; the input reads as it did. -/
def fnExactWarmDensitySpec : ChangeSpec := { name := "fnExactWarmDensity", fn := fun _ => fun
  | [d] => { results := [.lit (.bool true)], args := [d] }
  | _ => none }
def fnExactWarmDensityRow : OpenClaim := { program := "ytjooebiiceillaa", sum := "083c9a6b77bd9d4ced8dc93cef3607587ed439609ca7e5d1905b2820b99de845", func := "loop.example/g01021/laws.FnExactWarmDensity", spec := "fnExactWarmDensity", apart := false }
def FnExactWarmDensitySaid : Prop := fnExactWarmDensityRow.holds Try.pinned (OpenSpec.ofChange fnExactWarmDensitySpec)

/-- ITS FALSE NEIGHBOUR: 'it returns false'. Refute it at one input. -/
def fnExactWarmDensityWrong : ChangeSpec := { name := "fnExactWarmDensity", fn := fun _ => fun
  | [d] => { results := [.lit (.bool false)], args := [d] }
  | _ => none }
def FnExactWarmDensityWrongFalsely : Prop := fnExactWarmDensityRow.holds Try.pinned (OpenSpec.ofChange fnExactWarmDensityWrong)

/-- 'laws.FnExactColumnDraught': WHATEVER THE INPUT: true; the input reads as it did. -/
def fnExactColumnDraughtSpec : ChangeSpec := { name := "fnExactColumnDraught", fn := fun _ => fun
  | [d1, d2] => { results := [.lit (.bool true)], args := [d1, d2] }
  | _ => none }
def fnExactColumnDraughtRow : OpenClaim := { program := "ytjooebiiceillaa", sum := "083c9a6b77bd9d4ced8dc93cef3607587ed439609ca7e5d1905b2820b99de845", func := "loop.example/g01021/laws.FnExactColumnDraught", spec := "fnExactColumnDraught", apart := false }
def FnExactColumnDraughtSaid : Prop := fnExactColumnDraughtRow.holds Try.pinned (OpenSpec.ofChange fnExactColumnDraughtSpec)

/-- ITS FALSE NEIGHBOUR: 'it returns false'. Refute it at one input. -/
def fnExactColumnDraughtWrong : ChangeSpec := { name := "fnExactColumnDraught", fn := fun _ => fun
  | [d1, d2] => { results := [.lit (.bool false)], args := [d1, d2] }
  | _ => none }
def FnExactColumnDraughtWrongFalsely : Prop := fnExactColumnDraughtRow.holds Try.pinned (OpenSpec.ofChange fnExactColumnDraughtWrong)

/-- 'laws.FnExactTemperatureFor': WHATEVER THE INPUT: true; the input reads as it did. -/
def fnExactTemperatureForSpec : ChangeSpec := { name := "fnExactTemperatureFor", fn := fun _ => fun
  | [d1, d2] => { results := [.lit (.bool true)], args := [d1, d2] }
  | _ => none }
def fnExactTemperatureForRow : OpenClaim := { program := "ytjooebiiceillaa", sum := "083c9a6b77bd9d4ced8dc93cef3607587ed439609ca7e5d1905b2820b99de845", func := "loop.example/g01021/laws.FnExactTemperatureFor", spec := "fnExactTemperatureFor", apart := false }
def FnExactTemperatureForSaid : Prop := fnExactTemperatureForRow.holds Try.pinned (OpenSpec.ofChange fnExactTemperatureForSpec)

/-- ITS FALSE NEIGHBOUR: 'it returns false'. Refute it at one input. -/
def fnExactTemperatureForWrong : ChangeSpec := { name := "fnExactTemperatureFor", fn := fun _ => fun
  | [d1, d2] => { results := [.lit (.bool false)], args := [d1, d2] }
  | _ => none }
def FnExactTemperatureForWrongFalsely : Prop := fnExactTemperatureForRow.holds Try.pinned (OpenSpec.ofChange fnExactTemperatureForWrong)

/-- 'laws.FnExactDraughtsOf': WHATEVER THE INPUT: true; the input reads as it did. -/
def fnExactDraughtsOfSpec : ChangeSpec := { name := "fnExactDraughtsOf", fn := fun _ => fun
  | [d1, d2, d3] => { results := [.lit (.bool true)], args := [d1, d2, d3] }
  | _ => none }
def fnExactDraughtsOfRow : OpenClaim := { program := "ytjooebiiceillaa", sum := "083c9a6b77bd9d4ced8dc93cef3607587ed439609ca7e5d1905b2820b99de845", func := "loop.example/g01021/laws.FnExactDraughtsOf", spec := "fnExactDraughtsOf", apart := false }
def FnExactDraughtsOfSaid : Prop := fnExactDraughtsOfRow.holds Try.pinned (OpenSpec.ofChange fnExactDraughtsOfSpec)

/-- ITS FALSE NEIGHBOUR: 'it returns false'. Refute it at one input. -/
def fnExactDraughtsOfWrong : ChangeSpec := { name := "fnExactDraughtsOf", fn := fun _ => fun
  | [d1, d2, d3] => { results := [.lit (.bool false)], args := [d1, d2, d3] }
  | _ => none }
def FnExactDraughtsOfWrongFalsely : Prop := fnExactDraughtsOfRow.holds Try.pinned (OpenSpec.ofChange fnExactDraughtsOfWrong)

/-- 'laws.FnExactWalkDraught': WHATEVER THE INPUT: true; the input reads as it did. -/
def fnExactWalkDraughtSpec : ChangeSpec := { name := "fnExactWalkDraught", fn := fun _ => fun
  | [d1, d2, d3, d4] => { results := [.lit (.bool true)], args := [d1, d2, d3, d4] }
  | _ => none }
def fnExactWalkDraughtRow : OpenClaim := { program := "ytjooebiiceillaa", sum := "083c9a6b77bd9d4ced8dc93cef3607587ed439609ca7e5d1905b2820b99de845", func := "loop.example/g01021/laws.FnExactWalkDraught", spec := "fnExactWalkDraught", unfollowed := true, recurses := true, apart := false }
def FnExactWalkDraughtSaid : Prop := fnExactWalkDraughtRow.holds Try.pinned (OpenSpec.ofChange fnExactWalkDraughtSpec)

/-- ITS FALSE NEIGHBOUR: 'it returns false'. Refute it at one input. -/
def fnExactWalkDraughtWrong : ChangeSpec := { name := "fnExactWalkDraught", fn := fun _ => fun
  | [d1, d2, d3, d4] => { results := [.lit (.bool false)], args := [d1, d2, d3, d4] }
  | _ => none }
def FnExactWalkDraughtWrongFalsely : Prop := fnExactWalkDraughtRow.holds Try.pinned (OpenSpec.ofChange fnExactWalkDraughtWrong)

/-- 'laws.FnExactWarmAirways': WHATEVER THE INPUT: true; the input reads as it did. -/
def fnExactWarmAirwaysSpec : ChangeSpec := { name := "fnExactWarmAirways", fn := fun _ => fun
  | [d1, d2, d3, d4] => { results := [.lit (.bool true)], args := [d1, d2, d3, d4] }
  | _ => none }
def fnExactWarmAirwaysRow : OpenClaim := { program := "ytjooebiiceillaa", sum := "083c9a6b77bd9d4ced8dc93cef3607587ed439609ca7e5d1905b2820b99de845", func := "loop.example/g01021/laws.FnExactWarmAirways", spec := "fnExactWarmAirways", apart := false }
def FnExactWarmAirwaysSaid : Prop := fnExactWarmAirwaysRow.holds Try.pinned (OpenSpec.ofChange fnExactWarmAirwaysSpec)

/-- ITS FALSE NEIGHBOUR: 'it returns false'. Refute it at one input. -/
def fnExactWarmAirwaysWrong : ChangeSpec := { name := "fnExactWarmAirways", fn := fun _ => fun
  | [d1, d2, d3, d4] => { results := [.lit (.bool false)], args := [d1, d2, d3, d4] }
  | _ => none }
def FnExactWarmAirwaysWrongFalsely : Prop := fnExactWarmAirwaysRow.holds Try.pinned (OpenSpec.ofChange fnExactWarmAirwaysWrong)

/-- 'laws.FnExactDepthsOf': WHATEVER THE INPUT: true; the input reads as it did. -/
def fnExactDepthsOfSpec : ChangeSpec := { name := "fnExactDepthsOf", fn := fun _ => fun
  | [d1, d2] => { results := [.lit (.bool true)], args := [d1, d2] }
  | _ => none }
def fnExactDepthsOfRow : OpenClaim := { program := "ytjooebiiceillaa", sum := "083c9a6b77bd9d4ced8dc93cef3607587ed439609ca7e5d1905b2820b99de845", func := "loop.example/g01021/laws.FnExactDepthsOf", spec := "fnExactDepthsOf", apart := false }
def FnExactDepthsOfSaid : Prop := fnExactDepthsOfRow.holds Try.pinned (OpenSpec.ofChange fnExactDepthsOfSpec)

/-- ITS FALSE NEIGHBOUR: 'it returns false'. Refute it at one input. -/
def fnExactDepthsOfWrong : ChangeSpec := { name := "fnExactDepthsOf", fn := fun _ => fun
  | [d1, d2] => { results := [.lit (.bool false)], args := [d1, d2] }
  | _ => none }
def FnExactDepthsOfWrongFalsely : Prop := fnExactDepthsOfRow.holds Try.pinned (OpenSpec.ofChange fnExactDepthsOfWrong)

/-- 'laws.FnExactSteepestOf': WHATEVER THE INPUT: true; the input reads as it did. -/
def fnExactSteepestOfSpec : ChangeSpec := { name := "fnExactSteepestOf", fn := fun _ => fun
  | [d1, d2] => { results := [.lit (.bool true)], args := [d1, d2] }
  | _ => none }
def fnExactSteepestOfRow : OpenClaim := { program := "ytjooebiiceillaa", sum := "083c9a6b77bd9d4ced8dc93cef3607587ed439609ca7e5d1905b2820b99de845", func := "loop.example/g01021/laws.FnExactSteepestOf", spec := "fnExactSteepestOf", unfollowed := true, recurses := true, apart := false }
def FnExactSteepestOfSaid : Prop := fnExactSteepestOfRow.holds Try.pinned (OpenSpec.ofChange fnExactSteepestOfSpec)

/-- ITS FALSE NEIGHBOUR: 'it returns false'. Refute it at one input. -/
def fnExactSteepestOfWrong : ChangeSpec := { name := "fnExactSteepestOf", fn := fun _ => fun
  | [d1, d2] => { results := [.lit (.bool false)], args := [d1, d2] }
  | _ => none }
def FnExactSteepestOfWrongFalsely : Prop := fnExactSteepestOfRow.holds Try.pinned (OpenSpec.ofChange fnExactSteepestOfWrong)

/-- 'laws.FnExactStrongestMesh': WHATEVER THE INPUT: true; the input reads as it did. -/
def fnExactStrongestMeshSpec : ChangeSpec := { name := "fnExactStrongestMesh", fn := fun _ => fun
  | [d1, d2, d3] => { results := [.lit (.bool true)], args := [d1, d2, d3] }
  | _ => none }
def fnExactStrongestMeshRow : OpenClaim := { program := "ytjooebiiceillaa", sum := "083c9a6b77bd9d4ced8dc93cef3607587ed439609ca7e5d1905b2820b99de845", func := "loop.example/g01021/laws.FnExactStrongestMesh", spec := "fnExactStrongestMesh", unfollowed := true, recurses := true, apart := false }
def FnExactStrongestMeshSaid : Prop := fnExactStrongestMeshRow.holds Try.pinned (OpenSpec.ofChange fnExactStrongestMeshSpec)

/-- ITS FALSE NEIGHBOUR: 'it returns false'. Refute it at one input. -/
def fnExactStrongestMeshWrong : ChangeSpec := { name := "fnExactStrongestMesh", fn := fun _ => fun
  | [d1, d2, d3] => { results := [.lit (.bool false)], args := [d1, d2, d3] }
  | _ => none }
def FnExactStrongestMeshWrongFalsely : Prop := fnExactStrongestMeshRow.holds Try.pinned (OpenSpec.ofChange fnExactStrongestMeshWrong)

/-- 'laws.FnExactMeshesOf': WHATEVER THE INPUT: true; the input reads as it did. -/
def fnExactMeshesOfSpec : ChangeSpec := { name := "fnExactMeshesOf", fn := fun _ => fun
  | [d] => { results := [.lit (.bool true)], args := [d] }
  | _ => none }
def fnExactMeshesOfRow : OpenClaim := { program := "ytjooebiiceillaa", sum := "083c9a6b77bd9d4ced8dc93cef3607587ed439609ca7e5d1905b2820b99de845", func := "loop.example/g01021/laws.FnExactMeshesOf", spec := "fnExactMeshesOf", unfollowed := true, recurses := true, apart := false }
def FnExactMeshesOfSaid : Prop := fnExactMeshesOfRow.holds Try.pinned (OpenSpec.ofChange fnExactMeshesOfSpec)

/-- ITS FALSE NEIGHBOUR: 'it returns false'. Refute it at one input. -/
def fnExactMeshesOfWrong : ChangeSpec := { name := "fnExactMeshesOf", fn := fun _ => fun
  | [d] => { results := [.lit (.bool false)], args := [d] }
  | _ => none }
def FnExactMeshesOfWrongFalsely : Prop := fnExactMeshesOfRow.holds Try.pinned (OpenSpec.ofChange fnExactMeshesOfWrong)

/-- 'laws.FnExactPathOf': WHATEVER THE INPUT: true; the input reads as it did. -/
def fnExactPathOfSpec : ChangeSpec := { name := "fnExactPathOf", fn := fun _ => fun
  | [d1, d2, d3] => { results := [.lit (.bool true)], args := [d1, d2, d3] }
  | _ => none }
def fnExactPathOfRow : OpenClaim := { program := "ytjooebiiceillaa", sum := "083c9a6b77bd9d4ced8dc93cef3607587ed439609ca7e5d1905b2820b99de845", func := "loop.example/g01021/laws.FnExactPathOf", spec := "fnExactPathOf", unfollowed := true, recurses := true, apart := false }
def FnExactPathOfSaid : Prop := fnExactPathOfRow.holds Try.pinned (OpenSpec.ofChange fnExactPathOfSpec)

/-- ITS FALSE NEIGHBOUR: 'it returns false'. Refute it at one input. -/
def fnExactPathOfWrong : ChangeSpec := { name := "fnExactPathOf", fn := fun _ => fun
  | [d1, d2, d3] => { results := [.lit (.bool false)], args := [d1, d2, d3] }
  | _ => none }
def FnExactPathOfWrongFalsely : Prop := fnExactPathOfRow.holds Try.pinned (OpenSpec.ofChange fnExactPathOfWrong)

/-- 'laws.FnExactBridgesOf': WHATEVER THE INPUT: true; the input reads as it did. -/
def fnExactBridgesOfSpec : ChangeSpec := { name := "fnExactBridgesOf", fn := fun _ => fun
  | [d] => { results := [.lit (.bool true)], args := [d] }
  | _ => none }
def fnExactBridgesOfRow : OpenClaim := { program := "ytjooebiiceillaa", sum := "083c9a6b77bd9d4ced8dc93cef3607587ed439609ca7e5d1905b2820b99de845", func := "loop.example/g01021/laws.FnExactBridgesOf", spec := "fnExactBridgesOf", unfollowed := true, recurses := true, apart := false }
def FnExactBridgesOfSaid : Prop := fnExactBridgesOfRow.holds Try.pinned (OpenSpec.ofChange fnExactBridgesOfSpec)

/-- ITS FALSE NEIGHBOUR: 'it returns false'. Refute it at one input. -/
def fnExactBridgesOfWrong : ChangeSpec := { name := "fnExactBridgesOf", fn := fun _ => fun
  | [d] => { results := [.lit (.bool false)], args := [d] }
  | _ => none }
def FnExactBridgesOfWrongFalsely : Prop := fnExactBridgesOfRow.holds Try.pinned (OpenSpec.ofChange fnExactBridgesOfWrong)

/- THE SECOND FORM. 'bulk': how many values and letters a reading holds, each counted each time it is reached (what is shared counts as often as it is met; a slice's spare places count too). A statement '..UptoSaid' is the law's where the arguments, and the package variables that the reading takes, are together of bulk at most 1048576: NARROWER than '..Said'. Prove '..Said' where nothing that the law and all that it calls make is longer than what came in: it says more and counts as full. Else prove '..UptoSaid'. A law counts once. -/
mutual
def uptoBulk {H : Type} : DataW H → Nat
  | .lit (.string bytes) => bytes.length + 1
  | .lit _ => 1
  | .nil => 1
  | .ptr d => uptoBulk d + 1
  | .slice elems spare => uptoBulkAll elems + uptoBulkAll spare + 1
  | .agg parts => uptoBulkAll parts + 1
  | .iface _ d => uptoBulk d + 1
  | .map entries => uptoBulkEntries entries + 1
  | .held _ => 1
def uptoBulkAll {H : Type} : List (DataW H) → Nat
  | [] => 0
  | d :: r => uptoBulk d + uptoBulkAll r
def uptoBulkEntries {H : Type} : List (Lit × DataW H) → Nat
  | [] => 0
  | x :: r => uptoBulkEntry x + uptoBulkEntries r
def uptoBulkEntry {H : Type} : Lit × DataW H → Nat
  | (.string bytes, d) => bytes.length + uptoBulk d + 1
  | (_, d) => uptoBulk d + 1
 end
def uptoSmall : (H : Type) → List (DataW H) → Bool := fun _ ds => decide (uptoBulkAll ds ≤ 1048576)
def OpenSpec.upto (s : _root_.Go.ChangeSpec) : _root_.Go.OpenSpec := { _root_.Go.OpenSpec.ofChange s with cond := some uptoSmall }

/-- 'laws.FnExactWarmDensity', WHERE WHAT IT READS IS OF BULK AT MOST 1048576: true; the input reads as it did. -/
def fnExactWarmDensityUptoRow : OpenClaim := { program := "ytjooebiiceillaa", sum := "083c9a6b77bd9d4ced8dc93cef3607587ed439609ca7e5d1905b2820b99de845", func := "loop.example/g01021/laws.FnExactWarmDensity", spec := "fnExactWarmDensity", apart := false, narrowed := true }
def FnExactWarmDensityUptoSaid : Prop := fnExactWarmDensityUptoRow.holds Try.pinned (OpenSpec.upto fnExactWarmDensitySpec)

/-- 'laws.FnExactColumnDraught', WHERE WHAT IT READS IS OF BULK AT MOST 1048576: true; the input reads as it did. -/
def fnExactColumnDraughtUptoRow : OpenClaim := { program := "ytjooebiiceillaa", sum := "083c9a6b77bd9d4ced8dc93cef3607587ed439609ca7e5d1905b2820b99de845", func := "loop.example/g01021/laws.FnExactColumnDraught", spec := "fnExactColumnDraught", apart := false, narrowed := true }
def FnExactColumnDraughtUptoSaid : Prop := fnExactColumnDraughtUptoRow.holds Try.pinned (OpenSpec.upto fnExactColumnDraughtSpec)

/-- 'laws.FnExactTemperatureFor', WHERE WHAT IT READS IS OF BULK AT MOST 1048576: true; the input reads as it did. -/
def fnExactTemperatureForUptoRow : OpenClaim := { program := "ytjooebiiceillaa", sum := "083c9a6b77bd9d4ced8dc93cef3607587ed439609ca7e5d1905b2820b99de845", func := "loop.example/g01021/laws.FnExactTemperatureFor", spec := "fnExactTemperatureFor", apart := false, narrowed := true }
def FnExactTemperatureForUptoSaid : Prop := fnExactTemperatureForUptoRow.holds Try.pinned (OpenSpec.upto fnExactTemperatureForSpec)

/-- 'laws.FnExactDraughtsOf', WHERE WHAT IT READS IS OF BULK AT MOST 1048576: true; the input reads as it did. -/
def fnExactDraughtsOfUptoRow : OpenClaim := { program := "ytjooebiiceillaa", sum := "083c9a6b77bd9d4ced8dc93cef3607587ed439609ca7e5d1905b2820b99de845", func := "loop.example/g01021/laws.FnExactDraughtsOf", spec := "fnExactDraughtsOf", apart := false, narrowed := true }
def FnExactDraughtsOfUptoSaid : Prop := fnExactDraughtsOfUptoRow.holds Try.pinned (OpenSpec.upto fnExactDraughtsOfSpec)

/-- 'laws.FnExactWalkDraught', WHERE WHAT IT READS IS OF BULK AT MOST 1048576: true; the input reads as it did. -/
def fnExactWalkDraughtUptoRow : OpenClaim := { program := "ytjooebiiceillaa", sum := "083c9a6b77bd9d4ced8dc93cef3607587ed439609ca7e5d1905b2820b99de845", func := "loop.example/g01021/laws.FnExactWalkDraught", spec := "fnExactWalkDraught", unfollowed := true, recurses := true, apart := false, narrowed := true }
def FnExactWalkDraughtUptoSaid : Prop := fnExactWalkDraughtUptoRow.holds Try.pinned (OpenSpec.upto fnExactWalkDraughtSpec)

/-- 'laws.FnExactWarmAirways', WHERE WHAT IT READS IS OF BULK AT MOST 1048576: true; the input reads as it did. -/
def fnExactWarmAirwaysUptoRow : OpenClaim := { program := "ytjooebiiceillaa", sum := "083c9a6b77bd9d4ced8dc93cef3607587ed439609ca7e5d1905b2820b99de845", func := "loop.example/g01021/laws.FnExactWarmAirways", spec := "fnExactWarmAirways", apart := false, narrowed := true }
def FnExactWarmAirwaysUptoSaid : Prop := fnExactWarmAirwaysUptoRow.holds Try.pinned (OpenSpec.upto fnExactWarmAirwaysSpec)

/-- 'laws.FnExactDepthsOf', WHERE WHAT IT READS IS OF BULK AT MOST 1048576: true; the input reads as it did. -/
def fnExactDepthsOfUptoRow : OpenClaim := { program := "ytjooebiiceillaa", sum := "083c9a6b77bd9d4ced8dc93cef3607587ed439609ca7e5d1905b2820b99de845", func := "loop.example/g01021/laws.FnExactDepthsOf", spec := "fnExactDepthsOf", apart := false, narrowed := true }
def FnExactDepthsOfUptoSaid : Prop := fnExactDepthsOfUptoRow.holds Try.pinned (OpenSpec.upto fnExactDepthsOfSpec)

/-- 'laws.FnExactSteepestOf', WHERE WHAT IT READS IS OF BULK AT MOST 1048576: true; the input reads as it did. -/
def fnExactSteepestOfUptoRow : OpenClaim := { program := "ytjooebiiceillaa", sum := "083c9a6b77bd9d4ced8dc93cef3607587ed439609ca7e5d1905b2820b99de845", func := "loop.example/g01021/laws.FnExactSteepestOf", spec := "fnExactSteepestOf", unfollowed := true, recurses := true, apart := false, narrowed := true }
def FnExactSteepestOfUptoSaid : Prop := fnExactSteepestOfUptoRow.holds Try.pinned (OpenSpec.upto fnExactSteepestOfSpec)

/-- 'laws.FnExactStrongestMesh', WHERE WHAT IT READS IS OF BULK AT MOST 1048576: true; the input reads as it did. -/
def fnExactStrongestMeshUptoRow : OpenClaim := { program := "ytjooebiiceillaa", sum := "083c9a6b77bd9d4ced8dc93cef3607587ed439609ca7e5d1905b2820b99de845", func := "loop.example/g01021/laws.FnExactStrongestMesh", spec := "fnExactStrongestMesh", unfollowed := true, recurses := true, apart := false, narrowed := true }
def FnExactStrongestMeshUptoSaid : Prop := fnExactStrongestMeshUptoRow.holds Try.pinned (OpenSpec.upto fnExactStrongestMeshSpec)

/-- 'laws.FnExactMeshesOf', WHERE WHAT IT READS IS OF BULK AT MOST 1048576: true; the input reads as it did. -/
def fnExactMeshesOfUptoRow : OpenClaim := { program := "ytjooebiiceillaa", sum := "083c9a6b77bd9d4ced8dc93cef3607587ed439609ca7e5d1905b2820b99de845", func := "loop.example/g01021/laws.FnExactMeshesOf", spec := "fnExactMeshesOf", unfollowed := true, recurses := true, apart := false, narrowed := true }
def FnExactMeshesOfUptoSaid : Prop := fnExactMeshesOfUptoRow.holds Try.pinned (OpenSpec.upto fnExactMeshesOfSpec)

/-- 'laws.FnExactPathOf', WHERE WHAT IT READS IS OF BULK AT MOST 1048576: true; the input reads as it did. -/
def fnExactPathOfUptoRow : OpenClaim := { program := "ytjooebiiceillaa", sum := "083c9a6b77bd9d4ced8dc93cef3607587ed439609ca7e5d1905b2820b99de845", func := "loop.example/g01021/laws.FnExactPathOf", spec := "fnExactPathOf", unfollowed := true, recurses := true, apart := false, narrowed := true }
def FnExactPathOfUptoSaid : Prop := fnExactPathOfUptoRow.holds Try.pinned (OpenSpec.upto fnExactPathOfSpec)

/-- 'laws.FnExactBridgesOf', WHERE WHAT IT READS IS OF BULK AT MOST 1048576: true; the input reads as it did. -/
def fnExactBridgesOfUptoRow : OpenClaim := { program := "ytjooebiiceillaa", sum := "083c9a6b77bd9d4ced8dc93cef3607587ed439609ca7e5d1905b2820b99de845", func := "loop.example/g01021/laws.FnExactBridgesOf", spec := "fnExactBridgesOf", unfollowed := true, recurses := true, apart := false, narrowed := true }
def FnExactBridgesOfUptoSaid : Prop := fnExactBridgesOfUptoRow.holds Try.pinned (OpenSpec.upto fnExactBridgesOfSpec)

end Rows
end Go.Proofs.Ytjooebiiceillaa
