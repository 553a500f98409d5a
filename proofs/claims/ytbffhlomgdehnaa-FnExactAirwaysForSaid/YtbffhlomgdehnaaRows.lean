/-
  No cell of these rows narrows 'for every input' (looked for: loops, veiled, ifaces, maps, wideKeys, modest, calm, conditions, laid).
  DERIVED. THE GIVEN ROWS OF THIS SEAT. 12 by the template 'for every input the law returns true; each argument reads behind the call as it read before'; 0 by the template 'total and deterministic' (their statements: YtbffhlomgdehnaaTotals.lean).
  GIVEN WITH THE SEED: the statements are not yours to turn. If you find one false, say at which input.
  Laid BY PROGRAM, IN A SANDBOX (cutbox-rows.mjs): the forced cells as the released guide's own fill.sh prints them over the translation b418a3ce949affa7… (all of the seat's roots in one cut). By AI agents, Wed Nov 11 2026. No macro, syntax, notation, axiom, sorry.
-/
import Derived.Test.YtbffhlomgdehnaaChecked
import GoSem.Claim
import GoSem.ClaimJoined
import GoSem.ClaimMapViews
import Derived.JoinedTies
import Derived.KernelRfl
namespace Go.Proofs.Ytbffhlomgdehnaa
/- THE CELL 'sum', in the pinned program and in every row, IS THE sha256 OF THE DUMP (.gsa) THAT YtbffhlomgdehnaaProg.lean LOADS. Nothing in Lean hashes anything: it is a label: what it is worth is what the hold of that sum in a sandbox is worth. -/
noncomputable def Try.pinned : Pinned := { name := "ytbffhlomgdehnaa", sum := "b418a3ce949affa76cc32eb7e662f7e8ab7843e504a735f64fd02c2ca512fea7", checked := Try.checked }
namespace Rows
def none {H : Type} : Left H := { results := [], args := [] }

/-- 'laws.FnExactSeriesResistance': WHATEVER THE INPUT: true; the input reads as it did. -/
def fnExactSeriesResistanceSpec : ChangeSpec := { name := "fnExactSeriesResistance", fn := fun _ => fun
  | [d] => { results := [.lit (.bool true)], args := [d] }
  | _ => none }
def fnExactSeriesResistanceRow : OpenClaim := { program := "ytbffhlomgdehnaa", sum := "b418a3ce949affa76cc32eb7e662f7e8ab7843e504a735f64fd02c2ca512fea7", func := "loop.example/g01021/laws.FnExactSeriesResistance", spec := "fnExactSeriesResistance", apart := false }
def FnExactSeriesResistanceSaid : Prop := fnExactSeriesResistanceRow.holds Try.pinned (OpenSpec.ofChange fnExactSeriesResistanceSpec)

/-- ITS FALSE NEIGHBOUR: 'it returns false'. Refute it at one input. -/
def fnExactSeriesResistanceWrong : ChangeSpec := { name := "fnExactSeriesResistance", fn := fun _ => fun
  | [d] => { results := [.lit (.bool false)], args := [d] }
  | _ => none }
def FnExactSeriesResistanceWrongFalsely : Prop := fnExactSeriesResistanceRow.holds Try.pinned (OpenSpec.ofChange fnExactSeriesResistanceWrong)

/-- 'laws.FnExactConductanceOf': WHATEVER THE INPUT: true; the input reads as it did. -/
def fnExactConductanceOfSpec : ChangeSpec := { name := "fnExactConductanceOf", fn := fun _ => fun
  | [d] => { results := [.lit (.bool true)], args := [d] }
  | _ => none }
def fnExactConductanceOfRow : OpenClaim := { program := "ytbffhlomgdehnaa", sum := "b418a3ce949affa76cc32eb7e662f7e8ab7843e504a735f64fd02c2ca512fea7", func := "loop.example/g01021/laws.FnExactConductanceOf", spec := "fnExactConductanceOf", apart := false }
def FnExactConductanceOfSaid : Prop := fnExactConductanceOfRow.holds Try.pinned (OpenSpec.ofChange fnExactConductanceOfSpec)

/-- ITS FALSE NEIGHBOUR: 'it returns false'. Refute it at one input. -/
def fnExactConductanceOfWrong : ChangeSpec := { name := "fnExactConductanceOf", fn := fun _ => fun
  | [d] => { results := [.lit (.bool false)], args := [d] }
  | _ => none }
def FnExactConductanceOfWrongFalsely : Prop := fnExactConductanceOfRow.holds Try.pinned (OpenSpec.ofChange fnExactConductanceOfWrong)

/-- 'laws.FnExactParallelResistance': WHATEVER THE INPUT: true; the input reads as it did. -/
def fnExactParallelResistanceSpec : ChangeSpec := { name := "fnExactParallelResistance", fn := fun _ => fun
  | [d] => { results := [.lit (.bool true)], args := [d] }
  | _ => none }
def fnExactParallelResistanceRow : OpenClaim := { program := "ytbffhlomgdehnaa", sum := "b418a3ce949affa76cc32eb7e662f7e8ab7843e504a735f64fd02c2ca512fea7", func := "loop.example/g01021/laws.FnExactParallelResistance", spec := "fnExactParallelResistance", apart := false }
def FnExactParallelResistanceSaid : Prop := fnExactParallelResistanceRow.holds Try.pinned (OpenSpec.ofChange fnExactParallelResistanceSpec)

/-- ITS FALSE NEIGHBOUR: 'it returns false'. Refute it at one input. -/
def fnExactParallelResistanceWrong : ChangeSpec := { name := "fnExactParallelResistance", fn := fun _ => fun
  | [d] => { results := [.lit (.bool false)], args := [d] }
  | _ => none }
def FnExactParallelResistanceWrongFalsely : Prop := fnExactParallelResistanceRow.holds Try.pinned (OpenSpec.ofChange fnExactParallelResistanceWrong)

/-- 'laws.FnExactSplitFlow': WHATEVER THE INPUT: true; the input reads as it did. -/
def fnExactSplitFlowSpec : ChangeSpec := { name := "fnExactSplitFlow", fn := fun _ => fun
  | [d1, d2] => { results := [.lit (.bool true)], args := [d1, d2] }
  | _ => none }
def fnExactSplitFlowRow : OpenClaim := { program := "ytbffhlomgdehnaa", sum := "b418a3ce949affa76cc32eb7e662f7e8ab7843e504a735f64fd02c2ca512fea7", func := "loop.example/g01021/laws.FnExactSplitFlow", spec := "fnExactSplitFlow", apart := false }
def FnExactSplitFlowSaid : Prop := fnExactSplitFlowRow.holds Try.pinned (OpenSpec.ofChange fnExactSplitFlowSpec)

/-- ITS FALSE NEIGHBOUR: 'it returns false'. Refute it at one input. -/
def fnExactSplitFlowWrong : ChangeSpec := { name := "fnExactSplitFlow", fn := fun _ => fun
  | [d1, d2] => { results := [.lit (.bool false)], args := [d1, d2] }
  | _ => none }
def FnExactSplitFlowWrongFalsely : Prop := fnExactSplitFlowRow.holds Try.pinned (OpenSpec.ofChange fnExactSplitFlowWrong)

/-- 'laws.FnExactSplitError': WHATEVER THE INPUT: true; the input reads as it did. -/
def fnExactSplitErrorSpec : ChangeSpec := { name := "fnExactSplitError", fn := fun _ => fun
  | [d1, d2] => { results := [.lit (.bool true)], args := [d1, d2] }
  | _ => none }
def fnExactSplitErrorRow : OpenClaim := { program := "ytbffhlomgdehnaa", sum := "b418a3ce949affa76cc32eb7e662f7e8ab7843e504a735f64fd02c2ca512fea7", func := "loop.example/g01021/laws.FnExactSplitError", spec := "fnExactSplitError", apart := false }
def FnExactSplitErrorSaid : Prop := fnExactSplitErrorRow.holds Try.pinned (OpenSpec.ofChange fnExactSplitErrorSpec)

/-- ITS FALSE NEIGHBOUR: 'it returns false'. Refute it at one input. -/
def fnExactSplitErrorWrong : ChangeSpec := { name := "fnExactSplitError", fn := fun _ => fun
  | [d1, d2] => { results := [.lit (.bool false)], args := [d1, d2] }
  | _ => none }
def FnExactSplitErrorWrongFalsely : Prop := fnExactSplitErrorRow.holds Try.pinned (OpenSpec.ofChange fnExactSplitErrorWrong)

/-- 'laws.FnExactOtherResistance': WHATEVER THE INPUT: true; the input reads as it did. -/
def fnExactOtherResistanceSpec : ChangeSpec := { name := "fnExactOtherResistance", fn := fun _ => fun
  | [d1, d2] => { results := [.lit (.bool true)], args := [d1, d2] }
  | _ => none }
def fnExactOtherResistanceRow : OpenClaim := { program := "ytbffhlomgdehnaa", sum := "b418a3ce949affa76cc32eb7e662f7e8ab7843e504a735f64fd02c2ca512fea7", func := "loop.example/g01021/laws.FnExactOtherResistance", spec := "fnExactOtherResistance", unfollowed := true, recurses := true, apart := false }
def FnExactOtherResistanceSaid : Prop := fnExactOtherResistanceRow.holds Try.pinned (OpenSpec.ofChange fnExactOtherResistanceSpec)

/-- ITS FALSE NEIGHBOUR: 'it returns false'. Refute it at one input. -/
def fnExactOtherResistanceWrong : ChangeSpec := { name := "fnExactOtherResistance", fn := fun _ => fun
  | [d1, d2] => { results := [.lit (.bool false)], args := [d1, d2] }
  | _ => none }
def FnExactOtherResistanceWrongFalsely : Prop := fnExactOtherResistanceRow.holds Try.pinned (OpenSpec.ofChange fnExactOtherResistanceWrong)

/-- 'laws.FnExactAirwaysFor': WHATEVER THE INPUT: true; the input reads as it did. -/
def fnExactAirwaysForSpec : ChangeSpec := { name := "fnExactAirwaysFor", fn := fun _ => fun
  | [d1, d2] => { results := [.lit (.bool true)], args := [d1, d2] }
  | _ => none }
def fnExactAirwaysForRow : OpenClaim := { program := "ytbffhlomgdehnaa", sum := "b418a3ce949affa76cc32eb7e662f7e8ab7843e504a735f64fd02c2ca512fea7", func := "loop.example/g01021/laws.FnExactAirwaysFor", spec := "fnExactAirwaysFor", unfollowed := true, recurses := true, apart := false }
def FnExactAirwaysForSaid : Prop := fnExactAirwaysForRow.holds Try.pinned (OpenSpec.ofChange fnExactAirwaysForSpec)

/-- ITS FALSE NEIGHBOUR: 'it returns false'. Refute it at one input. -/
def fnExactAirwaysForWrong : ChangeSpec := { name := "fnExactAirwaysFor", fn := fun _ => fun
  | [d1, d2] => { results := [.lit (.bool false)], args := [d1, d2] }
  | _ => none }
def FnExactAirwaysForWrongFalsely : Prop := fnExactAirwaysForRow.holds Try.pinned (OpenSpec.ofChange fnExactAirwaysForWrong)

/-- 'laws.FnExactOrificeOf': WHATEVER THE INPUT: true; the input reads as it did. -/
def fnExactOrificeOfSpec : ChangeSpec := { name := "fnExactOrificeOf", fn := fun _ => fun
  | [d] => { results := [.lit (.bool true)], args := [d] }
  | _ => none }
def fnExactOrificeOfRow : OpenClaim := { program := "ytbffhlomgdehnaa", sum := "b418a3ce949affa76cc32eb7e662f7e8ab7843e504a735f64fd02c2ca512fea7", func := "loop.example/g01021/laws.FnExactOrificeOf", spec := "fnExactOrificeOf", apart := false }
def FnExactOrificeOfSaid : Prop := fnExactOrificeOfRow.holds Try.pinned (OpenSpec.ofChange fnExactOrificeOfSpec)

/-- ITS FALSE NEIGHBOUR: 'it returns false'. Refute it at one input. -/
def fnExactOrificeOfWrong : ChangeSpec := { name := "fnExactOrificeOf", fn := fun _ => fun
  | [d] => { results := [.lit (.bool false)], args := [d] }
  | _ => none }
def FnExactOrificeOfWrongFalsely : Prop := fnExactOrificeOfRow.holds Try.pinned (OpenSpec.ofChange fnExactOrificeOfWrong)

/-- 'laws.FnExactResistancesOf': WHATEVER THE INPUT: true; the input reads as it did. -/
def fnExactResistancesOfSpec : ChangeSpec := { name := "fnExactResistancesOf", fn := fun _ => fun
  | [d] => { results := [.lit (.bool true)], args := [d] }
  | _ => none }
def fnExactResistancesOfRow : OpenClaim := { program := "ytbffhlomgdehnaa", sum := "b418a3ce949affa76cc32eb7e662f7e8ab7843e504a735f64fd02c2ca512fea7", func := "loop.example/g01021/laws.FnExactResistancesOf", spec := "fnExactResistancesOf", apart := false }
def FnExactResistancesOfSaid : Prop := fnExactResistancesOfRow.holds Try.pinned (OpenSpec.ofChange fnExactResistancesOfSpec)

/-- ITS FALSE NEIGHBOUR: 'it returns false'. Refute it at one input. -/
def fnExactResistancesOfWrong : ChangeSpec := { name := "fnExactResistancesOf", fn := fun _ => fun
  | [d] => { results := [.lit (.bool false)], args := [d] }
  | _ => none }
def FnExactResistancesOfWrongFalsely : Prop := fnExactResistancesOfRow.holds Try.pinned (OpenSpec.ofChange fnExactResistancesOfWrong)

/-- 'laws.FnExactIsBalanced': WHATEVER THE INPUT: true; the input reads as it did. -/
def fnExactIsBalancedSpec : ChangeSpec := { name := "fnExactIsBalanced", fn := fun _ => fun
  | [d1, d2] => { results := [.lit (.bool true)], args := [d1, d2] }
  | _ => none }
def fnExactIsBalancedRow : OpenClaim := { program := "ytbffhlomgdehnaa", sum := "b418a3ce949affa76cc32eb7e662f7e8ab7843e504a735f64fd02c2ca512fea7", func := "loop.example/g01021/laws.FnExactIsBalanced", spec := "fnExactIsBalanced", apart := false }
def FnExactIsBalancedSaid : Prop := fnExactIsBalancedRow.holds Try.pinned (OpenSpec.ofChange fnExactIsBalancedSpec)

/-- ITS FALSE NEIGHBOUR: 'it returns false'. Refute it at one input. -/
def fnExactIsBalancedWrong : ChangeSpec := { name := "fnExactIsBalanced", fn := fun _ => fun
  | [d1, d2] => { results := [.lit (.bool false)], args := [d1, d2] }
  | _ => none }
def FnExactIsBalancedWrongFalsely : Prop := fnExactIsBalancedRow.holds Try.pinned (OpenSpec.ofChange fnExactIsBalancedWrong)

/-- 'laws.FnExactImbalanceAt': WHATEVER THE INPUT: true; the input reads as it did. -/
def fnExactImbalanceAtSpec : ChangeSpec := { name := "fnExactImbalanceAt", fn := fun _ => fun
  | [d1, d2, d3] => { results := [.lit (.bool true)], args := [d1, d2, d3] }
  | _ => none }
def fnExactImbalanceAtRow : OpenClaim := { program := "ytbffhlomgdehnaa", sum := "b418a3ce949affa76cc32eb7e662f7e8ab7843e504a735f64fd02c2ca512fea7", func := "loop.example/g01021/laws.FnExactImbalanceAt", spec := "fnExactImbalanceAt", apart := false }
def FnExactImbalanceAtSaid : Prop := fnExactImbalanceAtRow.holds Try.pinned (OpenSpec.ofChange fnExactImbalanceAtSpec)

/-- ITS FALSE NEIGHBOUR: 'it returns false'. Refute it at one input. -/
def fnExactImbalanceAtWrong : ChangeSpec := { name := "fnExactImbalanceAt", fn := fun _ => fun
  | [d1, d2, d3] => { results := [.lit (.bool false)], args := [d1, d2, d3] }
  | _ => none }
def FnExactImbalanceAtWrongFalsely : Prop := fnExactImbalanceAtRow.holds Try.pinned (OpenSpec.ofChange fnExactImbalanceAtWrong)

/-- 'laws.FnExactStillAirways': WHATEVER THE INPUT: true; the input reads as it did. -/
def fnExactStillAirwaysSpec : ChangeSpec := { name := "fnExactStillAirways", fn := fun _ => fun
  | [d1, d2, d3] => { results := [.lit (.bool true)], args := [d1, d2, d3] }
  | _ => none }
def fnExactStillAirwaysRow : OpenClaim := { program := "ytbffhlomgdehnaa", sum := "b418a3ce949affa76cc32eb7e662f7e8ab7843e504a735f64fd02c2ca512fea7", func := "loop.example/g01021/laws.FnExactStillAirways", spec := "fnExactStillAirways", unfollowed := true, recurses := true, apart := false }
def FnExactStillAirwaysSaid : Prop := fnExactStillAirwaysRow.holds Try.pinned (OpenSpec.ofChange fnExactStillAirwaysSpec)

/-- ITS FALSE NEIGHBOUR: 'it returns false'. Refute it at one input. -/
def fnExactStillAirwaysWrong : ChangeSpec := { name := "fnExactStillAirways", fn := fun _ => fun
  | [d1, d2, d3] => { results := [.lit (.bool false)], args := [d1, d2, d3] }
  | _ => none }
def FnExactStillAirwaysWrongFalsely : Prop := fnExactStillAirwaysRow.holds Try.pinned (OpenSpec.ofChange fnExactStillAirwaysWrong)

/- THE SECOND FORM. 'bulk': how many values and letters a reading holds, each counted each time it is reached (what is shared counts as often as it is met; a slice's spare places count too). A statement '..UptoSaid' is the law's where the arguments, and the package variables that the reading takes, are together of bulk at most 1048576: NARROWER than '..Said'. Prove '..Said' where nothing that the law and all that it calls make is longer than what came in: it says more and counts as full. Else prove '..UptoSaid'. A law counts once. -/
mutual
def uptoBulk {H : Type} : DataW H → Nat
  | .lit (.string bytes) => bytes.length + 1
  | .lit _ => 1
  | .nil => 1
  | .ptr d => uptoBulk d + 1
  | .slice elems spare => uptoBulkAll elems + uptoBulkAll spare + 1
  | .agg parts => uptoBulkAll parts + 1
  | .iface _ d => uptoBulk d + 1
  | .map entries => uptoBulkEntries entries + 1
  | .held _ => 1
def uptoBulkAll {H : Type} : List (DataW H) → Nat
  | [] => 0
  | d :: r => uptoBulk d + uptoBulkAll r
def uptoBulkEntries {H : Type} : List (Lit × DataW H) → Nat
  | [] => 0
  | x :: r => uptoBulkEntry x + uptoBulkEntries r
def uptoBulkEntry {H : Type} : Lit × DataW H → Nat
  | (.string bytes, d) => bytes.length + uptoBulk d + 1
  | (_, d) => uptoBulk d + 1
 end
def uptoSmall : (H : Type) → List (DataW H) → Bool := fun _ ds => decide (uptoBulkAll ds ≤ 1048576)
def OpenSpec.upto (s : _root_.Go.ChangeSpec) : _root_.Go.OpenSpec := { _root_.Go.OpenSpec.ofChange s with cond := some uptoSmall }

/-- 'laws.FnExactSeriesResistance', WHERE WHAT IT READS IS OF BULK AT MOST 1048576: true; the input reads as it did. -/
def fnExactSeriesResistanceUptoRow : OpenClaim := { program := "ytbffhlomgdehnaa", sum := "b418a3ce949affa76cc32eb7e662f7e8ab7843e504a735f64fd02c2ca512fea7", func := "loop.example/g01021/laws.FnExactSeriesResistance", spec := "fnExactSeriesResistance", apart := false, narrowed := true }
def FnExactSeriesResistanceUptoSaid : Prop := fnExactSeriesResistanceUptoRow.holds Try.pinned (OpenSpec.upto fnExactSeriesResistanceSpec)

/-- 'laws.FnExactConductanceOf', WHERE WHAT IT READS IS OF BULK AT MOST 1048576: true; the input reads as it did. -/
def fnExactConductanceOfUptoRow : OpenClaim := { program := "ytbffhlomgdehnaa", sum := "b418a3ce949affa76cc32eb7e662f7e8ab7843e504a735f64fd02c2ca512fea7", func := "loop.example/g01021/laws.FnExactConductanceOf", spec := "fnExactConductanceOf", apart := false, narrowed := true }
def FnExactConductanceOfUptoSaid : Prop := fnExactConductanceOfUptoRow.holds Try.pinned (OpenSpec.upto fnExactConductanceOfSpec)

/-- 'laws.FnExactParallelResistance', WHERE WHAT IT READS IS OF BULK AT MOST 1048576: true; the input reads as it did. -/
def fnExactParallelResistanceUptoRow : OpenClaim := { program := "ytbffhlomgdehnaa", sum := "b418a3ce949affa76cc32eb7e662f7e8ab7843e504a735f64fd02c2ca512fea7", func := "loop.example/g01021/laws.FnExactParallelResistance", spec := "fnExactParallelResistance", apart := false, narrowed := true }
def FnExactParallelResistanceUptoSaid : Prop := fnExactParallelResistanceUptoRow.holds Try.pinned (OpenSpec.upto fnExactParallelResistanceSpec)

/-- 'laws.FnExactSplitFlow', WHERE WHAT IT READS IS OF BULK AT MOST 1048576: true; the input reads as it did. -/
def fnExactSplitFlowUptoRow : OpenClaim := { program := "ytbffhlomgdehnaa", sum := "b418a3ce949affa76cc32eb7e662f7e8ab7843e504a735f64fd02c2ca512fea7", func := "loop.example/g01021/laws.FnExactSplitFlow", spec := "fnExactSplitFlow", apart := false, narrowed := true }
def FnExactSplitFlowUptoSaid : Prop := fnExactSplitFlowUptoRow.holds Try.pinned (OpenSpec.upto fnExactSplitFlowSpec)

/-- 'laws.FnExactSplitError', WHERE WHAT IT READS IS OF BULK AT MOST 1048576: true; the input reads as it did. -/
def fnExactSplitErrorUptoRow : OpenClaim := { program := "ytbffhlomgdehnaa", sum := "b418a3ce949affa76cc32eb7e662f7e8ab7843e504a735f64fd02c2ca512fea7", func := "loop.example/g01021/laws.FnExactSplitError", spec := "fnExactSplitError", apart := false, narrowed := true }
def FnExactSplitErrorUptoSaid : Prop := fnExactSplitErrorUptoRow.holds Try.pinned (OpenSpec.upto fnExactSplitErrorSpec)

/-- 'laws.FnExactOtherResistance', WHERE WHAT IT READS IS OF BULK AT MOST 1048576: true; the input reads as it did. -/
def fnExactOtherResistanceUptoRow : OpenClaim := { program := "ytbffhlomgdehnaa", sum := "b418a3ce949affa76cc32eb7e662f7e8ab7843e504a735f64fd02c2ca512fea7", func := "loop.example/g01021/laws.FnExactOtherResistance", spec := "fnExactOtherResistance", unfollowed := true, recurses := true, apart := false, narrowed := true }
def FnExactOtherResistanceUptoSaid : Prop := fnExactOtherResistanceUptoRow.holds Try.pinned (OpenSpec.upto fnExactOtherResistanceSpec)

/-- 'laws.FnExactAirwaysFor', WHERE WHAT IT READS IS OF BULK AT MOST 1048576: true; the input reads as it did. -/
def fnExactAirwaysForUptoRow : OpenClaim := { program := "ytbffhlomgdehnaa", sum := "b418a3ce949affa76cc32eb7e662f7e8ab7843e504a735f64fd02c2ca512fea7", func := "loop.example/g01021/laws.FnExactAirwaysFor", spec := "fnExactAirwaysFor", unfollowed := true, recurses := true, apart := false, narrowed := true }
def FnExactAirwaysForUptoSaid : Prop := fnExactAirwaysForUptoRow.holds Try.pinned (OpenSpec.upto fnExactAirwaysForSpec)

/-- 'laws.FnExactOrificeOf', WHERE WHAT IT READS IS OF BULK AT MOST 1048576: true; the input reads as it did. -/
def fnExactOrificeOfUptoRow : OpenClaim := { program := "ytbffhlomgdehnaa", sum := "b418a3ce949affa76cc32eb7e662f7e8ab7843e504a735f64fd02c2ca512fea7", func := "loop.example/g01021/laws.FnExactOrificeOf", spec := "fnExactOrificeOf", apart := false, narrowed := true }
def FnExactOrificeOfUptoSaid : Prop := fnExactOrificeOfUptoRow.holds Try.pinned (OpenSpec.upto fnExactOrificeOfSpec)

/-- 'laws.FnExactResistancesOf', WHERE WHAT IT READS IS OF BULK AT MOST 1048576: true; the input reads as it did. -/
def fnExactResistancesOfUptoRow : OpenClaim := { program := "ytbffhlomgdehnaa", sum := "b418a3ce949affa76cc32eb7e662f7e8ab7843e504a735f64fd02c2ca512fea7", func := "loop.example/g01021/laws.FnExactResistancesOf", spec := "fnExactResistancesOf", apart := false, narrowed := true }
def FnExactResistancesOfUptoSaid : Prop := fnExactResistancesOfUptoRow.holds Try.pinned (OpenSpec.upto fnExactResistancesOfSpec)

/-- 'laws.FnExactIsBalanced', WHERE WHAT IT READS IS OF BULK AT MOST 1048576: true; the input reads as it did. -/
def fnExactIsBalancedUptoRow : OpenClaim := { program := "ytbffhlomgdehnaa", sum := "b418a3ce949affa76cc32eb7e662f7e8ab7843e504a735f64fd02c2ca512fea7", func := "loop.example/g01021/laws.FnExactIsBalanced", spec := "fnExactIsBalanced", apart := false, narrowed := true }
def FnExactIsBalancedUptoSaid : Prop := fnExactIsBalancedUptoRow.holds Try.pinned (OpenSpec.upto fnExactIsBalancedSpec)

/-- 'laws.FnExactImbalanceAt', WHERE WHAT IT READS IS OF BULK AT MOST 1048576: true; the input reads as it did. -/
def fnExactImbalanceAtUptoRow : OpenClaim := { program := "ytbffhlomgdehnaa", sum := "b418a3ce949affa76cc32eb7e662f7e8ab7843e504a735f64fd02c2ca512fea7", func := "loop.example/g01021/laws.FnExactImbalanceAt", spec := "fnExactImbalanceAt", apart := false, narrowed := true }
def FnExactImbalanceAtUptoSaid : Prop := fnExactImbalanceAtUptoRow.holds Try.pinned (OpenSpec.upto fnExactImbalanceAtSpec)

/-- 'laws.FnExactStillAirways', WHERE WHAT IT READS IS OF BULK AT MOST 1048576: true; the input reads as it did. -/
def fnExactStillAirwaysUptoRow : OpenClaim := { program := "ytbffhlomgdehnaa", sum := "b418a3ce949affa76cc32eb7e662f7e8ab7843e504a735f64fd02c2ca512fea7", func := "loop.example/g01021/laws.FnExactStillAirways", spec := "fnExactStillAirways", unfollowed := true, recurses := true, apart := false, narrowed := true }
def FnExactStillAirwaysUptoSaid : Prop := fnExactStillAirwaysUptoRow.holds Try.pinned (OpenSpec.upto fnExactStillAirwaysSpec)

end Rows
end Go.Proofs.Ytbffhlomgdehnaa
