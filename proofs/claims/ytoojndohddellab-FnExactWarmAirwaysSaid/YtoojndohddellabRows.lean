/-
  No cell of these rows narrows 'for every input' (looked for: loops, veiled, ifaces, maps, wideKeys, modest, calm, conditions, laid).
  DERIVED. THE GIVEN ROWS OF THIS SEAT. 3 by the template 'for every input the law returns true; each argument reads behind the call as it read before'; 0 by the template 'total and deterministic' (their statements: YtoojndohddellabTotals.lean).
  GIVEN WITH THE SEED: the statements are not yours to turn. If you find one false, say at which input.
  Laid BY PROGRAM, IN A SANDBOX (cutbox-rows.mjs): the forced cells as the released guide's own fill.sh prints them over the translation 894600f422f1dc83… (all of the seat's roots in one cut). By AI agents, Wed Nov 11 2026. No macro, syntax, notation, axiom, sorry.
-/
import Derived.Test.YtoojndohddellabChecked
import GoSem.Claim
import GoSem.ClaimJoined
import GoSem.ClaimMapViews
import Derived.JoinedTies
import Derived.KernelRfl
namespace Go.Proofs.Ytoojndohddellab
/- THE CELL 'sum', in the pinned program and in every row, IS THE sha256 OF THE DUMP (.gsa) THAT YtoojndohddellabProg.lean LOADS. Nothing in Lean hashes anything: it is a label: what it is worth is what the hold of that sum in a sandbox is worth. -/
noncomputable def Try.pinned : Pinned := { name := "ytoojndohddellab", sum := "894600f422f1dc83e4557b49b3c21e6c01a399ed0c17772b2d4fad2fe74f472c", checked := Try.checked }
namespace Rows
def none {H : Type} : Left H := { results := [], args := [] }

/-- 'laws.FnExactWrongLoop': WHATEVER THE INPUT: true; the input reads as it did. -/
def fnExactWrongLoopSpec : ChangeSpec := { name := "fnExactWrongLoop", fn := fun _ => fun
  | [d1, d2, d3, d4] => { results := [.lit (.bool true)], args := [d1, d2, d3, d4] }
  | _ => none }
def fnExactWrongLoopRow : OpenClaim := { program := "ytoojndohddellab", sum := "894600f422f1dc83e4557b49b3c21e6c01a399ed0c17772b2d4fad2fe74f472c", func := "loop.example/g01021/laws.FnExactWrongLoop", spec := "fnExactWrongLoop", unfollowed := true, recurses := true, apart := false }
def FnExactWrongLoopSaid : Prop := fnExactWrongLoopRow.holds Try.pinned (OpenSpec.ofChange fnExactWrongLoopSpec)

/-- ITS FALSE NEIGHBOUR: 'it returns false'. Refute it at one input. -/
def fnExactWrongLoopWrong : ChangeSpec := { name := "fnExactWrongLoop", fn := fun _ => fun
  | [d1, d2, d3, d4] => { results := [.lit (.bool false)], args := [d1, d2, d3, d4] }
  | _ => none }
def FnExactWrongLoopWrongFalsely : Prop := fnExactWrongLoopRow.holds Try.pinned (OpenSpec.ofChange fnExactWrongLoopWrong)

/-- 'laws.FnExactWarmAirways': WHATEVER THE INPUT: true; the input reads as it did. -/
def fnExactWarmAirwaysSpec : ChangeSpec := { name := "fnExactWarmAirways", fn := fun _ => fun
  | [d1, d2, d3, d4] => { results := [.lit (.bool true)], args := [d1, d2, d3, d4] }
  | _ => none }
def fnExactWarmAirwaysRow : OpenClaim := { program := "ytoojndohddellab", sum := "894600f422f1dc83e4557b49b3c21e6c01a399ed0c17772b2d4fad2fe74f472c", func := "loop.example/g01021/laws.FnExactWarmAirways", spec := "fnExactWarmAirways", apart := false }
def FnExactWarmAirwaysSaid : Prop := fnExactWarmAirwaysRow.holds Try.pinned (OpenSpec.ofChange fnExactWarmAirwaysSpec)

/-- ITS FALSE NEIGHBOUR: 'it returns false'. Refute it at one input. -/
def fnExactWarmAirwaysWrong : ChangeSpec := { name := "fnExactWarmAirways", fn := fun _ => fun
  | [d1, d2, d3, d4] => { results := [.lit (.bool false)], args := [d1, d2, d3, d4] }
  | _ => none }
def FnExactWarmAirwaysWrongFalsely : Prop := fnExactWarmAirwaysRow.holds Try.pinned (OpenSpec.ofChange fnExactWarmAirwaysWrong)

/-- 'laws.FnExactFewestMoves': WHATEVER THE INPUT: true; the input reads as it did. -/
def fnExactFewestMovesSpec : ChangeSpec := { name := "fnExactFewestMoves", fn := fun _ => fun
  | [d1, d2, d3] => { results := [.lit (.bool true)], args := [d1, d2, d3] }
  | _ => none }
def fnExactFewestMovesRow : OpenClaim := { program := "ytoojndohddellab", sum := "894600f422f1dc83e4557b49b3c21e6c01a399ed0c17772b2d4fad2fe74f472c", func := "loop.example/g01021/laws.FnExactFewestMoves", spec := "fnExactFewestMoves", unfollowed := true, recurses := true, apart := false }
def FnExactFewestMovesSaid : Prop := fnExactFewestMovesRow.holds Try.pinned (OpenSpec.ofChange fnExactFewestMovesSpec)

/-- ITS FALSE NEIGHBOUR: 'it returns false'. Refute it at one input. -/
def fnExactFewestMovesWrong : ChangeSpec := { name := "fnExactFewestMoves", fn := fun _ => fun
  | [d1, d2, d3] => { results := [.lit (.bool false)], args := [d1, d2, d3] }
  | _ => none }
def FnExactFewestMovesWrongFalsely : Prop := fnExactFewestMovesRow.holds Try.pinned (OpenSpec.ofChange fnExactFewestMovesWrong)

/- THE SECOND FORM. 'bulk': how many values and letters a reading holds, each counted each time it is reached (what is shared counts as often as it is met; a slice's spare places count too). A statement '..UptoSaid' is the law's where the arguments, and the package variables that the reading takes, are together of bulk at most 1048576: NARROWER than '..Said'. Prove '..Said' where nothing that the law and all that it calls make is longer than what came in: it says more and counts as full. Else prove '..UptoSaid'. A law counts once. -/
mutual
def uptoBulk {H : Type} : DataW H → Nat
  | .lit (.string bytes) => bytes.length + 1
  | .lit _ => 1
  | .nil => 1
  | .ptr d => uptoBulk d + 1
  | .slice elems spare => uptoBulkAll elems + uptoBulkAll spare + 1
  | .agg parts => uptoBulkAll parts + 1
  | .iface _ d => uptoBulk d + 1
  | .map entries => uptoBulkEntries entries + 1
  | .held _ => 1
def uptoBulkAll {H : Type} : List (DataW H) → Nat
  | [] => 0
  | d :: r => uptoBulk d + uptoBulkAll r
def uptoBulkEntries {H : Type} : List (Lit × DataW H) → Nat
  | [] => 0
  | x :: r => uptoBulkEntry x + uptoBulkEntries r
def uptoBulkEntry {H : Type} : Lit × DataW H → Nat
  | (.string bytes, d) => bytes.length + uptoBulk d + 1
  | (_, d) => uptoBulk d + 1
 end
def uptoSmall : (H : Type) → List (DataW H) → Bool := fun _ ds => decide (uptoBulkAll ds ≤ 1048576)
def OpenSpec.upto (s : _root_.Go.ChangeSpec) : _root_.Go.OpenSpec := { _root_.Go.OpenSpec.ofChange s with cond := some uptoSmall }

/-- 'laws.FnExactWrongLoop', WHERE WHAT IT READS IS OF BULK AT MOST 1048576: true; the input reads as it did. -/
def fnExactWrongLoopUptoRow : OpenClaim := { program := "ytoojndohddellab", sum := "894600f422f1dc83e4557b49b3c21e6c01a399ed0c17772b2d4fad2fe74f472c", func := "loop.example/g01021/laws.FnExactWrongLoop", spec := "fnExactWrongLoop", unfollowed := true, recurses := true, apart := false, narrowed := true }
def FnExactWrongLoopUptoSaid : Prop := fnExactWrongLoopUptoRow.holds Try.pinned (OpenSpec.upto fnExactWrongLoopSpec)

/-- 'laws.FnExactWarmAirways', WHERE WHAT IT READS IS OF BULK AT MOST 1048576: true; the input reads as it did. -/
def fnExactWarmAirwaysUptoRow : OpenClaim := { program := "ytoojndohddellab", sum := "894600f422f1dc83e4557b49b3c21e6c01a399ed0c17772b2d4fad2fe74f472c", func := "loop.example/g01021/laws.FnExactWarmAirways", spec := "fnExactWarmAirways", apart := false, narrowed := true }
def FnExactWarmAirwaysUptoSaid : Prop := fnExactWarmAirwaysUptoRow.holds Try.pinned (OpenSpec.upto fnExactWarmAirwaysSpec)

/-- 'laws.FnExactFewestMoves', WHERE WHAT IT READS IS OF BULK AT MOST 1048576: true; the input reads as it did. -/
def fnExactFewestMovesUptoRow : OpenClaim := { program := "ytoojndohddellab", sum := "894600f422f1dc83e4557b49b3c21e6c01a399ed0c17772b2d4fad2fe74f472c", func := "loop.example/g01021/laws.FnExactFewestMoves", spec := "fnExactFewestMoves", unfollowed := true, recurses := true, apart := false, narrowed := true }
def FnExactFewestMovesUptoSaid : Prop := fnExactFewestMovesUptoRow.holds Try.pinned (OpenSpec.upto fnExactFewestMovesSpec)

end Rows
end Go.Proofs.Ytoojndohddellab
