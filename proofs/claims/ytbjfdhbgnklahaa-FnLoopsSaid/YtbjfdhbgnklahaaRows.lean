/-
  No cell of these rows narrows 'for every input' (looked for: loops, veiled, ifaces, maps, wideKeys, modest, calm, conditions, laid).
  DERIVED. THE GIVEN ROWS OF THIS SEAT. 9 by the template 'for every input the law returns true; each argument reads behind the call as it read before'; 0 by the template 'total and deterministic' (their statements: YtbjfdhbgnklahaaTotals.lean).
  GIVEN WITH THE SEED: the statements are not yours to turn. If you find one false, say at which input.
  Laid BY PROGRAM, IN A SANDBOX (cutbox-rows.mjs): the forced cells as the released guide's own fill.sh prints them over the translation 0aa0fa911d621163… (all of the seat's roots in one cut). By AI agents, Wed Nov 11 2026. No macro, syntax, notation, axiom, sorry.
-/
import Derived.Test.YtbjfdhbgnklahaaChecked
import GoSem.Claim
import GoSem.ClaimJoined
import GoSem.ClaimMapViews
import Derived.JoinedTies
import Derived.KernelRfl
namespace Go.Proofs.Ytbjfdhbgnklahaa
/- THE CELL 'sum', in the pinned program and in every row, IS THE sha256 OF THE DUMP (.gsa) THAT YtbjfdhbgnklahaaProg.lean LOADS. Nothing in Lean hashes anything: it is a label: what it is worth is what the hold of that sum in a sandbox is worth. -/
noncomputable def Try.pinned : Pinned := { name := "ytbjfdhbgnklahaa", sum := "0aa0fa911d62116372acda10024f80cceda9879ea97b032b00e4206ab87e26a1", checked := Try.checked }
namespace Rows
def none {H : Type} : Left H := { results := [], args := [] }

/-- 'laws.FnExactValidSurvey': WHATEVER THE INPUT: true; the input reads as it did. -/
def fnExactValidSurveySpec : ChangeSpec := { name := "fnExactValidSurvey", fn := fun _ => fun
  | [d] => { results := [.lit (.bool true)], args := [d] }
  | _ => none }
def fnExactValidSurveyRow : OpenClaim := { program := "ytbjfdhbgnklahaa", sum := "0aa0fa911d62116372acda10024f80cceda9879ea97b032b00e4206ab87e26a1", func := "loop.example/g01021/laws.FnExactValidSurvey", spec := "fnExactValidSurvey", apart := false }
def FnExactValidSurveySaid : Prop := fnExactValidSurveyRow.holds Try.pinned (OpenSpec.ofChange fnExactValidSurveySpec)

/-- ITS FALSE NEIGHBOUR: 'it returns false'. Refute it at one input. -/
def fnExactValidSurveyWrong : ChangeSpec := { name := "fnExactValidSurvey", fn := fun _ => fun
  | [d] => { results := [.lit (.bool false)], args := [d] }
  | _ => none }
def FnExactValidSurveyWrongFalsely : Prop := fnExactValidSurveyRow.holds Try.pinned (OpenSpec.ofChange fnExactValidSurveyWrong)

/-- 'laws.FnExactBoundsOf': WHATEVER THE INPUT: true; the input reads as it did. -/
def fnExactBoundsOfSpec : ChangeSpec := { name := "fnExactBoundsOf", fn := fun _ => fun
  | [d] => { results := [.lit (.bool true)], args := [d] }
  | _ => none }
def fnExactBoundsOfRow : OpenClaim := { program := "ytbjfdhbgnklahaa", sum := "0aa0fa911d62116372acda10024f80cceda9879ea97b032b00e4206ab87e26a1", func := "loop.example/g01021/laws.FnExactBoundsOf", spec := "fnExactBoundsOf", apart := false }
def FnExactBoundsOfSaid : Prop := fnExactBoundsOfRow.holds Try.pinned (OpenSpec.ofChange fnExactBoundsOfSpec)

/-- ITS FALSE NEIGHBOUR: 'it returns false'. Refute it at one input. -/
def fnExactBoundsOfWrong : ChangeSpec := { name := "fnExactBoundsOf", fn := fun _ => fun
  | [d] => { results := [.lit (.bool false)], args := [d] }
  | _ => none }
def FnExactBoundsOfWrongFalsely : Prop := fnExactBoundsOfRow.holds Try.pinned (OpenSpec.ofChange fnExactBoundsOfWrong)

/-- 'laws.FnExactMiddleOf': WHATEVER THE INPUT: true; the input reads as it did. -/
def fnExactMiddleOfSpec : ChangeSpec := { name := "fnExactMiddleOf", fn := fun _ => fun
  | [d] => { results := [.lit (.bool true)], args := [d] }
  | _ => none }
def fnExactMiddleOfRow : OpenClaim := { program := "ytbjfdhbgnklahaa", sum := "0aa0fa911d62116372acda10024f80cceda9879ea97b032b00e4206ab87e26a1", func := "loop.example/g01021/laws.FnExactMiddleOf", spec := "fnExactMiddleOf", apart := false }
def FnExactMiddleOfSaid : Prop := fnExactMiddleOfRow.holds Try.pinned (OpenSpec.ofChange fnExactMiddleOfSpec)

/-- ITS FALSE NEIGHBOUR: 'it returns false'. Refute it at one input. -/
def fnExactMiddleOfWrong : ChangeSpec := { name := "fnExactMiddleOf", fn := fun _ => fun
  | [d] => { results := [.lit (.bool false)], args := [d] }
  | _ => none }
def FnExactMiddleOfWrongFalsely : Prop := fnExactMiddleOfRow.holds Try.pinned (OpenSpec.ofChange fnExactMiddleOfWrong)

/-- 'laws.FnExactFitsSurvey': WHATEVER THE INPUT: true; the input reads as it did. -/
def fnExactFitsSurveySpec : ChangeSpec := { name := "fnExactFitsSurvey", fn := fun _ => fun
  | [d1, d2] => { results := [.lit (.bool true)], args := [d1, d2] }
  | _ => none }
def fnExactFitsSurveyRow : OpenClaim := { program := "ytbjfdhbgnklahaa", sum := "0aa0fa911d62116372acda10024f80cceda9879ea97b032b00e4206ab87e26a1", func := "loop.example/g01021/laws.FnExactFitsSurvey", spec := "fnExactFitsSurvey", apart := false }
def FnExactFitsSurveySaid : Prop := fnExactFitsSurveyRow.holds Try.pinned (OpenSpec.ofChange fnExactFitsSurveySpec)

/-- ITS FALSE NEIGHBOUR: 'it returns false'. Refute it at one input. -/
def fnExactFitsSurveyWrong : ChangeSpec := { name := "fnExactFitsSurvey", fn := fun _ => fun
  | [d1, d2] => { results := [.lit (.bool false)], args := [d1, d2] }
  | _ => none }
def FnExactFitsSurveyWrongFalsely : Prop := fnExactFitsSurveyRow.holds Try.pinned (OpenSpec.ofChange fnExactFitsSurveyWrong)

/-- 'laws.FnExactLoopError': WHATEVER THE INPUT: true; the input reads as it did. -/
def fnExactLoopErrorSpec : ChangeSpec := { name := "fnExactLoopError", fn := fun _ => fun
  | [d] => { results := [.lit (.bool true)], args := [d] }
  | _ => none }
def fnExactLoopErrorRow : OpenClaim := { program := "ytbjfdhbgnklahaa", sum := "0aa0fa911d62116372acda10024f80cceda9879ea97b032b00e4206ab87e26a1", func := "loop.example/g01021/laws.FnExactLoopError", spec := "fnExactLoopError", apart := false }
def FnExactLoopErrorSaid : Prop := fnExactLoopErrorRow.holds Try.pinned (OpenSpec.ofChange fnExactLoopErrorSpec)

/-- ITS FALSE NEIGHBOUR: 'it returns false'. Refute it at one input. -/
def fnExactLoopErrorWrong : ChangeSpec := { name := "fnExactLoopError", fn := fun _ => fun
  | [d] => { results := [.lit (.bool false)], args := [d] }
  | _ => none }
def FnExactLoopErrorWrongFalsely : Prop := fnExactLoopErrorRow.holds Try.pinned (OpenSpec.ofChange fnExactLoopErrorWrong)

/-- 'laws.FnExactCloseLoop': WHATEVER THE INPUT: true; the input reads as it did. -/
def fnExactCloseLoopSpec : ChangeSpec := { name := "fnExactCloseLoop", fn := fun _ => fun
  | [d] => { results := [.lit (.bool true)], args := [d] }
  | _ => none }
def fnExactCloseLoopRow : OpenClaim := { program := "ytbjfdhbgnklahaa", sum := "0aa0fa911d62116372acda10024f80cceda9879ea97b032b00e4206ab87e26a1", func := "loop.example/g01021/laws.FnExactCloseLoop", spec := "fnExactCloseLoop", apart := false }
def FnExactCloseLoopSaid : Prop := fnExactCloseLoopRow.holds Try.pinned (OpenSpec.ofChange fnExactCloseLoopSpec)

/-- ITS FALSE NEIGHBOUR: 'it returns false'. Refute it at one input. -/
def fnExactCloseLoopWrong : ChangeSpec := { name := "fnExactCloseLoop", fn := fun _ => fun
  | [d] => { results := [.lit (.bool false)], args := [d] }
  | _ => none }
def FnExactCloseLoopWrongFalsely : Prop := fnExactCloseLoopRow.holds Try.pinned (OpenSpec.ofChange fnExactCloseLoopWrong)

/-- 'laws.FnExactJunctionError': WHATEVER THE INPUT: true; the input reads as it did. -/
def fnExactJunctionErrorSpec : ChangeSpec := { name := "fnExactJunctionError", fn := fun _ => fun
  | [d1, d2] => { results := [.lit (.bool true)], args := [d1, d2] }
  | _ => none }
def fnExactJunctionErrorRow : OpenClaim := { program := "ytbjfdhbgnklahaa", sum := "0aa0fa911d62116372acda10024f80cceda9879ea97b032b00e4206ab87e26a1", func := "loop.example/g01021/laws.FnExactJunctionError", spec := "fnExactJunctionError", apart := false }
def FnExactJunctionErrorSaid : Prop := fnExactJunctionErrorRow.holds Try.pinned (OpenSpec.ofChange fnExactJunctionErrorSpec)

/-- ITS FALSE NEIGHBOUR: 'it returns false'. Refute it at one input. -/
def fnExactJunctionErrorWrong : ChangeSpec := { name := "fnExactJunctionError", fn := fun _ => fun
  | [d1, d2] => { results := [.lit (.bool false)], args := [d1, d2] }
  | _ => none }
def FnExactJunctionErrorWrongFalsely : Prop := fnExactJunctionErrorRow.holds Try.pinned (OpenSpec.ofChange fnExactJunctionErrorWrong)

/-- 'laws.FnLoops': WHATEVER THE INPUT: true; the input reads as it did. -/
def fnLoopsSpec : ChangeSpec := { name := "fnLoops", fn := fun _ => fun
  | [d] => { results := [.lit (.bool true)], args := [d] }
  | _ => none }
def fnLoopsRow : OpenClaim := { program := "ytbjfdhbgnklahaa", sum := "0aa0fa911d62116372acda10024f80cceda9879ea97b032b00e4206ab87e26a1", func := "loop.example/g01021/laws.FnLoops", spec := "fnLoops", apart := false }
def FnLoopsSaid : Prop := fnLoopsRow.holds Try.pinned (OpenSpec.ofChange fnLoopsSpec)

/-- ITS FALSE NEIGHBOUR: 'it returns false'. Refute it at one input. -/
def fnLoopsWrong : ChangeSpec := { name := "fnLoops", fn := fun _ => fun
  | [d] => { results := [.lit (.bool false)], args := [d] }
  | _ => none }
def FnLoopsWrongFalsely : Prop := fnLoopsRow.holds Try.pinned (OpenSpec.ofChange fnLoopsWrong)

/-- 'laws.FnExactCommonBounds': WHATEVER THE INPUT: true; the input reads as it did. -/
def fnExactCommonBoundsSpec : ChangeSpec := { name := "fnExactCommonBounds", fn := fun _ => fun
  | [d1, d2] => { results := [.lit (.bool true)], args := [d1, d2] }
  | _ => none }
def fnExactCommonBoundsRow : OpenClaim := { program := "ytbjfdhbgnklahaa", sum := "0aa0fa911d62116372acda10024f80cceda9879ea97b032b00e4206ab87e26a1", func := "loop.example/g01021/laws.FnExactCommonBounds", spec := "fnExactCommonBounds", apart := false }
def FnExactCommonBoundsSaid : Prop := fnExactCommonBoundsRow.holds Try.pinned (OpenSpec.ofChange fnExactCommonBoundsSpec)

/-- ITS FALSE NEIGHBOUR: 'it returns false'. Refute it at one input. -/
def fnExactCommonBoundsWrong : ChangeSpec := { name := "fnExactCommonBounds", fn := fun _ => fun
  | [d1, d2] => { results := [.lit (.bool false)], args := [d1, d2] }
  | _ => none }
def FnExactCommonBoundsWrongFalsely : Prop := fnExactCommonBoundsRow.holds Try.pinned (OpenSpec.ofChange fnExactCommonBoundsWrong)

/- THE SECOND FORM. 'bulk': how many values and letters a reading holds, each counted each time it is reached (what is shared counts as often as it is met; a slice's spare places count too). A statement '..UptoSaid' is the law's where the arguments, and the package variables that the reading takes, are together of bulk at most 1048576: NARROWER than '..Said'. Prove '..Said' where nothing that the law and all that it calls make is longer than what came in: it says more and counts as full. Else prove '..UptoSaid'. A law counts once. -/
mutual
def uptoBulk {H : Type} : DataW H → Nat
  | .lit (.string bytes) => bytes.length + 1
  | .lit _ => 1
  | .nil => 1
  | .ptr d => uptoBulk d + 1
  | .slice elems spare => uptoBulkAll elems + uptoBulkAll spare + 1
  | .agg parts => uptoBulkAll parts + 1
  | .iface _ d => uptoBulk d + 1
  | .map entries => uptoBulkEntries entries + 1
  | .held _ => 1
def uptoBulkAll {H : Type} : List (DataW H) → Nat
  | [] => 0
  | d :: r => uptoBulk d + uptoBulkAll r
def uptoBulkEntries {H : Type} : List (Lit × DataW H) → Nat
  | [] => 0
  | x :: r => uptoBulkEntry x + uptoBulkEntries r
def uptoBulkEntry {H : Type} : Lit × DataW H → Nat
  | (.string bytes, d) => bytes.length + uptoBulk d + 1
  | (_, d) => uptoBulk d + 1
 end
def uptoSmall : (H : Type) → List (DataW H) → Bool := fun _ ds => decide (uptoBulkAll ds ≤ 1048576)
def OpenSpec.upto (s : _root_.Go.ChangeSpec) : _root_.Go.OpenSpec := { _root_.Go.OpenSpec.ofChange s with cond := some uptoSmall }

/-- 'laws.FnExactValidSurvey', WHERE WHAT IT READS IS OF BULK AT MOST 1048576: true; the input reads as it did. -/
def fnExactValidSurveyUptoRow : OpenClaim := { program := "ytbjfdhbgnklahaa", sum := "0aa0fa911d62116372acda10024f80cceda9879ea97b032b00e4206ab87e26a1", func := "loop.example/g01021/laws.FnExactValidSurvey", spec := "fnExactValidSurvey", apart := false, narrowed := true }
def FnExactValidSurveyUptoSaid : Prop := fnExactValidSurveyUptoRow.holds Try.pinned (OpenSpec.upto fnExactValidSurveySpec)

/-- 'laws.FnExactBoundsOf', WHERE WHAT IT READS IS OF BULK AT MOST 1048576: true; the input reads as it did. -/
def fnExactBoundsOfUptoRow : OpenClaim := { program := "ytbjfdhbgnklahaa", sum := "0aa0fa911d62116372acda10024f80cceda9879ea97b032b00e4206ab87e26a1", func := "loop.example/g01021/laws.FnExactBoundsOf", spec := "fnExactBoundsOf", apart := false, narrowed := true }
def FnExactBoundsOfUptoSaid : Prop := fnExactBoundsOfUptoRow.holds Try.pinned (OpenSpec.upto fnExactBoundsOfSpec)

/-- 'laws.FnExactMiddleOf', WHERE WHAT IT READS IS OF BULK AT MOST 1048576: true; the input reads as it did. -/
def fnExactMiddleOfUptoRow : OpenClaim := { program := "ytbjfdhbgnklahaa", sum := "0aa0fa911d62116372acda10024f80cceda9879ea97b032b00e4206ab87e26a1", func := "loop.example/g01021/laws.FnExactMiddleOf", spec := "fnExactMiddleOf", apart := false, narrowed := true }
def FnExactMiddleOfUptoSaid : Prop := fnExactMiddleOfUptoRow.holds Try.pinned (OpenSpec.upto fnExactMiddleOfSpec)

/-- 'laws.FnExactFitsSurvey', WHERE WHAT IT READS IS OF BULK AT MOST 1048576: true; the input reads as it did. -/
def fnExactFitsSurveyUptoRow : OpenClaim := { program := "ytbjfdhbgnklahaa", sum := "0aa0fa911d62116372acda10024f80cceda9879ea97b032b00e4206ab87e26a1", func := "loop.example/g01021/laws.FnExactFitsSurvey", spec := "fnExactFitsSurvey", apart := false, narrowed := true }
def FnExactFitsSurveyUptoSaid : Prop := fnExactFitsSurveyUptoRow.holds Try.pinned (OpenSpec.upto fnExactFitsSurveySpec)

/-- 'laws.FnExactLoopError', WHERE WHAT IT READS IS OF BULK AT MOST 1048576: true; the input reads as it did. -/
def fnExactLoopErrorUptoRow : OpenClaim := { program := "ytbjfdhbgnklahaa", sum := "0aa0fa911d62116372acda10024f80cceda9879ea97b032b00e4206ab87e26a1", func := "loop.example/g01021/laws.FnExactLoopError", spec := "fnExactLoopError", apart := false, narrowed := true }
def FnExactLoopErrorUptoSaid : Prop := fnExactLoopErrorUptoRow.holds Try.pinned (OpenSpec.upto fnExactLoopErrorSpec)

/-- 'laws.FnExactCloseLoop', WHERE WHAT IT READS IS OF BULK AT MOST 1048576: true; the input reads as it did. -/
def fnExactCloseLoopUptoRow : OpenClaim := { program := "ytbjfdhbgnklahaa", sum := "0aa0fa911d62116372acda10024f80cceda9879ea97b032b00e4206ab87e26a1", func := "loop.example/g01021/laws.FnExactCloseLoop", spec := "fnExactCloseLoop", apart := false, narrowed := true }
def FnExactCloseLoopUptoSaid : Prop := fnExactCloseLoopUptoRow.holds Try.pinned (OpenSpec.upto fnExactCloseLoopSpec)

/-- 'laws.FnExactJunctionError', WHERE WHAT IT READS IS OF BULK AT MOST 1048576: true; the input reads as it did. -/
def fnExactJunctionErrorUptoRow : OpenClaim := { program := "ytbjfdhbgnklahaa", sum := "0aa0fa911d62116372acda10024f80cceda9879ea97b032b00e4206ab87e26a1", func := "loop.example/g01021/laws.FnExactJunctionError", spec := "fnExactJunctionError", apart := false, narrowed := true }
def FnExactJunctionErrorUptoSaid : Prop := fnExactJunctionErrorUptoRow.holds Try.pinned (OpenSpec.upto fnExactJunctionErrorSpec)

/-- 'laws.FnLoops', WHERE WHAT IT READS IS OF BULK AT MOST 1048576: true; the input reads as it did. -/
def fnLoopsUptoRow : OpenClaim := { program := "ytbjfdhbgnklahaa", sum := "0aa0fa911d62116372acda10024f80cceda9879ea97b032b00e4206ab87e26a1", func := "loop.example/g01021/laws.FnLoops", spec := "fnLoops", apart := false, narrowed := true }
def FnLoopsUptoSaid : Prop := fnLoopsUptoRow.holds Try.pinned (OpenSpec.upto fnLoopsSpec)

/-- 'laws.FnExactCommonBounds', WHERE WHAT IT READS IS OF BULK AT MOST 1048576: true; the input reads as it did. -/
def fnExactCommonBoundsUptoRow : OpenClaim := { program := "ytbjfdhbgnklahaa", sum := "0aa0fa911d62116372acda10024f80cceda9879ea97b032b00e4206ab87e26a1", func := "loop.example/g01021/laws.FnExactCommonBounds", spec := "fnExactCommonBounds", apart := false, narrowed := true }
def FnExactCommonBoundsUptoSaid : Prop := fnExactCommonBoundsUptoRow.holds Try.pinned (OpenSpec.upto fnExactCommonBoundsSpec)

end Rows
end Go.Proofs.Ytbjfdhbgnklahaa
