/-
  No cell of these rows narrows 'for every input' (looked for: loops, veiled, ifaces, maps, wideKeys, modest, calm, conditions, laid).
  DERIVED. THE GIVEN ROWS OF THIS SEAT. 6 by the template 'for every input the law returns true; each argument reads behind the call as it read before'; 0 by the template 'total and deterministic' (their statements: YtkldgmgjbboiaaaTotals.lean).
  GIVEN WITH THE SEED: the statements are not yours to turn. If you find one false, say at which input.
  Laid BY PROGRAM, IN A SANDBOX (cutbox-rows.mjs): the forced cells as the released guide's own fill.sh prints them over the translation 1e9dfa95f48d9ed7… (all of the seat's roots in one cut). By AI agents, Wed Nov 11 2026. No macro, syntax, notation, axiom, sorry.
-/
import Derived.Test.YtkldgmgjbboiaaaChecked
import GoSem.Claim
import GoSem.ClaimJoined
import GoSem.ClaimMapViews
import Derived.JoinedTies
import Derived.KernelRfl
namespace Go.Proofs.Ytkldgmgjbboiaaa
/- THE CELL 'sum', in the pinned program and in every row, IS THE sha256 OF THE DUMP (.gsa) THAT YtkldgmgjbboiaaaProg.lean LOADS. Nothing in Lean hashes anything: it is a label: what it is worth is what the hold of that sum in a sandbox is worth. -/
noncomputable def Try.pinned : Pinned := { name := "ytkldgmgjbboiaaa", sum := "1e9dfa95f48d9ed7702c8f6875dd830188dd1d8a9706f75be905ec07bf5060fb", checked := Try.checked }
namespace Rows
def none {H : Type} : Left H := { results := [], args := [] }

/-- 'laws.FnExactValidAir': WHATEVER THE INPUT: true; the input reads as it did. -/
def fnExactValidAirSpec : ChangeSpec := { name := "fnExactValidAir", fn := fun _ => fun
  | [d] => { results := [.lit (.bool true)], args := [d] }
  | _ => none }
def fnExactValidAirRow : OpenClaim := { program := "ytkldgmgjbboiaaa", sum := "1e9dfa95f48d9ed7702c8f6875dd830188dd1d8a9706f75be905ec07bf5060fb", func := "loop.example/g01021/laws.FnExactValidAir", spec := "fnExactValidAir", apart := false }
def FnExactValidAirSaid : Prop := fnExactValidAirRow.holds Try.pinned (OpenSpec.ofChange fnExactValidAirSpec)

/-- ITS FALSE NEIGHBOUR: 'it returns false'. Refute it at one input. -/
def fnExactValidAirWrong : ChangeSpec := { name := "fnExactValidAir", fn := fun _ => fun
  | [d] => { results := [.lit (.bool false)], args := [d] }
  | _ => none }
def FnExactValidAirWrongFalsely : Prop := fnExactValidAirRow.holds Try.pinned (OpenSpec.ofChange fnExactValidAirWrong)

/-- 'laws.FnExactDensityOf': WHATEVER THE INPUT: true; the input reads as it did. -/
def fnExactDensityOfSpec : ChangeSpec := { name := "fnExactDensityOf", fn := fun _ => fun
  | [d1, d2] => { results := [.lit (.bool true)], args := [d1, d2] }
  | _ => none }
def fnExactDensityOfRow : OpenClaim := { program := "ytkldgmgjbboiaaa", sum := "1e9dfa95f48d9ed7702c8f6875dd830188dd1d8a9706f75be905ec07bf5060fb", func := "loop.example/g01021/laws.FnExactDensityOf", spec := "fnExactDensityOf", apart := false }
def FnExactDensityOfSaid : Prop := fnExactDensityOfRow.holds Try.pinned (OpenSpec.ofChange fnExactDensityOfSpec)

/-- ITS FALSE NEIGHBOUR: 'it returns false'. Refute it at one input. -/
def fnExactDensityOfWrong : ChangeSpec := { name := "fnExactDensityOf", fn := fun _ => fun
  | [d1, d2] => { results := [.lit (.bool false)], args := [d1, d2] }
  | _ => none }
def FnExactDensityOfWrongFalsely : Prop := fnExactDensityOfRow.holds Try.pinned (OpenSpec.ofChange fnExactDensityOfWrong)

/-- 'laws.FnExactPressureAtDepth': WHATEVER THE INPUT: true; the input reads as it did. -/
def fnExactPressureAtDepthSpec : ChangeSpec := { name := "fnExactPressureAtDepth", fn := fun _ => fun
  | [d1, d2, d3] => { results := [.lit (.bool true)], args := [d1, d2, d3] }
  | _ => none }
def fnExactPressureAtDepthRow : OpenClaim := { program := "ytkldgmgjbboiaaa", sum := "1e9dfa95f48d9ed7702c8f6875dd830188dd1d8a9706f75be905ec07bf5060fb", func := "loop.example/g01021/laws.FnExactPressureAtDepth", spec := "fnExactPressureAtDepth", apart := false }
def FnExactPressureAtDepthSaid : Prop := fnExactPressureAtDepthRow.holds Try.pinned (OpenSpec.ofChange fnExactPressureAtDepthSpec)

/-- ITS FALSE NEIGHBOUR: 'it returns false'. Refute it at one input. -/
def fnExactPressureAtDepthWrong : ChangeSpec := { name := "fnExactPressureAtDepth", fn := fun _ => fun
  | [d1, d2, d3] => { results := [.lit (.bool false)], args := [d1, d2, d3] }
  | _ => none }
def FnExactPressureAtDepthWrongFalsely : Prop := fnExactPressureAtDepthRow.holds Try.pinned (OpenSpec.ofChange fnExactPressureAtDepthWrong)

/-- 'laws.FnExactMassFlow': WHATEVER THE INPUT: true; the input reads as it did. -/
def fnExactMassFlowSpec : ChangeSpec := { name := "fnExactMassFlow", fn := fun _ => fun
  | [d1, d2] => { results := [.lit (.bool true)], args := [d1, d2] }
  | _ => none }
def fnExactMassFlowRow : OpenClaim := { program := "ytkldgmgjbboiaaa", sum := "1e9dfa95f48d9ed7702c8f6875dd830188dd1d8a9706f75be905ec07bf5060fb", func := "loop.example/g01021/laws.FnExactMassFlow", spec := "fnExactMassFlow", apart := false }
def FnExactMassFlowSaid : Prop := fnExactMassFlowRow.holds Try.pinned (OpenSpec.ofChange fnExactMassFlowSpec)

/-- ITS FALSE NEIGHBOUR: 'it returns false'. Refute it at one input. -/
def fnExactMassFlowWrong : ChangeSpec := { name := "fnExactMassFlow", fn := fun _ => fun
  | [d1, d2] => { results := [.lit (.bool false)], args := [d1, d2] }
  | _ => none }
def FnExactMassFlowWrongFalsely : Prop := fnExactMassFlowRow.holds Try.pinned (OpenSpec.ofChange fnExactMassFlowWrong)

/-- 'laws.FnExactSameMass': WHATEVER THE INPUT: true; the input reads as it did. -/
def fnExactSameMassSpec : ChangeSpec := { name := "fnExactSameMass", fn := fun _ => fun
  | [d1, d2, d3] => { results := [.lit (.bool true)], args := [d1, d2, d3] }
  | _ => none }
def fnExactSameMassRow : OpenClaim := { program := "ytkldgmgjbboiaaa", sum := "1e9dfa95f48d9ed7702c8f6875dd830188dd1d8a9706f75be905ec07bf5060fb", func := "loop.example/g01021/laws.FnExactSameMass", spec := "fnExactSameMass", apart := false }
def FnExactSameMassSaid : Prop := fnExactSameMassRow.holds Try.pinned (OpenSpec.ofChange fnExactSameMassSpec)

/-- ITS FALSE NEIGHBOUR: 'it returns false'. Refute it at one input. -/
def fnExactSameMassWrong : ChangeSpec := { name := "fnExactSameMass", fn := fun _ => fun
  | [d1, d2, d3] => { results := [.lit (.bool false)], args := [d1, d2, d3] }
  | _ => none }
def FnExactSameMassWrongFalsely : Prop := fnExactSameMassRow.holds Try.pinned (OpenSpec.ofChange fnExactSameMassWrong)

/-- 'laws.FnExactFeltTemperature': WHATEVER THE INPUT: true; the input reads as it did. -/
def fnExactFeltTemperatureSpec : ChangeSpec := { name := "fnExactFeltTemperature", fn := fun _ => fun
  | [d1, d2, d3] => { results := [.lit (.bool true)], args := [d1, d2, d3] }
  | _ => none }
def fnExactFeltTemperatureRow : OpenClaim := { program := "ytkldgmgjbboiaaa", sum := "1e9dfa95f48d9ed7702c8f6875dd830188dd1d8a9706f75be905ec07bf5060fb", func := "loop.example/g01021/laws.FnExactFeltTemperature", spec := "fnExactFeltTemperature", apart := false }
def FnExactFeltTemperatureSaid : Prop := fnExactFeltTemperatureRow.holds Try.pinned (OpenSpec.ofChange fnExactFeltTemperatureSpec)

/-- ITS FALSE NEIGHBOUR: 'it returns false'. Refute it at one input. -/
def fnExactFeltTemperatureWrong : ChangeSpec := { name := "fnExactFeltTemperature", fn := fun _ => fun
  | [d1, d2, d3] => { results := [.lit (.bool false)], args := [d1, d2, d3] }
  | _ => none }
def FnExactFeltTemperatureWrongFalsely : Prop := fnExactFeltTemperatureRow.holds Try.pinned (OpenSpec.ofChange fnExactFeltTemperatureWrong)

/- THE SECOND FORM. 'bulk': how many values and letters a reading holds, each counted each time it is reached (what is shared counts as often as it is met; a slice's spare places count too). A statement '..UptoSaid' is the law's where the arguments, and the package variables that the reading takes, are together of bulk at most 1048576: NARROWER than '..Said'. Prove '..Said' where nothing that the law and all that it calls make is longer than what came in: it says more and counts as full. Else prove '..UptoSaid'. A law counts once. -/
mutual
def uptoBulk {H : Type} : DataW H → Nat
  | .lit (.string bytes) => bytes.length + 1
  | .lit _ => 1
  | .nil => 1
  | .ptr d => uptoBulk d + 1
  | .slice elems spare => uptoBulkAll elems + uptoBulkAll spare + 1
  | .agg parts => uptoBulkAll parts + 1
  | .iface _ d => uptoBulk d + 1
  | .map entries => uptoBulkEntries entries + 1
  | .held _ => 1
def uptoBulkAll {H : Type} : List (DataW H) → Nat
  | [] => 0
  | d :: r => uptoBulk d + uptoBulkAll r
def uptoBulkEntries {H : Type} : List (Lit × DataW H) → Nat
  | [] => 0
  | x :: r => uptoBulkEntry x + uptoBulkEntries r
def uptoBulkEntry {H : Type} : Lit × DataW H → Nat
  | (.string bytes, d) => bytes.length + uptoBulk d + 1
  | (_, d) => uptoBulk d + 1
 end
def uptoSmall : (H : Type) → List (DataW H) → Bool := fun _ ds => decide (uptoBulkAll ds ≤ 1048576)
def OpenSpec.upto (s : _root_.Go.ChangeSpec) : _root_.Go.OpenSpec := { _root_.Go.OpenSpec.ofChange s with cond := some uptoSmall }

/-- 'laws.FnExactValidAir', WHERE WHAT IT READS IS OF BULK AT MOST 1048576: true; the input reads as it did. -/
def fnExactValidAirUptoRow : OpenClaim := { program := "ytkldgmgjbboiaaa", sum := "1e9dfa95f48d9ed7702c8f6875dd830188dd1d8a9706f75be905ec07bf5060fb", func := "loop.example/g01021/laws.FnExactValidAir", spec := "fnExactValidAir", apart := false, narrowed := true }
def FnExactValidAirUptoSaid : Prop := fnExactValidAirUptoRow.holds Try.pinned (OpenSpec.upto fnExactValidAirSpec)

/-- 'laws.FnExactDensityOf', WHERE WHAT IT READS IS OF BULK AT MOST 1048576: true; the input reads as it did. -/
def fnExactDensityOfUptoRow : OpenClaim := { program := "ytkldgmgjbboiaaa", sum := "1e9dfa95f48d9ed7702c8f6875dd830188dd1d8a9706f75be905ec07bf5060fb", func := "loop.example/g01021/laws.FnExactDensityOf", spec := "fnExactDensityOf", apart := false, narrowed := true }
def FnExactDensityOfUptoSaid : Prop := fnExactDensityOfUptoRow.holds Try.pinned (OpenSpec.upto fnExactDensityOfSpec)

/-- 'laws.FnExactPressureAtDepth', WHERE WHAT IT READS IS OF BULK AT MOST 1048576: true; the input reads as it did. -/
def fnExactPressureAtDepthUptoRow : OpenClaim := { program := "ytkldgmgjbboiaaa", sum := "1e9dfa95f48d9ed7702c8f6875dd830188dd1d8a9706f75be905ec07bf5060fb", func := "loop.example/g01021/laws.FnExactPressureAtDepth", spec := "fnExactPressureAtDepth", apart := false, narrowed := true }
def FnExactPressureAtDepthUptoSaid : Prop := fnExactPressureAtDepthUptoRow.holds Try.pinned (OpenSpec.upto fnExactPressureAtDepthSpec)

/-- 'laws.FnExactMassFlow', WHERE WHAT IT READS IS OF BULK AT MOST 1048576: true; the input reads as it did. -/
def fnExactMassFlowUptoRow : OpenClaim := { program := "ytkldgmgjbboiaaa", sum := "1e9dfa95f48d9ed7702c8f6875dd830188dd1d8a9706f75be905ec07bf5060fb", func := "loop.example/g01021/laws.FnExactMassFlow", spec := "fnExactMassFlow", apart := false, narrowed := true }
def FnExactMassFlowUptoSaid : Prop := fnExactMassFlowUptoRow.holds Try.pinned (OpenSpec.upto fnExactMassFlowSpec)

/-- 'laws.FnExactSameMass', WHERE WHAT IT READS IS OF BULK AT MOST 1048576: true; the input reads as it did. -/
def fnExactSameMassUptoRow : OpenClaim := { program := "ytkldgmgjbboiaaa", sum := "1e9dfa95f48d9ed7702c8f6875dd830188dd1d8a9706f75be905ec07bf5060fb", func := "loop.example/g01021/laws.FnExactSameMass", spec := "fnExactSameMass", apart := false, narrowed := true }
def FnExactSameMassUptoSaid : Prop := fnExactSameMassUptoRow.holds Try.pinned (OpenSpec.upto fnExactSameMassSpec)

/-- 'laws.FnExactFeltTemperature', WHERE WHAT IT READS IS OF BULK AT MOST 1048576: true; the input reads as it did. -/
def fnExactFeltTemperatureUptoRow : OpenClaim := { program := "ytkldgmgjbboiaaa", sum := "1e9dfa95f48d9ed7702c8f6875dd830188dd1d8a9706f75be905ec07bf5060fb", func := "loop.example/g01021/laws.FnExactFeltTemperature", spec := "fnExactFeltTemperature", apart := false, narrowed := true }
def FnExactFeltTemperatureUptoSaid : Prop := fnExactFeltTemperatureUptoRow.holds Try.pinned (OpenSpec.upto fnExactFeltTemperatureSpec)

end Rows
end Go.Proofs.Ytkldgmgjbboiaaa
