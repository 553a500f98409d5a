/-
  No cell of these rows narrows 'for every input' (looked for: loops, veiled, ifaces, maps, wideKeys, modest, calm, conditions, laid).
  DERIVED. THE GIVEN ROWS OF THIS SEAT. 6 by the template 'for every input the law returns true; each argument reads behind the call as it read before'; 0 by the template 'total and deterministic' (their statements: YthbofhlfggkolaaTotals.lean).
  GIVEN WITH THE SEED: the statements are not yours to turn. If you find one false, say at which input.
  Laid BY PROGRAM, IN A SANDBOX (cutbox-rows.mjs): the forced cells as the released guide's own fill.sh prints them over the translation b35cae83251d72ec… (all of the seat's roots in one cut). By AI agents, Wed Nov 11 2026. No macro, syntax, notation, axiom, sorry.
-/
import Derived.Test.YthbofhlfggkolaaChecked
import GoSem.Claim
import GoSem.ClaimJoined
import GoSem.ClaimMapViews
import Derived.JoinedTies
import Derived.KernelRfl
namespace Go.Proofs.Ythbofhlfggkolaa
/- THE CELL 'sum', in the pinned program and in every row, IS THE sha256 OF THE DUMP (.gsa) THAT YthbofhlfggkolaaProg.lean LOADS. Nothing in Lean hashes anything: it is a label: what it is worth is what the hold of that sum in a sandbox is worth. -/
noncomputable def Try.pinned : Pinned := { name := "ythbofhlfggkolaa", sum := "b35cae83251d72ec89303e253765d17b5f08d40edfa639a3d9d3e1dd50534a60", checked := Try.checked }
namespace Rows
def none {H : Type} : Left H := { results := [], args := [] }

/-- 'laws.FnExactValidSources': WHATEVER THE INPUT: true; the input reads as it did. -/
def fnExactValidSourcesSpec : ChangeSpec := { name := "fnExactValidSources", fn := fun _ => fun
  | [d1, d2] => { results := [.lit (.bool true)], args := [d1, d2] }
  | _ => none }
def fnExactValidSourcesRow : OpenClaim := { program := "ythbofhlfggkolaa", sum := "b35cae83251d72ec89303e253765d17b5f08d40edfa639a3d9d3e1dd50534a60", func := "loop.example/g01021/laws.FnExactValidSources", spec := "fnExactValidSources", apart := false }
def FnExactValidSourcesSaid : Prop := fnExactValidSourcesRow.holds Try.pinned (OpenSpec.ofChange fnExactValidSourcesSpec)

/-- ITS FALSE NEIGHBOUR: 'it returns false'. Refute it at one input. -/
def fnExactValidSourcesWrong : ChangeSpec := { name := "fnExactValidSources", fn := fun _ => fun
  | [d1, d2] => { results := [.lit (.bool false)], args := [d1, d2] }
  | _ => none }
def FnExactValidSourcesWrongFalsely : Prop := fnExactValidSourcesRow.holds Try.pinned (OpenSpec.ofChange fnExactValidSourcesWrong)

/-- 'laws.FnExactShareFor': WHATEVER THE INPUT: true; the input reads as it did. -/
def fnExactShareForSpec : ChangeSpec := { name := "fnExactShareFor", fn := fun _ => fun
  | [d1, d2] => { results := [.lit (.bool true)], args := [d1, d2] }
  | _ => none }
def fnExactShareForRow : OpenClaim := { program := "ythbofhlfggkolaa", sum := "b35cae83251d72ec89303e253765d17b5f08d40edfa639a3d9d3e1dd50534a60", func := "loop.example/g01021/laws.FnExactShareFor", spec := "fnExactShareFor", apart := false }
def FnExactShareForSaid : Prop := fnExactShareForRow.holds Try.pinned (OpenSpec.ofChange fnExactShareForSpec)

/-- ITS FALSE NEIGHBOUR: 'it returns false'. Refute it at one input. -/
def fnExactShareForWrong : ChangeSpec := { name := "fnExactShareFor", fn := fun _ => fun
  | [d1, d2] => { results := [.lit (.bool false)], args := [d1, d2] }
  | _ => none }
def FnExactShareForWrongFalsely : Prop := fnExactShareForRow.holds Try.pinned (OpenSpec.ofChange fnExactShareForWrong)

/-- 'laws.FnExactDiluteFlow': WHATEVER THE INPUT: true; the input reads as it did. -/
def fnExactDiluteFlowSpec : ChangeSpec := { name := "fnExactDiluteFlow", fn := fun _ => fun
  | [d1, d2] => { results := [.lit (.bool true)], args := [d1, d2] }
  | _ => none }
def fnExactDiluteFlowRow : OpenClaim := { program := "ythbofhlfggkolaa", sum := "b35cae83251d72ec89303e253765d17b5f08d40edfa639a3d9d3e1dd50534a60", func := "loop.example/g01021/laws.FnExactDiluteFlow", spec := "fnExactDiluteFlow", unfollowed := true, recurses := true, apart := false }
def FnExactDiluteFlowSaid : Prop := fnExactDiluteFlowRow.holds Try.pinned (OpenSpec.ofChange fnExactDiluteFlowSpec)

/-- ITS FALSE NEIGHBOUR: 'it returns false'. Refute it at one input. -/
def fnExactDiluteFlowWrong : ChangeSpec := { name := "fnExactDiluteFlow", fn := fun _ => fun
  | [d1, d2] => { results := [.lit (.bool false)], args := [d1, d2] }
  | _ => none }
def FnExactDiluteFlowWrongFalsely : Prop := fnExactDiluteFlowRow.holds Try.pinned (OpenSpec.ofChange fnExactDiluteFlowWrong)

/-- 'laws.FnExactGasOf': WHATEVER THE INPUT: true; the input reads as it did. -/
def fnExactGasOfSpec : ChangeSpec := { name := "fnExactGasOf", fn := fun _ => fun
  | [d1, d2, d3] => { results := [.lit (.bool true)], args := [d1, d2, d3] }
  | _ => none }
def fnExactGasOfRow : OpenClaim := { program := "ythbofhlfggkolaa", sum := "b35cae83251d72ec89303e253765d17b5f08d40edfa639a3d9d3e1dd50534a60", func := "loop.example/g01021/laws.FnExactGasOf", spec := "fnExactGasOf", apart := false }
def FnExactGasOfSaid : Prop := fnExactGasOfRow.holds Try.pinned (OpenSpec.ofChange fnExactGasOfSpec)

/-- ITS FALSE NEIGHBOUR: 'it returns false'. Refute it at one input. -/
def fnExactGasOfWrong : ChangeSpec := { name := "fnExactGasOf", fn := fun _ => fun
  | [d1, d2, d3] => { results := [.lit (.bool false)], args := [d1, d2, d3] }
  | _ => none }
def FnExactGasOfWrongFalsely : Prop := fnExactGasOfRow.holds Try.pinned (OpenSpec.ofChange fnExactGasOfWrong)

/-- 'laws.FnExactMixFlows': WHATEVER THE INPUT: true; the input reads as it did. -/
def fnExactMixFlowsSpec : ChangeSpec := { name := "fnExactMixFlows", fn := fun _ => fun
  | [d1, d2] => { results := [.lit (.bool true)], args := [d1, d2] }
  | _ => none }
def fnExactMixFlowsRow : OpenClaim := { program := "ythbofhlfggkolaa", sum := "b35cae83251d72ec89303e253765d17b5f08d40edfa639a3d9d3e1dd50534a60", func := "loop.example/g01021/laws.FnExactMixFlows", spec := "fnExactMixFlows", apart := false }
def FnExactMixFlowsSaid : Prop := fnExactMixFlowsRow.holds Try.pinned (OpenSpec.ofChange fnExactMixFlowsSpec)

/-- ITS FALSE NEIGHBOUR: 'it returns false'. Refute it at one input. -/
def fnExactMixFlowsWrong : ChangeSpec := { name := "fnExactMixFlows", fn := fun _ => fun
  | [d1, d2] => { results := [.lit (.bool false)], args := [d1, d2] }
  | _ => none }
def FnExactMixFlowsWrongFalsely : Prop := fnExactMixFlowsRow.holds Try.pinned (OpenSpec.ofChange fnExactMixFlowsWrong)

/-- 'laws.FnExactFewestMoves': WHATEVER THE INPUT: true; the input reads as it did. -/
def fnExactFewestMovesSpec : ChangeSpec := { name := "fnExactFewestMoves", fn := fun _ => fun
  | [d1, d2, d3] => { results := [.lit (.bool true)], args := [d1, d2, d3] }
  | _ => none }
def fnExactFewestMovesRow : OpenClaim := { program := "ythbofhlfggkolaa", sum := "b35cae83251d72ec89303e253765d17b5f08d40edfa639a3d9d3e1dd50534a60", func := "loop.example/g01021/laws.FnExactFewestMoves", spec := "fnExactFewestMoves", unfollowed := true, recurses := true, apart := false }
def FnExactFewestMovesSaid : Prop := fnExactFewestMovesRow.holds Try.pinned (OpenSpec.ofChange fnExactFewestMovesSpec)

/-- ITS FALSE NEIGHBOUR: 'it returns false'. Refute it at one input. -/
def fnExactFewestMovesWrong : ChangeSpec := { name := "fnExactFewestMoves", fn := fun _ => fun
  | [d1, d2, d3] => { results := [.lit (.bool false)], args := [d1, d2, d3] }
  | _ => none }
def FnExactFewestMovesWrongFalsely : Prop := fnExactFewestMovesRow.holds Try.pinned (OpenSpec.ofChange fnExactFewestMovesWrong)

/- THE SECOND FORM. 'bulk': how many values and letters a reading holds, each counted each time it is reached (what is shared counts as often as it is met; a slice's spare places count too). A statement '..UptoSaid' is the law's where the arguments, and the package variables that the reading takes, are together of bulk at most 1048576: NARROWER than '..Said'. Prove '..Said' where nothing that the law and all that it calls make is longer than what came in: it says more and counts as full. Else prove '..UptoSaid'. A law counts once. -/
mutual
def uptoBulk {H : Type} : DataW H → Nat
  | .lit (.string bytes) => bytes.length + 1
  | .lit _ => 1
  | .nil => 1
  | .ptr d => uptoBulk d + 1
  | .slice elems spare => uptoBulkAll elems + uptoBulkAll spare + 1
  | .agg parts => uptoBulkAll parts + 1
  | .iface _ d => uptoBulk d + 1
  | .map entries => uptoBulkEntries entries + 1
  | .held _ => 1
def uptoBulkAll {H : Type} : List (DataW H) → Nat
  | [] => 0
  | d :: r => uptoBulk d + uptoBulkAll r
def uptoBulkEntries {H : Type} : List (Lit × DataW H) → Nat
  | [] => 0
  | x :: r => uptoBulkEntry x + uptoBulkEntries r
def uptoBulkEntry {H : Type} : Lit × DataW H → Nat
  | (.string bytes, d) => bytes.length + uptoBulk d + 1
  | (_, d) => uptoBulk d + 1
 end
def uptoSmall : (H : Type) → List (DataW H) → Bool := fun _ ds => decide (uptoBulkAll ds ≤ 1048576)
def OpenSpec.upto (s : _root_.Go.ChangeSpec) : _root_.Go.OpenSpec := { _root_.Go.OpenSpec.ofChange s with cond := some uptoSmall }

/-- 'laws.FnExactValidSources', WHERE WHAT IT READS IS OF BULK AT MOST 1048576: true; the input reads as it did. -/
def fnExactValidSourcesUptoRow : OpenClaim := { program := "ythbofhlfggkolaa", sum := "b35cae83251d72ec89303e253765d17b5f08d40edfa639a3d9d3e1dd50534a60", func := "loop.example/g01021/laws.FnExactValidSources", spec := "fnExactValidSources", apart := false, narrowed := true }
def FnExactValidSourcesUptoSaid : Prop := fnExactValidSourcesUptoRow.holds Try.pinned (OpenSpec.upto fnExactValidSourcesSpec)

/-- 'laws.FnExactShareFor', WHERE WHAT IT READS IS OF BULK AT MOST 1048576: true; the input reads as it did. -/
def fnExactShareForUptoRow : OpenClaim := { program := "ythbofhlfggkolaa", sum := "b35cae83251d72ec89303e253765d17b5f08d40edfa639a3d9d3e1dd50534a60", func := "loop.example/g01021/laws.FnExactShareFor", spec := "fnExactShareFor", apart := false, narrowed := true }
def FnExactShareForUptoSaid : Prop := fnExactShareForUptoRow.holds Try.pinned (OpenSpec.upto fnExactShareForSpec)

/-- 'laws.FnExactDiluteFlow', WHERE WHAT IT READS IS OF BULK AT MOST 1048576: true; the input reads as it did. -/
def fnExactDiluteFlowUptoRow : OpenClaim := { program := "ythbofhlfggkolaa", sum := "b35cae83251d72ec89303e253765d17b5f08d40edfa639a3d9d3e1dd50534a60", func := "loop.example/g01021/laws.FnExactDiluteFlow", spec := "fnExactDiluteFlow", unfollowed := true, recurses := true, apart := false, narrowed := true }
def FnExactDiluteFlowUptoSaid : Prop := fnExactDiluteFlowUptoRow.holds Try.pinned (OpenSpec.upto fnExactDiluteFlowSpec)

/-- 'laws.FnExactGasOf', WHERE WHAT IT READS IS OF BULK AT MOST 1048576: true; the input reads as it did. -/
def fnExactGasOfUptoRow : OpenClaim := { program := "ythbofhlfggkolaa", sum := "b35cae83251d72ec89303e253765d17b5f08d40edfa639a3d9d3e1dd50534a60", func := "loop.example/g01021/laws.FnExactGasOf", spec := "fnExactGasOf", apart := false, narrowed := true }
def FnExactGasOfUptoSaid : Prop := fnExactGasOfUptoRow.holds Try.pinned (OpenSpec.upto fnExactGasOfSpec)

/-- 'laws.FnExactMixFlows', WHERE WHAT IT READS IS OF BULK AT MOST 1048576: true; the input reads as it did. -/
def fnExactMixFlowsUptoRow : OpenClaim := { program := "ythbofhlfggkolaa", sum := "b35cae83251d72ec89303e253765d17b5f08d40edfa639a3d9d3e1dd50534a60", func := "loop.example/g01021/laws.FnExactMixFlows", spec := "fnExactMixFlows", apart := false, narrowed := true }
def FnExactMixFlowsUptoSaid : Prop := fnExactMixFlowsUptoRow.holds Try.pinned (OpenSpec.upto fnExactMixFlowsSpec)

/-- 'laws.FnExactFewestMoves', WHERE WHAT IT READS IS OF BULK AT MOST 1048576: true; the input reads as it did. -/
def fnExactFewestMovesUptoRow : OpenClaim := { program := "ythbofhlfggkolaa", sum := "b35cae83251d72ec89303e253765d17b5f08d40edfa639a3d9d3e1dd50534a60", func := "loop.example/g01021/laws.FnExactFewestMoves", spec := "fnExactFewestMoves", unfollowed := true, recurses := true, apart := false, narrowed := true }
def FnExactFewestMovesUptoSaid : Prop := fnExactFewestMovesUptoRow.holds Try.pinned (OpenSpec.upto fnExactFewestMovesSpec)

end Rows
end Go.Proofs.Ythbofhlfggkolaa
