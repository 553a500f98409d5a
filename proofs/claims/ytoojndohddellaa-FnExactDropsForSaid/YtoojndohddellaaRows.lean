/-
  No cell of these rows narrows 'for every input' (looked for: loops, veiled, ifaces, maps, wideKeys, modest, calm, conditions, laid).
  DERIVED. THE GIVEN ROWS OF THIS SEAT. 12 by the template 'for every input the law returns true; each argument reads behind the call as it read before'; 0 by the template 'total and deterministic' (their statements: YtoojndohddellaaTotals.lean).
  GIVEN WITH THE SEED: the statements are not yours to turn. If you find one false, say at which input.
  Laid BY PROGRAM, IN A SANDBOX (cutbox-rows.mjs): the forced cells as the released guide's own fill.sh prints them over the translation a35a3ef37c91862c… (all of the seat's roots in one cut). By AI agents, Wed Nov 11 2026. No macro, syntax, notation, axiom, sorry.
-/
import Derived.Test.YtoojndohddellaaChecked
import GoSem.Claim
import GoSem.ClaimJoined
import GoSem.ClaimMapViews
import Derived.JoinedTies
import Derived.KernelRfl
namespace Go.Proofs.Ytoojndohddellaa
/- THE CELL 'sum', in the pinned program and in every row, IS THE sha256 OF THE DUMP (.gsa) THAT YtoojndohddellaaProg.lean LOADS. Nothing in Lean hashes anything: it is a label: what it is worth is what the hold of that sum in a sandbox is worth. -/
noncomputable def Try.pinned : Pinned := { name := "ytoojndohddellaa", sum := "a35a3ef37c91862c3d5adc8a6d3bb01b7f18bc428cfebc6b79eb92f6d61f625a", checked := Try.checked }
namespace Rows
def none {H : Type} : Left H := { results := [], args := [] }

/-- 'laws.FnExactValidDuct': WHATEVER THE INPUT: true; the input reads as it did. -/
def fnExactValidDuctSpec : ChangeSpec := { name := "fnExactValidDuct", fn := fun _ => fun
  | [d] => { results := [.lit (.bool true)], args := [d] }
  | _ => none }
def fnExactValidDuctRow : OpenClaim := { program := "ytoojndohddellaa", sum := "a35a3ef37c91862c3d5adc8a6d3bb01b7f18bc428cfebc6b79eb92f6d61f625a", func := "loop.example/g01021/laws.FnExactValidDuct", spec := "fnExactValidDuct", apart := false }
def FnExactValidDuctSaid : Prop := fnExactValidDuctRow.holds Try.pinned (OpenSpec.ofChange fnExactValidDuctSpec)

/-- ITS FALSE NEIGHBOUR: 'it returns false'. Refute it at one input. -/
def fnExactValidDuctWrong : ChangeSpec := { name := "fnExactValidDuct", fn := fun _ => fun
  | [d] => { results := [.lit (.bool false)], args := [d] }
  | _ => none }
def FnExactValidDuctWrongFalsely : Prop := fnExactValidDuctRow.holds Try.pinned (OpenSpec.ofChange fnExactValidDuctWrong)

/-- 'laws.FnExactJointsOf': WHATEVER THE INPUT: true; the input reads as it did. -/
def fnExactJointsOfSpec : ChangeSpec := { name := "fnExactJointsOf", fn := fun _ => fun
  | [d] => { results := [.lit (.bool true)], args := [d] }
  | _ => none }
def fnExactJointsOfRow : OpenClaim := { program := "ytoojndohddellaa", sum := "a35a3ef37c91862c3d5adc8a6d3bb01b7f18bc428cfebc6b79eb92f6d61f625a", func := "loop.example/g01021/laws.FnExactJointsOf", spec := "fnExactJointsOf", apart := false }
def FnExactJointsOfSaid : Prop := fnExactJointsOfRow.holds Try.pinned (OpenSpec.ofChange fnExactJointsOfSpec)

/-- ITS FALSE NEIGHBOUR: 'it returns false'. Refute it at one input. -/
def fnExactJointsOfWrong : ChangeSpec := { name := "fnExactJointsOf", fn := fun _ => fun
  | [d] => { results := [.lit (.bool false)], args := [d] }
  | _ => none }
def FnExactJointsOfWrongFalsely : Prop := fnExactJointsOfRow.holds Try.pinned (OpenSpec.ofChange fnExactJointsOfWrong)

/-- 'laws.FnExactFlowAfter': WHATEVER THE INPUT: true; the input reads as it did. -/
def fnExactFlowAfterSpec : ChangeSpec := { name := "fnExactFlowAfter", fn := fun _ => fun
  | [d1, d2, d3] => { results := [.lit (.bool true)], args := [d1, d2, d3] }
  | _ => none }
def fnExactFlowAfterRow : OpenClaim := { program := "ytoojndohddellaa", sum := "a35a3ef37c91862c3d5adc8a6d3bb01b7f18bc428cfebc6b79eb92f6d61f625a", func := "loop.example/g01021/laws.FnExactFlowAfter", spec := "fnExactFlowAfter", apart := false }
def FnExactFlowAfterSaid : Prop := fnExactFlowAfterRow.holds Try.pinned (OpenSpec.ofChange fnExactFlowAfterSpec)

/-- ITS FALSE NEIGHBOUR: 'it returns false'. Refute it at one input. -/
def fnExactFlowAfterWrong : ChangeSpec := { name := "fnExactFlowAfter", fn := fun _ => fun
  | [d1, d2, d3] => { results := [.lit (.bool false)], args := [d1, d2, d3] }
  | _ => none }
def FnExactFlowAfterWrongFalsely : Prop := fnExactFlowAfterRow.holds Try.pinned (OpenSpec.ofChange fnExactFlowAfterWrong)

/-- 'laws.FnExactFlowAtEnd': WHATEVER THE INPUT: true; the input reads as it did. -/
def fnExactFlowAtEndSpec : ChangeSpec := { name := "fnExactFlowAtEnd", fn := fun _ => fun
  | [d1, d2] => { results := [.lit (.bool true)], args := [d1, d2] }
  | _ => none }
def fnExactFlowAtEndRow : OpenClaim := { program := "ytoojndohddellaa", sum := "a35a3ef37c91862c3d5adc8a6d3bb01b7f18bc428cfebc6b79eb92f6d61f625a", func := "loop.example/g01021/laws.FnExactFlowAtEnd", spec := "fnExactFlowAtEnd", apart := false }
def FnExactFlowAtEndSaid : Prop := fnExactFlowAtEndRow.holds Try.pinned (OpenSpec.ofChange fnExactFlowAtEndSpec)

/-- ITS FALSE NEIGHBOUR: 'it returns false'. Refute it at one input. -/
def fnExactFlowAtEndWrong : ChangeSpec := { name := "fnExactFlowAtEnd", fn := fun _ => fun
  | [d1, d2] => { results := [.lit (.bool false)], args := [d1, d2] }
  | _ => none }
def FnExactFlowAtEndWrongFalsely : Prop := fnExactFlowAtEndRow.holds Try.pinned (OpenSpec.ofChange fnExactFlowAtEndWrong)

/-- 'laws.FnExactFlowNeeded': WHATEVER THE INPUT: true; the input reads as it did. -/
def fnExactFlowNeededSpec : ChangeSpec := { name := "fnExactFlowNeeded", fn := fun _ => fun
  | [d1, d2] => { results := [.lit (.bool true)], args := [d1, d2] }
  | _ => none }
def fnExactFlowNeededRow : OpenClaim := { program := "ytoojndohddellaa", sum := "a35a3ef37c91862c3d5adc8a6d3bb01b7f18bc428cfebc6b79eb92f6d61f625a", func := "loop.example/g01021/laws.FnExactFlowNeeded", spec := "fnExactFlowNeeded", unfollowed := true, recurses := true, apart := false }
def FnExactFlowNeededSaid : Prop := fnExactFlowNeededRow.holds Try.pinned (OpenSpec.ofChange fnExactFlowNeededSpec)

/-- ITS FALSE NEIGHBOUR: 'it returns false'. Refute it at one input. -/
def fnExactFlowNeededWrong : ChangeSpec := { name := "fnExactFlowNeeded", fn := fun _ => fun
  | [d1, d2] => { results := [.lit (.bool false)], args := [d1, d2] }
  | _ => none }
def FnExactFlowNeededWrongFalsely : Prop := fnExactFlowNeededRow.holds Try.pinned (OpenSpec.ofChange fnExactFlowNeededWrong)

/-- 'laws.FnExactLongestDuct': WHATEVER THE INPUT: true; the input reads as it did. -/
def fnExactLongestDuctSpec : ChangeSpec := { name := "fnExactLongestDuct", fn := fun _ => fun
  | [d1, d2, d3] => { results := [.lit (.bool true)], args := [d1, d2, d3] }
  | _ => none }
def fnExactLongestDuctRow : OpenClaim := { program := "ytoojndohddellaa", sum := "a35a3ef37c91862c3d5adc8a6d3bb01b7f18bc428cfebc6b79eb92f6d61f625a", func := "loop.example/g01021/laws.FnExactLongestDuct", spec := "fnExactLongestDuct", apart := false }
def FnExactLongestDuctSaid : Prop := fnExactLongestDuctRow.holds Try.pinned (OpenSpec.ofChange fnExactLongestDuctSpec)

/-- ITS FALSE NEIGHBOUR: 'it returns false'. Refute it at one input. -/
def fnExactLongestDuctWrong : ChangeSpec := { name := "fnExactLongestDuct", fn := fun _ => fun
  | [d1, d2, d3] => { results := [.lit (.bool false)], args := [d1, d2, d3] }
  | _ => none }
def FnExactLongestDuctWrongFalsely : Prop := fnExactLongestDuctRow.holds Try.pinned (OpenSpec.ofChange fnExactLongestDuctWrong)

/-- 'laws.FnExactLeakAt': WHATEVER THE INPUT: true; the input reads as it did. -/
def fnExactLeakAtSpec : ChangeSpec := { name := "fnExactLeakAt", fn := fun _ => fun
  | [d] => { results := [.lit (.bool true)], args := [d] }
  | _ => none }
def fnExactLeakAtRow : OpenClaim := { program := "ytoojndohddellaa", sum := "a35a3ef37c91862c3d5adc8a6d3bb01b7f18bc428cfebc6b79eb92f6d61f625a", func := "loop.example/g01021/laws.FnExactLeakAt", spec := "fnExactLeakAt", unfollowed := true, recurses := true, apart := false }
def FnExactLeakAtSaid : Prop := fnExactLeakAtRow.holds Try.pinned (OpenSpec.ofChange fnExactLeakAtSpec)

/-- ITS FALSE NEIGHBOUR: 'it returns false'. Refute it at one input. -/
def fnExactLeakAtWrong : ChangeSpec := { name := "fnExactLeakAt", fn := fun _ => fun
  | [d] => { results := [.lit (.bool false)], args := [d] }
  | _ => none }
def FnExactLeakAtWrongFalsely : Prop := fnExactLeakAtRow.holds Try.pinned (OpenSpec.ofChange fnExactLeakAtWrong)

/-- 'laws.FnExactLossesOf': WHATEVER THE INPUT: true; the input reads as it did. -/
def fnExactLossesOfSpec : ChangeSpec := { name := "fnExactLossesOf", fn := fun _ => fun
  | [d] => { results := [.lit (.bool true)], args := [d] }
  | _ => none }
def fnExactLossesOfRow : OpenClaim := { program := "ytoojndohddellaa", sum := "a35a3ef37c91862c3d5adc8a6d3bb01b7f18bc428cfebc6b79eb92f6d61f625a", func := "loop.example/g01021/laws.FnExactLossesOf", spec := "fnExactLossesOf", apart := false }
def FnExactLossesOfSaid : Prop := fnExactLossesOfRow.holds Try.pinned (OpenSpec.ofChange fnExactLossesOfSpec)

/-- ITS FALSE NEIGHBOUR: 'it returns false'. Refute it at one input. -/
def fnExactLossesOfWrong : ChangeSpec := { name := "fnExactLossesOf", fn := fun _ => fun
  | [d] => { results := [.lit (.bool false)], args := [d] }
  | _ => none }
def FnExactLossesOfWrongFalsely : Prop := fnExactLossesOfRow.holds Try.pinned (OpenSpec.ofChange fnExactLossesOfWrong)

/-- 'laws.FnExactMeanLoss': WHATEVER THE INPUT: true; the input reads as it did. -/
def fnExactMeanLossSpec : ChangeSpec := { name := "fnExactMeanLoss", fn := fun _ => fun
  | [d] => { results := [.lit (.bool true)], args := [d] }
  | _ => none }
def fnExactMeanLossRow : OpenClaim := { program := "ytoojndohddellaa", sum := "a35a3ef37c91862c3d5adc8a6d3bb01b7f18bc428cfebc6b79eb92f6d61f625a", func := "loop.example/g01021/laws.FnExactMeanLoss", spec := "fnExactMeanLoss", apart := false }
def FnExactMeanLossSaid : Prop := fnExactMeanLossRow.holds Try.pinned (OpenSpec.ofChange fnExactMeanLossSpec)

/-- ITS FALSE NEIGHBOUR: 'it returns false'. Refute it at one input. -/
def fnExactMeanLossWrong : ChangeSpec := { name := "fnExactMeanLoss", fn := fun _ => fun
  | [d] => { results := [.lit (.bool false)], args := [d] }
  | _ => none }
def FnExactMeanLossWrongFalsely : Prop := fnExactMeanLossRow.holds Try.pinned (OpenSpec.ofChange fnExactMeanLossWrong)

/-- 'laws.FnExactMendJoint': WHATEVER THE INPUT: true; the input reads as it did. -/
def fnExactMendJointSpec : ChangeSpec := { name := "fnExactMendJoint", fn := fun _ => fun
  | [d1, d2] => { results := [.lit (.bool true)], args := [d1, d2] }
  | _ => none }
def fnExactMendJointRow : OpenClaim := { program := "ytoojndohddellaa", sum := "a35a3ef37c91862c3d5adc8a6d3bb01b7f18bc428cfebc6b79eb92f6d61f625a", func := "loop.example/g01021/laws.FnExactMendJoint", spec := "fnExactMendJoint", apart := false }
def FnExactMendJointSaid : Prop := fnExactMendJointRow.holds Try.pinned (OpenSpec.ofChange fnExactMendJointSpec)

/-- ITS FALSE NEIGHBOUR: 'it returns false'. Refute it at one input. -/
def fnExactMendJointWrong : ChangeSpec := { name := "fnExactMendJoint", fn := fun _ => fun
  | [d1, d2] => { results := [.lit (.bool false)], args := [d1, d2] }
  | _ => none }
def FnExactMendJointWrongFalsely : Prop := fnExactMendJointRow.holds Try.pinned (OpenSpec.ofChange fnExactMendJointWrong)

/-- 'laws.FnExactDropsFor': WHATEVER THE INPUT: true; the input reads as it did. -/
def fnExactDropsForSpec : ChangeSpec := { name := "fnExactDropsFor", fn := fun _ => fun
  | [d1, d2, d3] => { results := [.lit (.bool true)], args := [d1, d2, d3] }
  | _ => none }
def fnExactDropsForRow : OpenClaim := { program := "ytoojndohddellaa", sum := "a35a3ef37c91862c3d5adc8a6d3bb01b7f18bc428cfebc6b79eb92f6d61f625a", func := "loop.example/g01021/laws.FnExactDropsFor", spec := "fnExactDropsFor", apart := false }
def FnExactDropsForSaid : Prop := fnExactDropsForRow.holds Try.pinned (OpenSpec.ofChange fnExactDropsForSpec)

/-- ITS FALSE NEIGHBOUR: 'it returns false'. Refute it at one input. -/
def fnExactDropsForWrong : ChangeSpec := { name := "fnExactDropsFor", fn := fun _ => fun
  | [d1, d2, d3] => { results := [.lit (.bool false)], args := [d1, d2, d3] }
  | _ => none }
def FnExactDropsForWrongFalsely : Prop := fnExactDropsForRow.holds Try.pinned (OpenSpec.ofChange fnExactDropsForWrong)

/-- 'laws.FnExactBoosterPower': WHATEVER THE INPUT: true; the input reads as it did. -/
def fnExactBoosterPowerSpec : ChangeSpec := { name := "fnExactBoosterPower", fn := fun _ => fun
  | [d1, d2, d3] => { results := [.lit (.bool true)], args := [d1, d2, d3] }
  | _ => none }
def fnExactBoosterPowerRow : OpenClaim := { program := "ytoojndohddellaa", sum := "a35a3ef37c91862c3d5adc8a6d3bb01b7f18bc428cfebc6b79eb92f6d61f625a", func := "loop.example/g01021/laws.FnExactBoosterPower", spec := "fnExactBoosterPower", apart := false }
def FnExactBoosterPowerSaid : Prop := fnExactBoosterPowerRow.holds Try.pinned (OpenSpec.ofChange fnExactBoosterPowerSpec)

/-- ITS FALSE NEIGHBOUR: 'it returns false'. Refute it at one input. -/
def fnExactBoosterPowerWrong : ChangeSpec := { name := "fnExactBoosterPower", fn := fun _ => fun
  | [d1, d2, d3] => { results := [.lit (.bool false)], args := [d1, d2, d3] }
  | _ => none }
def FnExactBoosterPowerWrongFalsely : Prop := fnExactBoosterPowerRow.holds Try.pinned (OpenSpec.ofChange fnExactBoosterPowerWrong)

/- THE SECOND FORM. 'bulk': how many values and letters a reading holds, each counted each time it is reached (what is shared counts as often as it is met; a slice's spare places count too). A statement '..UptoSaid' is the law's where the arguments, and the package variables that the reading takes, are together of bulk at most 1048576: NARROWER than '..Said'. Prove '..Said' where nothing that the law and all that it calls make is longer than what came in: it says more and counts as full. Else prove '..UptoSaid'. A law counts once. -/
mutual
def uptoBulk {H : Type} : DataW H → Nat
  | .lit (.string bytes) => bytes.length + 1
  | .lit _ => 1
  | .nil => 1
  | .ptr d => uptoBulk d + 1
  | .slice elems spare => uptoBulkAll elems + uptoBulkAll spare + 1
  | .agg parts => uptoBulkAll parts + 1
  | .iface _ d => uptoBulk d + 1
  | .map entries => uptoBulkEntries entries + 1
  | .held _ => 1
def uptoBulkAll {H : Type} : List (DataW H) → Nat
  | [] => 0
  | d :: r => uptoBulk d + uptoBulkAll r
def uptoBulkEntries {H : Type} : List (Lit × DataW H) → Nat
  | [] => 0
  | x :: r => uptoBulkEntry x + uptoBulkEntries r
def uptoBulkEntry {H : Type} : Lit × DataW H → Nat
  | (.string bytes, d) => bytes.length + uptoBulk d + 1
  | (_, d) => uptoBulk d + 1
 end
def uptoSmall : (H : Type) → List (DataW H) → Bool := fun _ ds => decide (uptoBulkAll ds ≤ 1048576)
def OpenSpec.upto (s : _root_.Go.ChangeSpec) : _root_.Go.OpenSpec := { _root_.Go.OpenSpec.ofChange s with cond := some uptoSmall }

/-- 'laws.FnExactValidDuct', WHERE WHAT IT READS IS OF BULK AT MOST 1048576: true; the input reads as it did. -/
def fnExactValidDuctUptoRow : OpenClaim := { program := "ytoojndohddellaa", sum := "a35a3ef37c91862c3d5adc8a6d3bb01b7f18bc428cfebc6b79eb92f6d61f625a", func := "loop.example/g01021/laws.FnExactValidDuct", spec := "fnExactValidDuct", apart := false, narrowed := true }
def FnExactValidDuctUptoSaid : Prop := fnExactValidDuctUptoRow.holds Try.pinned (OpenSpec.upto fnExactValidDuctSpec)

/-- 'laws.FnExactJointsOf', WHERE WHAT IT READS IS OF BULK AT MOST 1048576: true; the input reads as it did. -/
def fnExactJointsOfUptoRow : OpenClaim := { program := "ytoojndohddellaa", sum := "a35a3ef37c91862c3d5adc8a6d3bb01b7f18bc428cfebc6b79eb92f6d61f625a", func := "loop.example/g01021/laws.FnExactJointsOf", spec := "fnExactJointsOf", apart := false, narrowed := true }
def FnExactJointsOfUptoSaid : Prop := fnExactJointsOfUptoRow.holds Try.pinned (OpenSpec.upto fnExactJointsOfSpec)

/-- 'laws.FnExactFlowAfter', WHERE WHAT IT READS IS OF BULK AT MOST 1048576: true; the input reads as it did. -/
def fnExactFlowAfterUptoRow : OpenClaim := { program := "ytoojndohddellaa", sum := "a35a3ef37c91862c3d5adc8a6d3bb01b7f18bc428cfebc6b79eb92f6d61f625a", func := "loop.example/g01021/laws.FnExactFlowAfter", spec := "fnExactFlowAfter", apart := false, narrowed := true }
def FnExactFlowAfterUptoSaid : Prop := fnExactFlowAfterUptoRow.holds Try.pinned (OpenSpec.upto fnExactFlowAfterSpec)

/-- 'laws.FnExactFlowAtEnd', WHERE WHAT IT READS IS OF BULK AT MOST 1048576: true; the input reads as it did. -/
def fnExactFlowAtEndUptoRow : OpenClaim := { program := "ytoojndohddellaa", sum := "a35a3ef37c91862c3d5adc8a6d3bb01b7f18bc428cfebc6b79eb92f6d61f625a", func := "loop.example/g01021/laws.FnExactFlowAtEnd", spec := "fnExactFlowAtEnd", apart := false, narrowed := true }
def FnExactFlowAtEndUptoSaid : Prop := fnExactFlowAtEndUptoRow.holds Try.pinned (OpenSpec.upto fnExactFlowAtEndSpec)

/-- 'laws.FnExactFlowNeeded', WHERE WHAT IT READS IS OF BULK AT MOST 1048576: true; the input reads as it did. -/
def fnExactFlowNeededUptoRow : OpenClaim := { program := "ytoojndohddellaa", sum := "a35a3ef37c91862c3d5adc8a6d3bb01b7f18bc428cfebc6b79eb92f6d61f625a", func := "loop.example/g01021/laws.FnExactFlowNeeded", spec := "fnExactFlowNeeded", unfollowed := true, recurses := true, apart := false, narrowed := true }
def FnExactFlowNeededUptoSaid : Prop := fnExactFlowNeededUptoRow.holds Try.pinned (OpenSpec.upto fnExactFlowNeededSpec)

/-- 'laws.FnExactLongestDuct', WHERE WHAT IT READS IS OF BULK AT MOST 1048576: true; the input reads as it did. -/
def fnExactLongestDuctUptoRow : OpenClaim := { program := "ytoojndohddellaa", sum := "a35a3ef37c91862c3d5adc8a6d3bb01b7f18bc428cfebc6b79eb92f6d61f625a", func := "loop.example/g01021/laws.FnExactLongestDuct", spec := "fnExactLongestDuct", apart := false, narrowed := true }
def FnExactLongestDuctUptoSaid : Prop := fnExactLongestDuctUptoRow.holds Try.pinned (OpenSpec.upto fnExactLongestDuctSpec)

/-- 'laws.FnExactLeakAt', WHERE WHAT IT READS IS OF BULK AT MOST 1048576: true; the input reads as it did. -/
def fnExactLeakAtUptoRow : OpenClaim := { program := "ytoojndohddellaa", sum := "a35a3ef37c91862c3d5adc8a6d3bb01b7f18bc428cfebc6b79eb92f6d61f625a", func := "loop.example/g01021/laws.FnExactLeakAt", spec := "fnExactLeakAt", unfollowed := true, recurses := true, apart := false, narrowed := true }
def FnExactLeakAtUptoSaid : Prop := fnExactLeakAtUptoRow.holds Try.pinned (OpenSpec.upto fnExactLeakAtSpec)

/-- 'laws.FnExactLossesOf', WHERE WHAT IT READS IS OF BULK AT MOST 1048576: true; the input reads as it did. -/
def fnExactLossesOfUptoRow : OpenClaim := { program := "ytoojndohddellaa", sum := "a35a3ef37c91862c3d5adc8a6d3bb01b7f18bc428cfebc6b79eb92f6d61f625a", func := "loop.example/g01021/laws.FnExactLossesOf", spec := "fnExactLossesOf", apart := false, narrowed := true }
def FnExactLossesOfUptoSaid : Prop := fnExactLossesOfUptoRow.holds Try.pinned (OpenSpec.upto fnExactLossesOfSpec)

/-- 'laws.FnExactMeanLoss', WHERE WHAT IT READS IS OF BULK AT MOST 1048576: true; the input reads as it did. -/
def fnExactMeanLossUptoRow : OpenClaim := { program := "ytoojndohddellaa", sum := "a35a3ef37c91862c3d5adc8a6d3bb01b7f18bc428cfebc6b79eb92f6d61f625a", func := "loop.example/g01021/laws.FnExactMeanLoss", spec := "fnExactMeanLoss", apart := false, narrowed := true }
def FnExactMeanLossUptoSaid : Prop := fnExactMeanLossUptoRow.holds Try.pinned (OpenSpec.upto fnExactMeanLossSpec)

/-- 'laws.FnExactMendJoint', WHERE WHAT IT READS IS OF BULK AT MOST 1048576: true; the input reads as it did. -/
def fnExactMendJointUptoRow : OpenClaim := { program := "ytoojndohddellaa", sum := "a35a3ef37c91862c3d5adc8a6d3bb01b7f18bc428cfebc6b79eb92f6d61f625a", func := "loop.example/g01021/laws.FnExactMendJoint", spec := "fnExactMendJoint", apart := false, narrowed := true }
def FnExactMendJointUptoSaid : Prop := fnExactMendJointUptoRow.holds Try.pinned (OpenSpec.upto fnExactMendJointSpec)

/-- 'laws.FnExactDropsFor', WHERE WHAT IT READS IS OF BULK AT MOST 1048576: true; the input reads as it did. -/
def fnExactDropsForUptoRow : OpenClaim := { program := "ytoojndohddellaa", sum := "a35a3ef37c91862c3d5adc8a6d3bb01b7f18bc428cfebc6b79eb92f6d61f625a", func := "loop.example/g01021/laws.FnExactDropsFor", spec := "fnExactDropsFor", apart := false, narrowed := true }
def FnExactDropsForUptoSaid : Prop := fnExactDropsForUptoRow.holds Try.pinned (OpenSpec.upto fnExactDropsForSpec)

/-- 'laws.FnExactBoosterPower', WHERE WHAT IT READS IS OF BULK AT MOST 1048576: true; the input reads as it did. -/
def fnExactBoosterPowerUptoRow : OpenClaim := { program := "ytoojndohddellaa", sum := "a35a3ef37c91862c3d5adc8a6d3bb01b7f18bc428cfebc6b79eb92f6d61f625a", func := "loop.example/g01021/laws.FnExactBoosterPower", spec := "fnExactBoosterPower", apart := false, narrowed := true }
def FnExactBoosterPowerUptoSaid : Prop := fnExactBoosterPowerUptoRow.holds Try.pinned (OpenSpec.upto fnExactBoosterPowerSpec)

end Rows
end Go.Proofs.Ytoojndohddellaa
