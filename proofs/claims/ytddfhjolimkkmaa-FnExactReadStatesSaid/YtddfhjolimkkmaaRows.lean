/-
  No cell of these rows narrows 'for every input' (looked for: loops, veiled, ifaces, maps, wideKeys, modest, calm, conditions, laid).
  DERIVED. THE GIVEN ROWS OF THIS SEAT. 14 by the template 'for every input the law returns true; each argument reads behind the call as it read before'; 0 by the template 'total and deterministic' (their statements: YtddfhjolimkkmaaTotals.lean).
  GIVEN WITH THE SEED: the statements are not yours to turn. If you find one false, say at which input.
  Laid BY PROGRAM, IN A SANDBOX (cutbox-rows.mjs): the forced cells as the released guide's own fill.sh prints them over the translation 0ba79f9f9bc43bca… (all of the seat's roots in one cut). By AI agents, Wed Nov 11 2026. No macro, syntax, notation, axiom, sorry.
-/
import Derived.Test.YtddfhjolimkkmaaChecked
import GoSem.Claim
import GoSem.ClaimJoined
import GoSem.ClaimMapViews
import Derived.JoinedTies
import Derived.KernelRfl
namespace Go.Proofs.Ytddfhjolimkkmaa
/- THE CELL 'sum', in the pinned program and in every row, IS THE sha256 OF THE DUMP (.gsa) THAT YtddfhjolimkkmaaProg.lean LOADS. Nothing in Lean hashes anything: it is a label: what it is worth is what the hold of that sum in a sandbox is worth. -/
noncomputable def Try.pinned : Pinned := { name := "ytddfhjolimkkmaa", sum := "0ba79f9f9bc43bca011869d65ee0666107f648bff5217b7c7a727c54522d19f5", checked := Try.checked }
namespace Rows
def none {H : Type} : Left H := { results := [], args := [] }

/-- 'laws.FnExactValidDoor': WHATEVER THE INPUT: true; the input reads as it did. -/
def fnExactValidDoorSpec : ChangeSpec := { name := "fnExactValidDoor", fn := fun _ => fun
  | [d] => { results := [.lit (.bool true)], args := [d] }
  | _ => none }
def fnExactValidDoorRow : OpenClaim := { program := "ytddfhjolimkkmaa", sum := "0ba79f9f9bc43bca011869d65ee0666107f648bff5217b7c7a727c54522d19f5", func := "loop.example/g01021/laws.FnExactValidDoor", spec := "fnExactValidDoor", apart := false }
def FnExactValidDoorSaid : Prop := fnExactValidDoorRow.holds Try.pinned (OpenSpec.ofChange fnExactValidDoorSpec)

/-- ITS FALSE NEIGHBOUR: 'it returns false'. Refute it at one input. -/
def fnExactValidDoorWrong : ChangeSpec := { name := "fnExactValidDoor", fn := fun _ => fun
  | [d] => { results := [.lit (.bool false)], args := [d] }
  | _ => none }
def FnExactValidDoorWrongFalsely : Prop := fnExactValidDoorRow.holds Try.pinned (OpenSpec.ofChange fnExactValidDoorWrong)

/-- 'laws.FnExactValidDoors': WHATEVER THE INPUT: true; the input reads as it did. -/
def fnExactValidDoorsSpec : ChangeSpec := { name := "fnExactValidDoors", fn := fun _ => fun
  | [d1, d2] => { results := [.lit (.bool true)], args := [d1, d2] }
  | _ => none }
def fnExactValidDoorsRow : OpenClaim := { program := "ytddfhjolimkkmaa", sum := "0ba79f9f9bc43bca011869d65ee0666107f648bff5217b7c7a727c54522d19f5", func := "loop.example/g01021/laws.FnExactValidDoors", spec := "fnExactValidDoors", apart := false }
def FnExactValidDoorsSaid : Prop := fnExactValidDoorsRow.holds Try.pinned (OpenSpec.ofChange fnExactValidDoorsSpec)

/-- ITS FALSE NEIGHBOUR: 'it returns false'. Refute it at one input. -/
def fnExactValidDoorsWrong : ChangeSpec := { name := "fnExactValidDoors", fn := fun _ => fun
  | [d1, d2] => { results := [.lit (.bool false)], args := [d1, d2] }
  | _ => none }
def FnExactValidDoorsWrongFalsely : Prop := fnExactValidDoorsRow.holds Try.pinned (OpenSpec.ofChange fnExactValidDoorsWrong)

/-- 'laws.FnExactOpenDoors': WHATEVER THE INPUT: true; the input reads as it did. -/
def fnExactOpenDoorsSpec : ChangeSpec := { name := "fnExactOpenDoors", fn := fun _ => fun
  | [d1, d2, d3] => { results := [.lit (.bool true)], args := [d1, d2, d3] }
  | _ => none }
def fnExactOpenDoorsRow : OpenClaim := { program := "ytddfhjolimkkmaa", sum := "0ba79f9f9bc43bca011869d65ee0666107f648bff5217b7c7a727c54522d19f5", func := "loop.example/g01021/laws.FnExactOpenDoors", spec := "fnExactOpenDoors", apart := false }
def FnExactOpenDoorsSaid : Prop := fnExactOpenDoorsRow.holds Try.pinned (OpenSpec.ofChange fnExactOpenDoorsSpec)

/-- ITS FALSE NEIGHBOUR: 'it returns false'. Refute it at one input. -/
def fnExactOpenDoorsWrong : ChangeSpec := { name := "fnExactOpenDoors", fn := fun _ => fun
  | [d1, d2, d3] => { results := [.lit (.bool false)], args := [d1, d2, d3] }
  | _ => none }
def FnExactOpenDoorsWrongFalsely : Prop := fnExactOpenDoorsRow.holds Try.pinned (OpenSpec.ofChange fnExactOpenDoorsWrong)

/-- 'laws.FnExactRegulatorFor': WHATEVER THE INPUT: true; the input reads as it did. -/
def fnExactRegulatorForSpec : ChangeSpec := { name := "fnExactRegulatorFor", fn := fun _ => fun
  | [d1, d2, d3] => { results := [.lit (.bool true)], args := [d1, d2, d3] }
  | _ => none }
def fnExactRegulatorForRow : OpenClaim := { program := "ytddfhjolimkkmaa", sum := "0ba79f9f9bc43bca011869d65ee0666107f648bff5217b7c7a727c54522d19f5", func := "loop.example/g01021/laws.FnExactRegulatorFor", spec := "fnExactRegulatorFor", unfollowed := true, recurses := true, apart := false }
def FnExactRegulatorForSaid : Prop := fnExactRegulatorForRow.holds Try.pinned (OpenSpec.ofChange fnExactRegulatorForSpec)

/-- ITS FALSE NEIGHBOUR: 'it returns false'. Refute it at one input. -/
def fnExactRegulatorForWrong : ChangeSpec := { name := "fnExactRegulatorFor", fn := fun _ => fun
  | [d1, d2, d3] => { results := [.lit (.bool false)], args := [d1, d2, d3] }
  | _ => none }
def FnExactRegulatorForWrongFalsely : Prop := fnExactRegulatorForRow.holds Try.pinned (OpenSpec.ofChange fnExactRegulatorForWrong)

/-- 'laws.FnExactShareBeside': WHATEVER THE INPUT: true; the input reads as it did. -/
def fnExactShareBesideSpec : ChangeSpec := { name := "fnExactShareBeside", fn := fun _ => fun
  | [d1, d2] => { results := [.lit (.bool true)], args := [d1, d2] }
  | _ => none }
def fnExactShareBesideRow : OpenClaim := { program := "ytddfhjolimkkmaa", sum := "0ba79f9f9bc43bca011869d65ee0666107f648bff5217b7c7a727c54522d19f5", func := "loop.example/g01021/laws.FnExactShareBeside", spec := "fnExactShareBeside", apart := false }
def FnExactShareBesideSaid : Prop := fnExactShareBesideRow.holds Try.pinned (OpenSpec.ofChange fnExactShareBesideSpec)

/-- ITS FALSE NEIGHBOUR: 'it returns false'. Refute it at one input. -/
def fnExactShareBesideWrong : ChangeSpec := { name := "fnExactShareBeside", fn := fun _ => fun
  | [d1, d2] => { results := [.lit (.bool false)], args := [d1, d2] }
  | _ => none }
def FnExactShareBesideWrongFalsely : Prop := fnExactShareBesideRow.holds Try.pinned (OpenSpec.ofChange fnExactShareBesideWrong)

/-- 'laws.FnExactRegulatorForShare': WHATEVER THE INPUT: true; the input reads as it did. -/
def fnExactRegulatorForShareSpec : ChangeSpec := { name := "fnExactRegulatorForShare", fn := fun _ => fun
  | [d1, d2, d3] => { results := [.lit (.bool true)], args := [d1, d2, d3] }
  | _ => none }
def fnExactRegulatorForShareRow : OpenClaim := { program := "ytddfhjolimkkmaa", sum := "0ba79f9f9bc43bca011869d65ee0666107f648bff5217b7c7a727c54522d19f5", func := "loop.example/g01021/laws.FnExactRegulatorForShare", spec := "fnExactRegulatorForShare", unfollowed := true, recurses := true, apart := false }
def FnExactRegulatorForShareSaid : Prop := fnExactRegulatorForShareRow.holds Try.pinned (OpenSpec.ofChange fnExactRegulatorForShareSpec)

/-- ITS FALSE NEIGHBOUR: 'it returns false'. Refute it at one input. -/
def fnExactRegulatorForShareWrong : ChangeSpec := { name := "fnExactRegulatorForShare", fn := fun _ => fun
  | [d1, d2, d3] => { results := [.lit (.bool false)], args := [d1, d2, d3] }
  | _ => none }
def FnExactRegulatorForShareWrongFalsely : Prop := fnExactRegulatorForShareRow.holds Try.pinned (OpenSpec.ofChange fnExactRegulatorForShareWrong)

/-- 'laws.FnExactValidLocks': WHATEVER THE INPUT: true; the input reads as it did. -/
def fnExactValidLocksSpec : ChangeSpec := { name := "fnExactValidLocks", fn := fun _ => fun
  | [d1, d2] => { results := [.lit (.bool true)], args := [d1, d2] }
  | _ => none }
def fnExactValidLocksRow : OpenClaim := { program := "ytddfhjolimkkmaa", sum := "0ba79f9f9bc43bca011869d65ee0666107f648bff5217b7c7a727c54522d19f5", func := "loop.example/g01021/laws.FnExactValidLocks", spec := "fnExactValidLocks", apart := false }
def FnExactValidLocksSaid : Prop := fnExactValidLocksRow.holds Try.pinned (OpenSpec.ofChange fnExactValidLocksSpec)

/-- ITS FALSE NEIGHBOUR: 'it returns false'. Refute it at one input. -/
def fnExactValidLocksWrong : ChangeSpec := { name := "fnExactValidLocks", fn := fun _ => fun
  | [d1, d2] => { results := [.lit (.bool false)], args := [d1, d2] }
  | _ => none }
def FnExactValidLocksWrongFalsely : Prop := fnExactValidLocksRow.holds Try.pinned (OpenSpec.ofChange fnExactValidLocksWrong)

/-- 'laws.FnExactAreLocked': WHATEVER THE INPUT: true; the input reads as it did. -/
def fnExactAreLockedSpec : ChangeSpec := { name := "fnExactAreLocked", fn := fun _ => fun
  | [d1, d2] => { results := [.lit (.bool true)], args := [d1, d2] }
  | _ => none }
def fnExactAreLockedRow : OpenClaim := { program := "ytddfhjolimkkmaa", sum := "0ba79f9f9bc43bca011869d65ee0666107f648bff5217b7c7a727c54522d19f5", func := "loop.example/g01021/laws.FnExactAreLocked", spec := "fnExactAreLocked", unfollowed := true, recurses := true, apart := false }
def FnExactAreLockedSaid : Prop := fnExactAreLockedRow.holds Try.pinned (OpenSpec.ofChange fnExactAreLockedSpec)

/-- ITS FALSE NEIGHBOUR: 'it returns false'. Refute it at one input. -/
def fnExactAreLockedWrong : ChangeSpec := { name := "fnExactAreLocked", fn := fun _ => fun
  | [d1, d2] => { results := [.lit (.bool false)], args := [d1, d2] }
  | _ => none }
def FnExactAreLockedWrongFalsely : Prop := fnExactAreLockedRow.holds Try.pinned (OpenSpec.ofChange fnExactAreLockedWrong)

/-- 'laws.FnExactCountStates': WHATEVER THE INPUT: true; the input reads as it did. -/
def fnExactCountStatesSpec : ChangeSpec := { name := "fnExactCountStates", fn := fun _ => fun
  | [d1, d2] => { results := [.lit (.bool true)], args := [d1, d2] }
  | _ => none }
def fnExactCountStatesRow : OpenClaim := { program := "ytddfhjolimkkmaa", sum := "0ba79f9f9bc43bca011869d65ee0666107f648bff5217b7c7a727c54522d19f5", func := "loop.example/g01021/laws.FnExactCountStates", spec := "fnExactCountStates", unfollowed := true, recurses := true, apart := false }
def FnExactCountStatesSaid : Prop := fnExactCountStatesRow.holds Try.pinned (OpenSpec.ofChange fnExactCountStatesSpec)

/-- ITS FALSE NEIGHBOUR: 'it returns false'. Refute it at one input. -/
def fnExactCountStatesWrong : ChangeSpec := { name := "fnExactCountStates", fn := fun _ => fun
  | [d1, d2] => { results := [.lit (.bool false)], args := [d1, d2] }
  | _ => none }
def FnExactCountStatesWrongFalsely : Prop := fnExactCountStatesRow.holds Try.pinned (OpenSpec.ofChange fnExactCountStatesWrong)

/-- 'laws.FnExactFewestMoves': WHATEVER THE INPUT: true; the input reads as it did. -/
def fnExactFewestMovesSpec : ChangeSpec := { name := "fnExactFewestMoves", fn := fun _ => fun
  | [d1, d2, d3] => { results := [.lit (.bool true)], args := [d1, d2, d3] }
  | _ => none }
def fnExactFewestMovesRow : OpenClaim := { program := "ytddfhjolimkkmaa", sum := "0ba79f9f9bc43bca011869d65ee0666107f648bff5217b7c7a727c54522d19f5", func := "loop.example/g01021/laws.FnExactFewestMoves", spec := "fnExactFewestMoves", unfollowed := true, recurses := true, apart := false }
def FnExactFewestMovesSaid : Prop := fnExactFewestMovesRow.holds Try.pinned (OpenSpec.ofChange fnExactFewestMovesSpec)

/-- ITS FALSE NEIGHBOUR: 'it returns false'. Refute it at one input. -/
def fnExactFewestMovesWrong : ChangeSpec := { name := "fnExactFewestMoves", fn := fun _ => fun
  | [d1, d2, d3] => { results := [.lit (.bool false)], args := [d1, d2, d3] }
  | _ => none }
def FnExactFewestMovesWrongFalsely : Prop := fnExactFewestMovesRow.holds Try.pinned (OpenSpec.ofChange fnExactFewestMovesWrong)

/-- 'laws.FnExactStatesText': WHATEVER THE INPUT: true; the input reads as it did. -/
def fnExactStatesTextSpec : ChangeSpec := { name := "fnExactStatesText", fn := fun _ => fun
  | [d] => { results := [.lit (.bool true)], args := [d] }
  | _ => none }
def fnExactStatesTextRow : OpenClaim := { program := "ytddfhjolimkkmaa", sum := "0ba79f9f9bc43bca011869d65ee0666107f648bff5217b7c7a727c54522d19f5", func := "loop.example/g01021/laws.FnExactStatesText", spec := "fnExactStatesText", apart := false }
def FnExactStatesTextSaid : Prop := fnExactStatesTextRow.holds Try.pinned (OpenSpec.ofChange fnExactStatesTextSpec)

/-- ITS FALSE NEIGHBOUR: 'it returns false'. Refute it at one input. -/
def fnExactStatesTextWrong : ChangeSpec := { name := "fnExactStatesText", fn := fun _ => fun
  | [d] => { results := [.lit (.bool false)], args := [d] }
  | _ => none }
def FnExactStatesTextWrongFalsely : Prop := fnExactStatesTextRow.holds Try.pinned (OpenSpec.ofChange fnExactStatesTextWrong)

/-- 'laws.FnExactReadStates': WHATEVER THE INPUT: true; the input reads as it did. -/
def fnExactReadStatesSpec : ChangeSpec := { name := "fnExactReadStates", fn := fun _ => fun
  | [d] => { results := [.lit (.bool true)], args := [d] }
  | _ => none }
def fnExactReadStatesRow : OpenClaim := { program := "ytddfhjolimkkmaa", sum := "0ba79f9f9bc43bca011869d65ee0666107f648bff5217b7c7a727c54522d19f5", func := "loop.example/g01021/laws.FnExactReadStates", spec := "fnExactReadStates", unfollowed := true, recurses := true, apart := false }
def FnExactReadStatesSaid : Prop := fnExactReadStatesRow.holds Try.pinned (OpenSpec.ofChange fnExactReadStatesSpec)

/-- ITS FALSE NEIGHBOUR: 'it returns false'. Refute it at one input. -/
def fnExactReadStatesWrong : ChangeSpec := { name := "fnExactReadStates", fn := fun _ => fun
  | [d] => { results := [.lit (.bool false)], args := [d] }
  | _ => none }
def FnExactReadStatesWrongFalsely : Prop := fnExactReadStatesRow.holds Try.pinned (OpenSpec.ofChange fnExactReadStatesWrong)

/-- 'laws.FnDoors': WHATEVER THE INPUT: true; the input reads as it did. -/
def fnDoorsSpec : ChangeSpec := { name := "fnDoors", fn := fun _ => fun
  | [d1, d2] => { results := [.lit (.bool true)], args := [d1, d2] }
  | _ => none }
def fnDoorsRow : OpenClaim := { program := "ytddfhjolimkkmaa", sum := "0ba79f9f9bc43bca011869d65ee0666107f648bff5217b7c7a727c54522d19f5", func := "loop.example/g01021/laws.FnDoors", spec := "fnDoors", unfollowed := true, recurses := true, apart := false }
def FnDoorsSaid : Prop := fnDoorsRow.holds Try.pinned (OpenSpec.ofChange fnDoorsSpec)

/-- ITS FALSE NEIGHBOUR: 'it returns false'. Refute it at one input. -/
def fnDoorsWrong : ChangeSpec := { name := "fnDoors", fn := fun _ => fun
  | [d1, d2] => { results := [.lit (.bool false)], args := [d1, d2] }
  | _ => none }
def FnDoorsWrongFalsely : Prop := fnDoorsRow.holds Try.pinned (OpenSpec.ofChange fnDoorsWrong)

/-- 'laws.FnLocks': WHATEVER THE INPUT: true; the input reads as it did. -/
def fnLocksSpec : ChangeSpec := { name := "fnLocks", fn := fun _ => fun
  | [d1, d2] => { results := [.lit (.bool true)], args := [d1, d2] }
  | _ => none }
def fnLocksRow : OpenClaim := { program := "ytddfhjolimkkmaa", sum := "0ba79f9f9bc43bca011869d65ee0666107f648bff5217b7c7a727c54522d19f5", func := "loop.example/g01021/laws.FnLocks", spec := "fnLocks", unfollowed := true, recurses := true, apart := false }
def FnLocksSaid : Prop := fnLocksRow.holds Try.pinned (OpenSpec.ofChange fnLocksSpec)

/-- ITS FALSE NEIGHBOUR: 'it returns false'. Refute it at one input. -/
def fnLocksWrong : ChangeSpec := { name := "fnLocks", fn := fun _ => fun
  | [d1, d2] => { results := [.lit (.bool false)], args := [d1, d2] }
  | _ => none }
def FnLocksWrongFalsely : Prop := fnLocksRow.holds Try.pinned (OpenSpec.ofChange fnLocksWrong)

/- THE SECOND FORM. 'bulk': how many values and letters a reading holds, each counted each time it is reached (what is shared counts as often as it is met; a slice's spare places count too). A statement '..UptoSaid' is the law's where the arguments, and the package variables that the reading takes, are together of bulk at most 1048576: NARROWER than '..Said'. Prove '..Said' where nothing that the law and all that it calls make is longer than what came in: it says more and counts as full. Else prove '..UptoSaid'. A law counts once. -/
mutual
def uptoBulk {H : Type} : DataW H → Nat
  | .lit (.string bytes) => bytes.length + 1
  | .lit _ => 1
  | .nil => 1
  | .ptr d => uptoBulk d + 1
  | .slice elems spare => uptoBulkAll elems + uptoBulkAll spare + 1
  | .agg parts => uptoBulkAll parts + 1
  | .iface _ d => uptoBulk d + 1
  | .map entries => uptoBulkEntries entries + 1
  | .held _ => 1
def uptoBulkAll {H : Type} : List (DataW H) → Nat
  | [] => 0
  | d :: r => uptoBulk d + uptoBulkAll r
def uptoBulkEntries {H : Type} : List (Lit × DataW H) → Nat
  | [] => 0
  | x :: r => uptoBulkEntry x + uptoBulkEntries r
def uptoBulkEntry {H : Type} : Lit × DataW H → Nat
  | (.string bytes, d) => bytes.length + uptoBulk d + 1
  | (_, d) => uptoBulk d + 1
 end
def uptoSmall : (H : Type) → List (DataW H) → Bool := fun _ ds => decide (uptoBulkAll ds ≤ 1048576)
def OpenSpec.upto (s : _root_.Go.ChangeSpec) : _root_.Go.OpenSpec := { _root_.Go.OpenSpec.ofChange s with cond := some uptoSmall }

/-- 'laws.FnExactValidDoor', WHERE WHAT IT READS IS OF BULK AT MOST 1048576: true; the input reads as it did. -/
def fnExactValidDoorUptoRow : OpenClaim := { program := "ytddfhjolimkkmaa", sum := "0ba79f9f9bc43bca011869d65ee0666107f648bff5217b7c7a727c54522d19f5", func := "loop.example/g01021/laws.FnExactValidDoor", spec := "fnExactValidDoor", apart := false, narrowed := true }
def FnExactValidDoorUptoSaid : Prop := fnExactValidDoorUptoRow.holds Try.pinned (OpenSpec.upto fnExactValidDoorSpec)

/-- 'laws.FnExactValidDoors', WHERE WHAT IT READS IS OF BULK AT MOST 1048576: true; the input reads as it did. -/
def fnExactValidDoorsUptoRow : OpenClaim := { program := "ytddfhjolimkkmaa", sum := "0ba79f9f9bc43bca011869d65ee0666107f648bff5217b7c7a727c54522d19f5", func := "loop.example/g01021/laws.FnExactValidDoors", spec := "fnExactValidDoors", apart := false, narrowed := true }
def FnExactValidDoorsUptoSaid : Prop := fnExactValidDoorsUptoRow.holds Try.pinned (OpenSpec.upto fnExactValidDoorsSpec)

/-- 'laws.FnExactOpenDoors', WHERE WHAT IT READS IS OF BULK AT MOST 1048576: true; the input reads as it did. -/
def fnExactOpenDoorsUptoRow : OpenClaim := { program := "ytddfhjolimkkmaa", sum := "0ba79f9f9bc43bca011869d65ee0666107f648bff5217b7c7a727c54522d19f5", func := "loop.example/g01021/laws.FnExactOpenDoors", spec := "fnExactOpenDoors", apart := false, narrowed := true }
def FnExactOpenDoorsUptoSaid : Prop := fnExactOpenDoorsUptoRow.holds Try.pinned (OpenSpec.upto fnExactOpenDoorsSpec)

/-- 'laws.FnExactRegulatorFor', WHERE WHAT IT READS IS OF BULK AT MOST 1048576: true; the input reads as it did. -/
def fnExactRegulatorForUptoRow : OpenClaim := { program := "ytddfhjolimkkmaa", sum := "0ba79f9f9bc43bca011869d65ee0666107f648bff5217b7c7a727c54522d19f5", func := "loop.example/g01021/laws.FnExactRegulatorFor", spec := "fnExactRegulatorFor", unfollowed := true, recurses := true, apart := false, narrowed := true }
def FnExactRegulatorForUptoSaid : Prop := fnExactRegulatorForUptoRow.holds Try.pinned (OpenSpec.upto fnExactRegulatorForSpec)

/-- 'laws.FnExactShareBeside', WHERE WHAT IT READS IS OF BULK AT MOST 1048576: true; the input reads as it did. -/
def fnExactShareBesideUptoRow : OpenClaim := { program := "ytddfhjolimkkmaa", sum := "0ba79f9f9bc43bca011869d65ee0666107f648bff5217b7c7a727c54522d19f5", func := "loop.example/g01021/laws.FnExactShareBeside", spec := "fnExactShareBeside", apart := false, narrowed := true }
def FnExactShareBesideUptoSaid : Prop := fnExactShareBesideUptoRow.holds Try.pinned (OpenSpec.upto fnExactShareBesideSpec)

/-- 'laws.FnExactRegulatorForShare', WHERE WHAT IT READS IS OF BULK AT MOST 1048576: true; the input reads as it did. -/
def fnExactRegulatorForShareUptoRow : OpenClaim := { program := "ytddfhjolimkkmaa", sum := "0ba79f9f9bc43bca011869d65ee0666107f648bff5217b7c7a727c54522d19f5", func := "loop.example/g01021/laws.FnExactRegulatorForShare", spec := "fnExactRegulatorForShare", unfollowed := true, recurses := true, apart := false, narrowed := true }
def FnExactRegulatorForShareUptoSaid : Prop := fnExactRegulatorForShareUptoRow.holds Try.pinned (OpenSpec.upto fnExactRegulatorForShareSpec)

/-- 'laws.FnExactValidLocks', WHERE WHAT IT READS IS OF BULK AT MOST 1048576: true; the input reads as it did. -/
def fnExactValidLocksUptoRow : OpenClaim := { program := "ytddfhjolimkkmaa", sum := "0ba79f9f9bc43bca011869d65ee0666107f648bff5217b7c7a727c54522d19f5", func := "loop.example/g01021/laws.FnExactValidLocks", spec := "fnExactValidLocks", apart := false, narrowed := true }
def FnExactValidLocksUptoSaid : Prop := fnExactValidLocksUptoRow.holds Try.pinned (OpenSpec.upto fnExactValidLocksSpec)

/-- 'laws.FnExactAreLocked', WHERE WHAT IT READS IS OF BULK AT MOST 1048576: true; the input reads as it did. -/
def fnExactAreLockedUptoRow : OpenClaim := { program := "ytddfhjolimkkmaa", sum := "0ba79f9f9bc43bca011869d65ee0666107f648bff5217b7c7a727c54522d19f5", func := "loop.example/g01021/laws.FnExactAreLocked", spec := "fnExactAreLocked", unfollowed := true, recurses := true, apart := false, narrowed := true }
def FnExactAreLockedUptoSaid : Prop := fnExactAreLockedUptoRow.holds Try.pinned (OpenSpec.upto fnExactAreLockedSpec)

/-- 'laws.FnExactCountStates', WHERE WHAT IT READS IS OF BULK AT MOST 1048576: true; the input reads as it did. -/
def fnExactCountStatesUptoRow : OpenClaim := { program := "ytddfhjolimkkmaa", sum := "0ba79f9f9bc43bca011869d65ee0666107f648bff5217b7c7a727c54522d19f5", func := "loop.example/g01021/laws.FnExactCountStates", spec := "fnExactCountStates", unfollowed := true, recurses := true, apart := false, narrowed := true }
def FnExactCountStatesUptoSaid : Prop := fnExactCountStatesUptoRow.holds Try.pinned (OpenSpec.upto fnExactCountStatesSpec)

/-- 'laws.FnExactFewestMoves', WHERE WHAT IT READS IS OF BULK AT MOST 1048576: true; the input reads as it did. -/
def fnExactFewestMovesUptoRow : OpenClaim := { program := "ytddfhjolimkkmaa", sum := "0ba79f9f9bc43bca011869d65ee0666107f648bff5217b7c7a727c54522d19f5", func := "loop.example/g01021/laws.FnExactFewestMoves", spec := "fnExactFewestMoves", unfollowed := true, recurses := true, apart := false, narrowed := true }
def FnExactFewestMovesUptoSaid : Prop := fnExactFewestMovesUptoRow.holds Try.pinned (OpenSpec.upto fnExactFewestMovesSpec)

/-- 'laws.FnExactStatesText', WHERE WHAT IT READS IS OF BULK AT MOST 1048576: true; the input reads as it did. -/
def fnExactStatesTextUptoRow : OpenClaim := { program := "ytddfhjolimkkmaa", sum := "0ba79f9f9bc43bca011869d65ee0666107f648bff5217b7c7a727c54522d19f5", func := "loop.example/g01021/laws.FnExactStatesText", spec := "fnExactStatesText", apart := false, narrowed := true }
def FnExactStatesTextUptoSaid : Prop := fnExactStatesTextUptoRow.holds Try.pinned (OpenSpec.upto fnExactStatesTextSpec)

/-- 'laws.FnExactReadStates', WHERE WHAT IT READS IS OF BULK AT MOST 1048576: true; the input reads as it did. -/
def fnExactReadStatesUptoRow : OpenClaim := { program := "ytddfhjolimkkmaa", sum := "0ba79f9f9bc43bca011869d65ee0666107f648bff5217b7c7a727c54522d19f5", func := "loop.example/g01021/laws.FnExactReadStates", spec := "fnExactReadStates", unfollowed := true, recurses := true, apart := false, narrowed := true }
def FnExactReadStatesUptoSaid : Prop := fnExactReadStatesUptoRow.holds Try.pinned (OpenSpec.upto fnExactReadStatesSpec)

/-- 'laws.FnDoors', WHERE WHAT IT READS IS OF BULK AT MOST 1048576: true; the input reads as it did. -/
def fnDoorsUptoRow : OpenClaim := { program := "ytddfhjolimkkmaa", sum := "0ba79f9f9bc43bca011869d65ee0666107f648bff5217b7c7a727c54522d19f5", func := "loop.example/g01021/laws.FnDoors", spec := "fnDoors", unfollowed := true, recurses := true, apart := false, narrowed := true }
def FnDoorsUptoSaid : Prop := fnDoorsUptoRow.holds Try.pinned (OpenSpec.upto fnDoorsSpec)

/-- 'laws.FnLocks', WHERE WHAT IT READS IS OF BULK AT MOST 1048576: true; the input reads as it did. -/
def fnLocksUptoRow : OpenClaim := { program := "ytddfhjolimkkmaa", sum := "0ba79f9f9bc43bca011869d65ee0666107f648bff5217b7c7a727c54522d19f5", func := "loop.example/g01021/laws.FnLocks", spec := "fnLocks", unfollowed := true, recurses := true, apart := false, narrowed := true }
def FnLocksUptoSaid : Prop := fnLocksUptoRow.holds Try.pinned (OpenSpec.upto fnLocksSpec)

end Rows
end Go.Proofs.Ytddfhjolimkkmaa
