/-
  No cell of these rows narrows 'for every input' (looked for: loops, veiled, ifaces, maps, wideKeys, modest, calm, conditions, laid).
  DERIVED. THE GIVEN ROWS OF THIS SEAT. 10 by the template 'for every input the law returns true; each argument reads behind the call as it read before'; 0 by the template 'total and deterministic' (their statements: YtnlkikdgffaeeaaTotals.lean).
  GIVEN WITH THE SEED: the statements are not yours to turn. If you find one false, say at which input.
  Laid BY PROGRAM, IN A SANDBOX (cutbox-rows.mjs): the forced cells as the released guide's own fill.sh prints them over the translation 3e8f32196f5719b7… (all of the seat's roots in one cut). By AI agents, Wed Nov 11 2026. No macro, syntax, notation, axiom, sorry.
-/
import Derived.Test.YtnlkikdgffaeeaaChecked
import GoSem.Claim
import GoSem.ClaimJoined
import GoSem.ClaimMapViews
import Derived.JoinedTies
import Derived.KernelRfl
namespace Go.Proofs.Ytnlkikdgffaeeaa
/- THE CELL 'sum', in the pinned program and in every row, IS THE sha256 OF THE DUMP (.gsa) THAT YtnlkikdgffaeeaaProg.lean LOADS. Nothing in Lean hashes anything: it is a label: what it is worth is what the hold of that sum in a sandbox is worth. -/
noncomputable def Try.pinned : Pinned := { name := "ytnlkikdgffaeeaa", sum := "3e8f32196f5719b7a1863581b46f823ee723d2b2dad62cc8238511880ecf5cdf", checked := Try.checked }
namespace Rows
def none {H : Type} : Left H := { results := [], args := [] }

/-- 'laws.FnExactValidDusting': WHATEVER THE INPUT: true; the input reads as it did. -/
def fnExactValidDustingSpec : ChangeSpec := { name := "fnExactValidDusting", fn := fun _ => fun
  | [d] => { results := [.lit (.bool true)], args := [d] }
  | _ => none }
def fnExactValidDustingRow : OpenClaim := { program := "ytnlkikdgffaeeaa", sum := "3e8f32196f5719b7a1863581b46f823ee723d2b2dad62cc8238511880ecf5cdf", func := "loop.example/g01021/laws.FnExactValidDusting", spec := "fnExactValidDusting", apart := false }
def FnExactValidDustingSaid : Prop := fnExactValidDustingRow.holds Try.pinned (OpenSpec.ofChange fnExactValidDustingSpec)

/-- ITS FALSE NEIGHBOUR: 'it returns false'. Refute it at one input. -/
def fnExactValidDustingWrong : ChangeSpec := { name := "fnExactValidDusting", fn := fun _ => fun
  | [d] => { results := [.lit (.bool false)], args := [d] }
  | _ => none }
def FnExactValidDustingWrongFalsely : Prop := fnExactValidDustingRow.holds Try.pinned (OpenSpec.ofChange fnExactValidDustingWrong)

/-- 'laws.FnExactValidDustings': WHATEVER THE INPUT: true; the input reads as it did. -/
def fnExactValidDustingsSpec : ChangeSpec := { name := "fnExactValidDustings", fn := fun _ => fun
  | [d] => { results := [.lit (.bool true)], args := [d] }
  | _ => none }
def fnExactValidDustingsRow : OpenClaim := { program := "ytnlkikdgffaeeaa", sum := "3e8f32196f5719b7a1863581b46f823ee723d2b2dad62cc8238511880ecf5cdf", func := "loop.example/g01021/laws.FnExactValidDustings", spec := "fnExactValidDustings", unfollowed := true, recurses := true, apart := false }
def FnExactValidDustingsSaid : Prop := fnExactValidDustingsRow.holds Try.pinned (OpenSpec.ofChange fnExactValidDustingsSpec)

/-- ITS FALSE NEIGHBOUR: 'it returns false'. Refute it at one input. -/
def fnExactValidDustingsWrong : ChangeSpec := { name := "fnExactValidDustings", fn := fun _ => fun
  | [d] => { results := [.lit (.bool false)], args := [d] }
  | _ => none }
def FnExactValidDustingsWrongFalsely : Prop := fnExactValidDustingsRow.holds Try.pinned (OpenSpec.ofChange fnExactValidDustingsWrong)

/-- 'laws.FnExactDustOf': WHATEVER THE INPUT: true; the input reads as it did. -/
def fnExactDustOfSpec : ChangeSpec := { name := "fnExactDustOf", fn := fun _ => fun
  | [d1, d2] => { results := [.lit (.bool true)], args := [d1, d2] }
  | _ => none }
def fnExactDustOfRow : OpenClaim := { program := "ytnlkikdgffaeeaa", sum := "3e8f32196f5719b7a1863581b46f823ee723d2b2dad62cc8238511880ecf5cdf", func := "loop.example/g01021/laws.FnExactDustOf", spec := "fnExactDustOf", apart := false }
def FnExactDustOfSaid : Prop := fnExactDustOfRow.holds Try.pinned (OpenSpec.ofChange fnExactDustOfSpec)

/-- ITS FALSE NEIGHBOUR: 'it returns false'. Refute it at one input. -/
def fnExactDustOfWrong : ChangeSpec := { name := "fnExactDustOf", fn := fun _ => fun
  | [d1, d2] => { results := [.lit (.bool false)], args := [d1, d2] }
  | _ => none }
def FnExactDustOfWrongFalsely : Prop := fnExactDustOfRow.holds Try.pinned (OpenSpec.ofChange fnExactDustOfWrong)

/-- 'laws.FnExactSettledAfter': WHATEVER THE INPUT: true; the input reads as it did. -/
def fnExactSettledAfterSpec : ChangeSpec := { name := "fnExactSettledAfter", fn := fun _ => fun
  | [d1, d2, d3] => { results := [.lit (.bool true)], args := [d1, d2, d3] }
  | _ => none }
def fnExactSettledAfterRow : OpenClaim := { program := "ytnlkikdgffaeeaa", sum := "3e8f32196f5719b7a1863581b46f823ee723d2b2dad62cc8238511880ecf5cdf", func := "loop.example/g01021/laws.FnExactSettledAfter", spec := "fnExactSettledAfter", apart := false }
def FnExactSettledAfterSaid : Prop := fnExactSettledAfterRow.holds Try.pinned (OpenSpec.ofChange fnExactSettledAfterSpec)

/-- ITS FALSE NEIGHBOUR: 'it returns false'. Refute it at one input. -/
def fnExactSettledAfterWrong : ChangeSpec := { name := "fnExactSettledAfter", fn := fun _ => fun
  | [d1, d2, d3] => { results := [.lit (.bool false)], args := [d1, d2, d3] }
  | _ => none }
def FnExactSettledAfterWrongFalsely : Prop := fnExactSettledAfterRow.holds Try.pinned (OpenSpec.ofChange fnExactSettledAfterWrong)

/-- 'laws.FnExactDustAlong': WHATEVER THE INPUT: true; the input reads as it did. -/
def fnExactDustAlongSpec : ChangeSpec := { name := "fnExactDustAlong", fn := fun _ => fun
  | [d1, d2, d3] => { results := [.lit (.bool true)], args := [d1, d2, d3] }
  | _ => none }
def fnExactDustAlongRow : OpenClaim := { program := "ytnlkikdgffaeeaa", sum := "3e8f32196f5719b7a1863581b46f823ee723d2b2dad62cc8238511880ecf5cdf", func := "loop.example/g01021/laws.FnExactDustAlong", spec := "fnExactDustAlong", apart := false }
def FnExactDustAlongSaid : Prop := fnExactDustAlongRow.holds Try.pinned (OpenSpec.ofChange fnExactDustAlongSpec)

/-- ITS FALSE NEIGHBOUR: 'it returns false'. Refute it at one input. -/
def fnExactDustAlongWrong : ChangeSpec := { name := "fnExactDustAlong", fn := fun _ => fun
  | [d1, d2, d3] => { results := [.lit (.bool false)], args := [d1, d2, d3] }
  | _ => none }
def FnExactDustAlongWrongFalsely : Prop := fnExactDustAlongRow.holds Try.pinned (OpenSpec.ofChange fnExactDustAlongWrong)

/-- 'laws.FnExactDustAt': WHATEVER THE INPUT: true; the input reads as it did. -/
def fnExactDustAtSpec : ChangeSpec := { name := "fnExactDustAt", fn := fun _ => fun
  | [d1, d2, d3] => { results := [.lit (.bool true)], args := [d1, d2, d3] }
  | _ => none }
def fnExactDustAtRow : OpenClaim := { program := "ytnlkikdgffaeeaa", sum := "3e8f32196f5719b7a1863581b46f823ee723d2b2dad62cc8238511880ecf5cdf", func := "loop.example/g01021/laws.FnExactDustAt", spec := "fnExactDustAt", unfollowed := true, recurses := true, apart := false }
def FnExactDustAtSaid : Prop := fnExactDustAtRow.holds Try.pinned (OpenSpec.ofChange fnExactDustAtSpec)

/-- ITS FALSE NEIGHBOUR: 'it returns false'. Refute it at one input. -/
def fnExactDustAtWrong : ChangeSpec := { name := "fnExactDustAt", fn := fun _ => fun
  | [d1, d2, d3] => { results := [.lit (.bool false)], args := [d1, d2, d3] }
  | _ => none }
def FnExactDustAtWrongFalsely : Prop := fnExactDustAtRow.holds Try.pinned (OpenSpec.ofChange fnExactDustAtWrong)

/-- 'laws.FnExactExposureOf': WHATEVER THE INPUT: true; the input reads as it did. -/
def fnExactExposureOfSpec : ChangeSpec := { name := "fnExactExposureOf", fn := fun _ => fun
  | [d1, d2] => { results := [.lit (.bool true)], args := [d1, d2] }
  | _ => none }
def fnExactExposureOfRow : OpenClaim := { program := "ytnlkikdgffaeeaa", sum := "3e8f32196f5719b7a1863581b46f823ee723d2b2dad62cc8238511880ecf5cdf", func := "loop.example/g01021/laws.FnExactExposureOf", spec := "fnExactExposureOf", unfollowed := true, recurses := true, apart := false }
def FnExactExposureOfSaid : Prop := fnExactExposureOfRow.holds Try.pinned (OpenSpec.ofChange fnExactExposureOfSpec)

/-- ITS FALSE NEIGHBOUR: 'it returns false'. Refute it at one input. -/
def fnExactExposureOfWrong : ChangeSpec := { name := "fnExactExposureOf", fn := fun _ => fun
  | [d1, d2] => { results := [.lit (.bool false)], args := [d1, d2] }
  | _ => none }
def FnExactExposureOfWrongFalsely : Prop := fnExactExposureOfRow.holds Try.pinned (OpenSpec.ofChange fnExactExposureOfWrong)

/-- 'laws.FnExactWorstMinute': WHATEVER THE INPUT: true; the input reads as it did. -/
def fnExactWorstMinuteSpec : ChangeSpec := { name := "fnExactWorstMinute", fn := fun _ => fun
  | [d1, d2] => { results := [.lit (.bool true)], args := [d1, d2] }
  | _ => none }
def fnExactWorstMinuteRow : OpenClaim := { program := "ytnlkikdgffaeeaa", sum := "3e8f32196f5719b7a1863581b46f823ee723d2b2dad62cc8238511880ecf5cdf", func := "loop.example/g01021/laws.FnExactWorstMinute", spec := "fnExactWorstMinute", unfollowed := true, recurses := true, apart := false }
def FnExactWorstMinuteSaid : Prop := fnExactWorstMinuteRow.holds Try.pinned (OpenSpec.ofChange fnExactWorstMinuteSpec)

/-- ITS FALSE NEIGHBOUR: 'it returns false'. Refute it at one input. -/
def fnExactWorstMinuteWrong : ChangeSpec := { name := "fnExactWorstMinute", fn := fun _ => fun
  | [d1, d2] => { results := [.lit (.bool false)], args := [d1, d2] }
  | _ => none }
def FnExactWorstMinuteWrongFalsely : Prop := fnExactWorstMinuteRow.holds Try.pinned (OpenSpec.ofChange fnExactWorstMinuteWrong)

/-- 'laws.FnExactLongestStay': WHATEVER THE INPUT: true; the input reads as it did. -/
def fnExactLongestStaySpec : ChangeSpec := { name := "fnExactLongestStay", fn := fun _ => fun
  | [d1, d2, d3, d4] => { results := [.lit (.bool true)], args := [d1, d2, d3, d4] }
  | _ => none }
def fnExactLongestStayRow : OpenClaim := { program := "ytnlkikdgffaeeaa", sum := "3e8f32196f5719b7a1863581b46f823ee723d2b2dad62cc8238511880ecf5cdf", func := "loop.example/g01021/laws.FnExactLongestStay", spec := "fnExactLongestStay", unfollowed := true, recurses := true, apart := false }
def FnExactLongestStaySaid : Prop := fnExactLongestStayRow.holds Try.pinned (OpenSpec.ofChange fnExactLongestStaySpec)

/-- ITS FALSE NEIGHBOUR: 'it returns false'. Refute it at one input. -/
def fnExactLongestStayWrong : ChangeSpec := { name := "fnExactLongestStay", fn := fun _ => fun
  | [d1, d2, d3, d4] => { results := [.lit (.bool false)], args := [d1, d2, d3, d4] }
  | _ => none }
def FnExactLongestStayWrongFalsely : Prop := fnExactLongestStayRow.holds Try.pinned (OpenSpec.ofChange fnExactLongestStayWrong)

/-- 'laws.FnDust': WHATEVER THE INPUT: true; the input reads as it did. -/
def fnDustSpec : ChangeSpec := { name := "fnDust", fn := fun _ => fun
  | [d1, d2] => { results := [.lit (.bool true)], args := [d1, d2] }
  | _ => none }
def fnDustRow : OpenClaim := { program := "ytnlkikdgffaeeaa", sum := "3e8f32196f5719b7a1863581b46f823ee723d2b2dad62cc8238511880ecf5cdf", func := "loop.example/g01021/laws.FnDust", spec := "fnDust", apart := false }
def FnDustSaid : Prop := fnDustRow.holds Try.pinned (OpenSpec.ofChange fnDustSpec)

/-- ITS FALSE NEIGHBOUR: 'it returns false'. Refute it at one input. -/
def fnDustWrong : ChangeSpec := { name := "fnDust", fn := fun _ => fun
  | [d1, d2] => { results := [.lit (.bool false)], args := [d1, d2] }
  | _ => none }
def FnDustWrongFalsely : Prop := fnDustRow.holds Try.pinned (OpenSpec.ofChange fnDustWrong)

/- THE SECOND FORM. 'bulk': how many values and letters a reading holds, each counted each time it is reached (what is shared counts as often as it is met; a slice's spare places count too). A statement '..UptoSaid' is the law's where the arguments, and the package variables that the reading takes, are together of bulk at most 1048576: NARROWER than '..Said'. Prove '..Said' where nothing that the law and all that it calls make is longer than what came in: it says more and counts as full. Else prove '..UptoSaid'. A law counts once. -/
mutual
def uptoBulk {H : Type} : DataW H → Nat
  | .lit (.string bytes) => bytes.length + 1
  | .lit _ => 1
  | .nil => 1
  | .ptr d => uptoBulk d + 1
  | .slice elems spare => uptoBulkAll elems + uptoBulkAll spare + 1
  | .agg parts => uptoBulkAll parts + 1
  | .iface _ d => uptoBulk d + 1
  | .map entries => uptoBulkEntries entries + 1
  | .held _ => 1
def uptoBulkAll {H : Type} : List (DataW H) → Nat
  | [] => 0
  | d :: r => uptoBulk d + uptoBulkAll r
def uptoBulkEntries {H : Type} : List (Lit × DataW H) → Nat
  | [] => 0
  | x :: r => uptoBulkEntry x + uptoBulkEntries r
def uptoBulkEntry {H : Type} : Lit × DataW H → Nat
  | (.string bytes, d) => bytes.length + uptoBulk d + 1
  | (_, d) => uptoBulk d + 1
 end
def uptoSmall : (H : Type) → List (DataW H) → Bool := fun _ ds => decide (uptoBulkAll ds ≤ 1048576)
def OpenSpec.upto (s : _root_.Go.ChangeSpec) : _root_.Go.OpenSpec := { _root_.Go.OpenSpec.ofChange s with cond := some uptoSmall }

/-- 'laws.FnExactValidDusting', WHERE WHAT IT READS IS OF BULK AT MOST 1048576: true; the input reads as it did. -/
def fnExactValidDustingUptoRow : OpenClaim := { program := "ytnlkikdgffaeeaa", sum := "3e8f32196f5719b7a1863581b46f823ee723d2b2dad62cc8238511880ecf5cdf", func := "loop.example/g01021/laws.FnExactValidDusting", spec := "fnExactValidDusting", apart := false, narrowed := true }
def FnExactValidDustingUptoSaid : Prop := fnExactValidDustingUptoRow.holds Try.pinned (OpenSpec.upto fnExactValidDustingSpec)

/-- 'laws.FnExactValidDustings', WHERE WHAT IT READS IS OF BULK AT MOST 1048576: true; the input reads as it did. -/
def fnExactValidDustingsUptoRow : OpenClaim := { program := "ytnlkikdgffaeeaa", sum := "3e8f32196f5719b7a1863581b46f823ee723d2b2dad62cc8238511880ecf5cdf", func := "loop.example/g01021/laws.FnExactValidDustings", spec := "fnExactValidDustings", unfollowed := true, recurses := true, apart := false, narrowed := true }
def FnExactValidDustingsUptoSaid : Prop := fnExactValidDustingsUptoRow.holds Try.pinned (OpenSpec.upto fnExactValidDustingsSpec)

/-- 'laws.FnExactDustOf', WHERE WHAT IT READS IS OF BULK AT MOST 1048576: true; the input reads as it did. -/
def fnExactDustOfUptoRow : OpenClaim := { program := "ytnlkikdgffaeeaa", sum := "3e8f32196f5719b7a1863581b46f823ee723d2b2dad62cc8238511880ecf5cdf", func := "loop.example/g01021/laws.FnExactDustOf", spec := "fnExactDustOf", apart := false, narrowed := true }
def FnExactDustOfUptoSaid : Prop := fnExactDustOfUptoRow.holds Try.pinned (OpenSpec.upto fnExactDustOfSpec)

/-- 'laws.FnExactSettledAfter', WHERE WHAT IT READS IS OF BULK AT MOST 1048576: true; the input reads as it did. -/
def fnExactSettledAfterUptoRow : OpenClaim := { program := "ytnlkikdgffaeeaa", sum := "3e8f32196f5719b7a1863581b46f823ee723d2b2dad62cc8238511880ecf5cdf", func := "loop.example/g01021/laws.FnExactSettledAfter", spec := "fnExactSettledAfter", apart := false, narrowed := true }
def FnExactSettledAfterUptoSaid : Prop := fnExactSettledAfterUptoRow.holds Try.pinned (OpenSpec.upto fnExactSettledAfterSpec)

/-- 'laws.FnExactDustAlong', WHERE WHAT IT READS IS OF BULK AT MOST 1048576: true; the input reads as it did. -/
def fnExactDustAlongUptoRow : OpenClaim := { program := "ytnlkikdgffaeeaa", sum := "3e8f32196f5719b7a1863581b46f823ee723d2b2dad62cc8238511880ecf5cdf", func := "loop.example/g01021/laws.FnExactDustAlong", spec := "fnExactDustAlong", apart := false, narrowed := true }
def FnExactDustAlongUptoSaid : Prop := fnExactDustAlongUptoRow.holds Try.pinned (OpenSpec.upto fnExactDustAlongSpec)

/-- 'laws.FnExactDustAt', WHERE WHAT IT READS IS OF BULK AT MOST 1048576: true; the input reads as it did. -/
def fnExactDustAtUptoRow : OpenClaim := { program := "ytnlkikdgffaeeaa", sum := "3e8f32196f5719b7a1863581b46f823ee723d2b2dad62cc8238511880ecf5cdf", func := "loop.example/g01021/laws.FnExactDustAt", spec := "fnExactDustAt", unfollowed := true, recurses := true, apart := false, narrowed := true }
def FnExactDustAtUptoSaid : Prop := fnExactDustAtUptoRow.holds Try.pinned (OpenSpec.upto fnExactDustAtSpec)

/-- 'laws.FnExactExposureOf', WHERE WHAT IT READS IS OF BULK AT MOST 1048576: true; the input reads as it did. -/
def fnExactExposureOfUptoRow : OpenClaim := { program := "ytnlkikdgffaeeaa", sum := "3e8f32196f5719b7a1863581b46f823ee723d2b2dad62cc8238511880ecf5cdf", func := "loop.example/g01021/laws.FnExactExposureOf", spec := "fnExactExposureOf", unfollowed := true, recurses := true, apart := false, narrowed := true }
def FnExactExposureOfUptoSaid : Prop := fnExactExposureOfUptoRow.holds Try.pinned (OpenSpec.upto fnExactExposureOfSpec)

/-- 'laws.FnExactWorstMinute', WHERE WHAT IT READS IS OF BULK AT MOST 1048576: true; the input reads as it did. -/
def fnExactWorstMinuteUptoRow : OpenClaim := { program := "ytnlkikdgffaeeaa", sum := "3e8f32196f5719b7a1863581b46f823ee723d2b2dad62cc8238511880ecf5cdf", func := "loop.example/g01021/laws.FnExactWorstMinute", spec := "fnExactWorstMinute", unfollowed := true, recurses := true, apart := false, narrowed := true }
def FnExactWorstMinuteUptoSaid : Prop := fnExactWorstMinuteUptoRow.holds Try.pinned (OpenSpec.upto fnExactWorstMinuteSpec)

/-- 'laws.FnExactLongestStay', WHERE WHAT IT READS IS OF BULK AT MOST 1048576: true; the input reads as it did. -/
def fnExactLongestStayUptoRow : OpenClaim := { program := "ytnlkikdgffaeeaa", sum := "3e8f32196f5719b7a1863581b46f823ee723d2b2dad62cc8238511880ecf5cdf", func := "loop.example/g01021/laws.FnExactLongestStay", spec := "fnExactLongestStay", unfollowed := true, recurses := true, apart := false, narrowed := true }
def FnExactLongestStayUptoSaid : Prop := fnExactLongestStayUptoRow.holds Try.pinned (OpenSpec.upto fnExactLongestStaySpec)

/-- 'laws.FnDust', WHERE WHAT IT READS IS OF BULK AT MOST 1048576: true; the input reads as it did. -/
def fnDustUptoRow : OpenClaim := { program := "ytnlkikdgffaeeaa", sum := "3e8f32196f5719b7a1863581b46f823ee723d2b2dad62cc8238511880ecf5cdf", func := "loop.example/g01021/laws.FnDust", spec := "fnDust", apart := false, narrowed := true }
def FnDustUptoSaid : Prop := fnDustUptoRow.holds Try.pinned (OpenSpec.upto fnDustSpec)

end Rows
end Go.Proofs.Ytnlkikdgffaeeaa
