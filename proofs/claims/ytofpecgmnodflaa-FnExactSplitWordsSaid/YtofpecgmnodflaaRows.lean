/-
  No cell of these rows narrows 'for every input' (looked for: loops, veiled, ifaces, maps, wideKeys, modest, calm, conditions, laid).
  DERIVED. THE GIVEN ROWS OF THIS SEAT. 7 by the template 'for every input the law returns true; each argument reads behind the call as it read before'; 0 by the template 'total and deterministic' (their statements: YtofpecgmnodflaaTotals.lean).
  GIVEN WITH THE SEED: the statements are not yours to turn. If you find one false, say at which input.
  Laid BY PROGRAM, IN A SANDBOX (cutbox-rows.mjs): the forced cells as the released guide's own fill.sh prints them over the translation 209aee48ca14b460… (all of the seat's roots in one cut). By AI agents, Wed Nov 11 2026. No macro, syntax, notation, axiom, sorry.
-/
import Derived.Test.YtofpecgmnodflaaChecked
import GoSem.Claim
import GoSem.ClaimJoined
import GoSem.ClaimMapViews
import Derived.JoinedTies
import Derived.KernelRfl
namespace Go.Proofs.Ytofpecgmnodflaa
/- THE CELL 'sum', in the pinned program and in every row, IS THE sha256 OF THE DUMP (.gsa) THAT YtofpecgmnodflaaProg.lean LOADS. Nothing in Lean hashes anything: it is a label: what it is worth is what the hold of that sum in a sandbox is worth. -/
noncomputable def Try.pinned : Pinned := { name := "ytofpecgmnodflaa", sum := "209aee48ca14b460ca5e7edbdb344fa726062a4a65c8ea41ca7c0ff77f4297b7", checked := Try.checked }
namespace Rows
def none {H : Type} : Left H := { results := [], args := [] }

/-- 'laws.FnExactAirwaysAt': WHATEVER THE INPUT: true; the input reads as it did. -/
def fnExactAirwaysAtSpec : ChangeSpec := { name := "fnExactAirwaysAt", fn := fun _ => fun
  | [d1, d2] => { results := [.lit (.bool true)], args := [d1, d2] }
  | _ => none }
def fnExactAirwaysAtRow : OpenClaim := { program := "ytofpecgmnodflaa", sum := "209aee48ca14b460ca5e7edbdb344fa726062a4a65c8ea41ca7c0ff77f4297b7", func := "loop.example/g01021/laws.FnExactAirwaysAt", spec := "fnExactAirwaysAt", unfollowed := true, recurses := true, apart := false }
def FnExactAirwaysAtSaid : Prop := fnExactAirwaysAtRow.holds Try.pinned (OpenSpec.ofChange fnExactAirwaysAtSpec)

/-- ITS FALSE NEIGHBOUR: 'it returns false'. Refute it at one input. -/
def fnExactAirwaysAtWrong : ChangeSpec := { name := "fnExactAirwaysAt", fn := fun _ => fun
  | [d1, d2] => { results := [.lit (.bool false)], args := [d1, d2] }
  | _ => none }
def FnExactAirwaysAtWrongFalsely : Prop := fnExactAirwaysAtRow.holds Try.pinned (OpenSpec.ofChange fnExactAirwaysAtWrong)

/-- 'laws.FnExactSplitWords': WHATEVER THE INPUT: true; the input reads as it did. -/
def fnExactSplitWordsSpec : ChangeSpec := { name := "fnExactSplitWords", fn := fun _ => fun
  | [d] => { results := [.lit (.bool true)], args := [d] }
  | _ => none }
def fnExactSplitWordsRow : OpenClaim := { program := "ytofpecgmnodflaa", sum := "209aee48ca14b460ca5e7edbdb344fa726062a4a65c8ea41ca7c0ff77f4297b7", func := "loop.example/g01021/laws.FnExactSplitWords", spec := "fnExactSplitWords", unfollowed := true, recurses := true, apart := false }
def FnExactSplitWordsSaid : Prop := fnExactSplitWordsRow.holds Try.pinned (OpenSpec.ofChange fnExactSplitWordsSpec)

/-- ITS FALSE NEIGHBOUR: 'it returns false'. Refute it at one input. -/
def fnExactSplitWordsWrong : ChangeSpec := { name := "fnExactSplitWords", fn := fun _ => fun
  | [d] => { results := [.lit (.bool false)], args := [d] }
  | _ => none }
def FnExactSplitWordsWrongFalsely : Prop := fnExactSplitWordsRow.holds Try.pinned (OpenSpec.ofChange fnExactSplitWordsWrong)

/-- 'laws.FnExactAirwayNamed': WHATEVER THE INPUT: true; the input reads as it did. -/
def fnExactAirwayNamedSpec : ChangeSpec := { name := "fnExactAirwayNamed", fn := fun _ => fun
  | [d1, d2] => { results := [.lit (.bool true)], args := [d1, d2] }
  | _ => none }
def fnExactAirwayNamedRow : OpenClaim := { program := "ytofpecgmnodflaa", sum := "209aee48ca14b460ca5e7edbdb344fa726062a4a65c8ea41ca7c0ff77f4297b7", func := "loop.example/g01021/laws.FnExactAirwayNamed", spec := "fnExactAirwayNamed", apart := false }
def FnExactAirwayNamedSaid : Prop := fnExactAirwayNamedRow.holds Try.pinned (OpenSpec.ofChange fnExactAirwayNamedSpec)

/-- ITS FALSE NEIGHBOUR: 'it returns false'. Refute it at one input. -/
def fnExactAirwayNamedWrong : ChangeSpec := { name := "fnExactAirwayNamed", fn := fun _ => fun
  | [d1, d2] => { results := [.lit (.bool false)], args := [d1, d2] }
  | _ => none }
def FnExactAirwayNamedWrongFalsely : Prop := fnExactAirwayNamedRow.holds Try.pinned (OpenSpec.ofChange fnExactAirwayNamedWrong)

/-- 'laws.FnExactDropAirway': WHATEVER THE INPUT: true; the input reads as it did. -/
def fnExactDropAirwaySpec : ChangeSpec := { name := "fnExactDropAirway", fn := fun _ => fun
  | [d1, d2] => { results := [.lit (.bool true)], args := [d1, d2] }
  | _ => none }
def fnExactDropAirwayRow : OpenClaim := { program := "ytofpecgmnodflaa", sum := "209aee48ca14b460ca5e7edbdb344fa726062a4a65c8ea41ca7c0ff77f4297b7", func := "loop.example/g01021/laws.FnExactDropAirway", spec := "fnExactDropAirway", apart := false }
def FnExactDropAirwaySaid : Prop := fnExactDropAirwayRow.holds Try.pinned (OpenSpec.ofChange fnExactDropAirwaySpec)

/-- ITS FALSE NEIGHBOUR: 'it returns false'. Refute it at one input. -/
def fnExactDropAirwayWrong : ChangeSpec := { name := "fnExactDropAirway", fn := fun _ => fun
  | [d1, d2] => { results := [.lit (.bool false)], args := [d1, d2] }
  | _ => none }
def FnExactDropAirwayWrongFalsely : Prop := fnExactDropAirwayRow.holds Try.pinned (OpenSpec.ofChange fnExactDropAirwayWrong)

/-- 'laws.FnExactAddAirway': WHATEVER THE INPUT: true; the input reads as it did. -/
def fnExactAddAirwaySpec : ChangeSpec := { name := "fnExactAddAirway", fn := fun _ => fun
  | [d1, d2] => { results := [.lit (.bool true)], args := [d1, d2] }
  | _ => none }
def fnExactAddAirwayRow : OpenClaim := { program := "ytofpecgmnodflaa", sum := "209aee48ca14b460ca5e7edbdb344fa726062a4a65c8ea41ca7c0ff77f4297b7", func := "loop.example/g01021/laws.FnExactAddAirway", spec := "fnExactAddAirway", unfollowed := true, recurses := true, apart := false }
def FnExactAddAirwaySaid : Prop := fnExactAddAirwayRow.holds Try.pinned (OpenSpec.ofChange fnExactAddAirwaySpec)

/-- ITS FALSE NEIGHBOUR: 'it returns false'. Refute it at one input. -/
def fnExactAddAirwayWrong : ChangeSpec := { name := "fnExactAddAirway", fn := fun _ => fun
  | [d1, d2] => { results := [.lit (.bool false)], args := [d1, d2] }
  | _ => none }
def FnExactAddAirwayWrongFalsely : Prop := fnExactAddAirwayRow.holds Try.pinned (OpenSpec.ofChange fnExactAddAirwayWrong)

/-- 'laws.FnExactLargestAgreement': WHATEVER THE INPUT: true; the input reads as it did. -/
def fnExactLargestAgreementSpec : ChangeSpec := { name := "fnExactLargestAgreement", fn := fun _ => fun
  | [d1, d2] => { results := [.lit (.bool true)], args := [d1, d2] }
  | _ => none }
def fnExactLargestAgreementRow : OpenClaim := { program := "ytofpecgmnodflaa", sum := "209aee48ca14b460ca5e7edbdb344fa726062a4a65c8ea41ca7c0ff77f4297b7", func := "loop.example/g01021/laws.FnExactLargestAgreement", spec := "fnExactLargestAgreement", inPlace := ["internal/reflectlite.ValueOf", "internal/reflectlite.Swapper", "(internal/reflectlite.Value).Len"], unfollowed := true, recurses := true, apart := false }
def FnExactLargestAgreementSaid : Prop := fnExactLargestAgreementRow.holds Try.pinned (OpenSpec.ofChange fnExactLargestAgreementSpec)

/-- ITS FALSE NEIGHBOUR: 'it returns false'. Refute it at one input. -/
def fnExactLargestAgreementWrong : ChangeSpec := { name := "fnExactLargestAgreement", fn := fun _ => fun
  | [d1, d2] => { results := [.lit (.bool false)], args := [d1, d2] }
  | _ => none }
def FnExactLargestAgreementWrongFalsely : Prop := fnExactLargestAgreementRow.holds Try.pinned (OpenSpec.ofChange fnExactLargestAgreementWrong)

/-- 'laws.FnExactOddSurveys': WHATEVER THE INPUT: true; the input reads as it did. -/
def fnExactOddSurveysSpec : ChangeSpec := { name := "fnExactOddSurveys", fn := fun _ => fun
  | [d] => { results := [.lit (.bool true)], args := [d] }
  | _ => none }
def fnExactOddSurveysRow : OpenClaim := { program := "ytofpecgmnodflaa", sum := "209aee48ca14b460ca5e7edbdb344fa726062a4a65c8ea41ca7c0ff77f4297b7", func := "loop.example/g01021/laws.FnExactOddSurveys", spec := "fnExactOddSurveys", inPlace := ["internal/reflectlite.ValueOf", "internal/reflectlite.Swapper", "(internal/reflectlite.Value).Len"], unfollowed := true, recurses := true, apart := false }
def FnExactOddSurveysSaid : Prop := fnExactOddSurveysRow.holds Try.pinned (OpenSpec.ofChange fnExactOddSurveysSpec)

/-- ITS FALSE NEIGHBOUR: 'it returns false'. Refute it at one input. -/
def fnExactOddSurveysWrong : ChangeSpec := { name := "fnExactOddSurveys", fn := fun _ => fun
  | [d] => { results := [.lit (.bool false)], args := [d] }
  | _ => none }
def FnExactOddSurveysWrongFalsely : Prop := fnExactOddSurveysRow.holds Try.pinned (OpenSpec.ofChange fnExactOddSurveysWrong)

/- THE SECOND FORM. 'bulk': how many values and letters a reading holds, each counted each time it is reached (what is shared counts as often as it is met; a slice's spare places count too). A statement '..UptoSaid' is the law's where the arguments, and the package variables that the reading takes, are together of bulk at most 1048576: NARROWER than '..Said'. Prove '..Said' where nothing that the law and all that it calls make is longer than what came in: it says more and counts as full. Else prove '..UptoSaid'. A law counts once. -/
mutual
def uptoBulk {H : Type} : DataW H → Nat
  | .lit (.string bytes) => bytes.length + 1
  | .lit _ => 1
  | .nil => 1
  | .ptr d => uptoBulk d + 1
  | .slice elems spare => uptoBulkAll elems + uptoBulkAll spare + 1
  | .agg parts => uptoBulkAll parts + 1
  | .iface _ d => uptoBulk d + 1
  | .map entries => uptoBulkEntries entries + 1
  | .held _ => 1
def uptoBulkAll {H : Type} : List (DataW H) → Nat
  | [] => 0
  | d :: r => uptoBulk d + uptoBulkAll r
def uptoBulkEntries {H : Type} : List (Lit × DataW H) → Nat
  | [] => 0
  | x :: r => uptoBulkEntry x + uptoBulkEntries r
def uptoBulkEntry {H : Type} : Lit × DataW H → Nat
  | (.string bytes, d) => bytes.length + uptoBulk d + 1
  | (_, d) => uptoBulk d + 1
 end
def uptoSmall : (H : Type) → List (DataW H) → Bool := fun _ ds => decide (uptoBulkAll ds ≤ 1048576)
def OpenSpec.upto (s : _root_.Go.ChangeSpec) : _root_.Go.OpenSpec := { _root_.Go.OpenSpec.ofChange s with cond := some uptoSmall }

/-- 'laws.FnExactAirwaysAt', WHERE WHAT IT READS IS OF BULK AT MOST 1048576: true; the input reads as it did. -/
def fnExactAirwaysAtUptoRow : OpenClaim := { program := "ytofpecgmnodflaa", sum := "209aee48ca14b460ca5e7edbdb344fa726062a4a65c8ea41ca7c0ff77f4297b7", func := "loop.example/g01021/laws.FnExactAirwaysAt", spec := "fnExactAirwaysAt", unfollowed := true, recurses := true, apart := false, narrowed := true }
def FnExactAirwaysAtUptoSaid : Prop := fnExactAirwaysAtUptoRow.holds Try.pinned (OpenSpec.upto fnExactAirwaysAtSpec)

/-- 'laws.FnExactSplitWords', WHERE WHAT IT READS IS OF BULK AT MOST 1048576: true; the input reads as it did. -/
def fnExactSplitWordsUptoRow : OpenClaim := { program := "ytofpecgmnodflaa", sum := "209aee48ca14b460ca5e7edbdb344fa726062a4a65c8ea41ca7c0ff77f4297b7", func := "loop.example/g01021/laws.FnExactSplitWords", spec := "fnExactSplitWords", unfollowed := true, recurses := true, apart := false, narrowed := true }
def FnExactSplitWordsUptoSaid : Prop := fnExactSplitWordsUptoRow.holds Try.pinned (OpenSpec.upto fnExactSplitWordsSpec)

/-- 'laws.FnExactAirwayNamed', WHERE WHAT IT READS IS OF BULK AT MOST 1048576: true; the input reads as it did. -/
def fnExactAirwayNamedUptoRow : OpenClaim := { program := "ytofpecgmnodflaa", sum := "209aee48ca14b460ca5e7edbdb344fa726062a4a65c8ea41ca7c0ff77f4297b7", func := "loop.example/g01021/laws.FnExactAirwayNamed", spec := "fnExactAirwayNamed", apart := false, narrowed := true }
def FnExactAirwayNamedUptoSaid : Prop := fnExactAirwayNamedUptoRow.holds Try.pinned (OpenSpec.upto fnExactAirwayNamedSpec)

/-- 'laws.FnExactDropAirway', WHERE WHAT IT READS IS OF BULK AT MOST 1048576: true; the input reads as it did. -/
def fnExactDropAirwayUptoRow : OpenClaim := { program := "ytofpecgmnodflaa", sum := "209aee48ca14b460ca5e7edbdb344fa726062a4a65c8ea41ca7c0ff77f4297b7", func := "loop.example/g01021/laws.FnExactDropAirway", spec := "fnExactDropAirway", apart := false, narrowed := true }
def FnExactDropAirwayUptoSaid : Prop := fnExactDropAirwayUptoRow.holds Try.pinned (OpenSpec.upto fnExactDropAirwaySpec)

/-- 'laws.FnExactAddAirway', WHERE WHAT IT READS IS OF BULK AT MOST 1048576: true; the input reads as it did. -/
def fnExactAddAirwayUptoRow : OpenClaim := { program := "ytofpecgmnodflaa", sum := "209aee48ca14b460ca5e7edbdb344fa726062a4a65c8ea41ca7c0ff77f4297b7", func := "loop.example/g01021/laws.FnExactAddAirway", spec := "fnExactAddAirway", unfollowed := true, recurses := true, apart := false, narrowed := true }
def FnExactAddAirwayUptoSaid : Prop := fnExactAddAirwayUptoRow.holds Try.pinned (OpenSpec.upto fnExactAddAirwaySpec)

/-- 'laws.FnExactLargestAgreement', WHERE WHAT IT READS IS OF BULK AT MOST 1048576: true; the input reads as it did. -/
def fnExactLargestAgreementUptoRow : OpenClaim := { program := "ytofpecgmnodflaa", sum := "209aee48ca14b460ca5e7edbdb344fa726062a4a65c8ea41ca7c0ff77f4297b7", func := "loop.example/g01021/laws.FnExactLargestAgreement", spec := "fnExactLargestAgreement", inPlace := ["internal/reflectlite.ValueOf", "internal/reflectlite.Swapper", "(internal/reflectlite.Value).Len"], unfollowed := true, recurses := true, apart := false, narrowed := true }
def FnExactLargestAgreementUptoSaid : Prop := fnExactLargestAgreementUptoRow.holds Try.pinned (OpenSpec.upto fnExactLargestAgreementSpec)

/-- 'laws.FnExactOddSurveys', WHERE WHAT IT READS IS OF BULK AT MOST 1048576: true; the input reads as it did. -/
def fnExactOddSurveysUptoRow : OpenClaim := { program := "ytofpecgmnodflaa", sum := "209aee48ca14b460ca5e7edbdb344fa726062a4a65c8ea41ca7c0ff77f4297b7", func := "loop.example/g01021/laws.FnExactOddSurveys", spec := "fnExactOddSurveys", inPlace := ["internal/reflectlite.ValueOf", "internal/reflectlite.Swapper", "(internal/reflectlite.Value).Len"], unfollowed := true, recurses := true, apart := false, narrowed := true }
def FnExactOddSurveysUptoSaid : Prop := fnExactOddSurveysUptoRow.holds Try.pinned (OpenSpec.upto fnExactOddSurveysSpec)

end Rows
end Go.Proofs.Ytofpecgmnodflaa
