/-
  NARROWER THAN 'FOR EVERY INPUT', by the rows' own cells (each row's printed sentence says how): FnExactSaturationOf: laid · FnExactVapourOf: laid · FnExactHumidityFor: laid · FnExactDewPoint: laid · FnExactMoistDensity: laid · FnExactAirText: laid.
  DERIVED. THE GIVEN ROWS OF THIS SEAT. 6 by the template 'for every input the law returns true; each argument reads behind the call as it read before'; 0 by the template 'total and deterministic' (their statements: YtkldgmgjbboiaaaDoorTotals.lean).
  GIVEN WITH THE SEED: the statements are not yours to turn. If you find one false, say at which input.
  Laid BY PROGRAM, IN A SANDBOX (cutbox-rows.mjs): the forced cells as the released guide's own fill.sh prints them over the translation d6dc81340d2971ae… (all of the seat's roots in one cut). By AI agents, Wed Nov 11 2026. No macro, syntax, notation, axiom, sorry.
-/
import Derived.Test.YtkldgmgjbboiaaaDoorChecked
import GoSem.Claim
import GoSem.ClaimJoined
import GoSem.ClaimMapViews
import Derived.JoinedTies
import Derived.KernelRfl
namespace Go.Proofs.YtkldgmgjbboiaaaDoor
/- THE CELL 'sum', in the pinned program and in every row, IS THE sha256 OF THE DUMP (.gsa) THAT YtkldgmgjbboiaaaDoorProg.lean LOADS. Nothing in Lean hashes anything: it is a label: what it is worth is what the hold of that sum in a sandbox is worth. -/
noncomputable def Tryd.pinned : Pinned := { name := "ytkldgmgjbboiaaadoor", sum := "d6dc81340d2971ae783043e80315cc98d9ae2295f417cc93aba93ecd8d0bae81", checked := Tryd.checked }
namespace Rows
def none {H : Type} : Left H := { results := [], args := [] }

/- WHAT THE LISTED PACKAGE-LEVEL VARIABLES READ AS WHEN THE CALL BEGINS. Each datum BY PROGRAM (the guide's laid-datum.mjs) off the statement by which the dump's own 'gosem.cut.vars' lays the variable. In a bare row this is a premise. The card (YtkldgmgjbboiaaaDoorCards.lean) ties it to the program's text. -/
def laid_loop_example_g01021_impl_saturations {H : Type} : DataW H := .agg [.lit (.int .i64 286), .lit (.int .i64 421), .lit (.int .i64 611), .lit (.int .i64 872), .lit (.int .i64 1228), .lit (.int .i64 1705), .lit (.int .i64 2339), .lit (.int .i64 3169), .lit (.int .i64 4246), .lit (.int .i64 5628), .lit (.int .i64 7384), .lit (.int .i64 9593), .lit (.int .i64 12350), .lit (.int .i64 15760), .lit (.int .i64 19940)]
def laid_math_bits_deBruijn32tab {H : Type} : DataW H := .agg [.lit (.int .u8 0), .lit (.int .u8 1), .lit (.int .u8 28), .lit (.int .u8 2), .lit (.int .u8 29), .lit (.int .u8 14), .lit (.int .u8 24), .lit (.int .u8 3), .lit (.int .u8 30), .lit (.int .u8 22), .lit (.int .u8 20), .lit (.int .u8 15), .lit (.int .u8 25), .lit (.int .u8 17), .lit (.int .u8 4), .lit (.int .u8 8), .lit (.int .u8 31), .lit (.int .u8 27), .lit (.int .u8 13), .lit (.int .u8 23), .lit (.int .u8 21), .lit (.int .u8 19), .lit (.int .u8 16), .lit (.int .u8 7), .lit (.int .u8 26), .lit (.int .u8 12), .lit (.int .u8 18), .lit (.int .u8 6), .lit (.int .u8 11), .lit (.int .u8 5), .lit (.int .u8 10), .lit (.int .u8 9)]
def laid_math_bits_deBruijn64tab {H : Type} : DataW H := .agg [.lit (.int .u8 0), .lit (.int .u8 1), .lit (.int .u8 56), .lit (.int .u8 2), .lit (.int .u8 57), .lit (.int .u8 49), .lit (.int .u8 28), .lit (.int .u8 3), .lit (.int .u8 61), .lit (.int .u8 58), .lit (.int .u8 42), .lit (.int .u8 50), .lit (.int .u8 38), .lit (.int .u8 29), .lit (.int .u8 17), .lit (.int .u8 4), .lit (.int .u8 62), .lit (.int .u8 47), .lit (.int .u8 59), .lit (.int .u8 36), .lit (.int .u8 45), .lit (.int .u8 43), .lit (.int .u8 51), .lit (.int .u8 22), .lit (.int .u8 53), .lit (.int .u8 39), .lit (.int .u8 33), .lit (.int .u8 30), .lit (.int .u8 24), .lit (.int .u8 18), .lit (.int .u8 12), .lit (.int .u8 5), .lit (.int .u8 63), .lit (.int .u8 55), .lit (.int .u8 48), .lit (.int .u8 27), .lit (.int .u8 60), .lit (.int .u8 41), .lit (.int .u8 37), .lit (.int .u8 16), .lit (.int .u8 46), .lit (.int .u8 35), .lit (.int .u8 44), .lit (.int .u8 21), .lit (.int .u8 52), .lit (.int .u8 32), .lit (.int .u8 23), .lit (.int .u8 11), .lit (.int .u8 54), .lit (.int .u8 26), .lit (.int .u8 40), .lit (.int .u8 15), .lit (.int .u8 34), .lit (.int .u8 20), .lit (.int .u8 31), .lit (.int .u8 10), .lit (.int .u8 25), .lit (.int .u8 14), .lit (.int .u8 19), .lit (.int .u8 9), .lit (.int .u8 13), .lit (.int .u8 8), .lit (.int .u8 7), .lit (.int .u8 6)]
def laid_internal_strconv_uint64pow10 {H : Type} : DataW H := .agg [.lit (.int .u64 1), .lit (.int .u64 10), .lit (.int .u64 100), .lit (.int .u64 1000), .lit (.int .u64 10000), .lit (.int .u64 100000), .lit (.int .u64 1000000), .lit (.int .u64 10000000), .lit (.int .u64 100000000), .lit (.int .u64 1000000000), .lit (.int .u64 10000000000), .lit (.int .u64 100000000000), .lit (.int .u64 1000000000000), .lit (.int .u64 10000000000000), .lit (.int .u64 100000000000000), .lit (.int .u64 1000000000000000), .lit (.int .u64 10000000000000000), .lit (.int .u64 100000000000000000), .lit (.int .u64 1000000000000000000), .lit (.int .u64 10000000000000000000)]

/-- 'laws.FnExactSaturationOf': WHATEVER THE INPUT: true; the input reads as it did. -/
def fnExactSaturationOfSpec : ChangeSpec := { name := "fnExactSaturationOf", vars := ["loop.example/g01021/impl.saturations"], fn := fun _ => fun
  | [d, g1] => { results := [.lit (.bool true)], args := [d], vars := [g1] }
  | _ => none }
def fnExactSaturationOfRow : OpenClaim := { program := "ytkldgmgjbboiaaadoor", sum := "d6dc81340d2971ae783043e80315cc98d9ae2295f417cc93aba93ecd8d0bae81", func := "loop.example/g01021/laws.FnExactSaturationOf", spec := "fnExactSaturationOf", named := ["loop.example/g01021/impl.saturations"], apart := false, laid := [("loop.example/g01021/impl.saturations", laid_loop_example_g01021_impl_saturations)] }
def FnExactSaturationOfSaid : Prop := fnExactSaturationOfRow.holds Tryd.pinned (OpenSpec.ofChange fnExactSaturationOfSpec)

/-- ITS FALSE NEIGHBOUR: 'it returns false'. Refute it at one input. -/
def fnExactSaturationOfWrong : ChangeSpec := { name := "fnExactSaturationOf", vars := ["loop.example/g01021/impl.saturations"], fn := fun _ => fun
  | [d, g1] => { results := [.lit (.bool false)], args := [d], vars := [g1] }
  | _ => none }
def FnExactSaturationOfWrongFalsely : Prop := fnExactSaturationOfRow.holds Tryd.pinned (OpenSpec.ofChange fnExactSaturationOfWrong)

/-- 'laws.FnExactVapourOf': WHATEVER THE INPUT: true; the input reads as it did. -/
def fnExactVapourOfSpec : ChangeSpec := { name := "fnExactVapourOf", vars := ["loop.example/g01021/impl.saturations"], fn := fun _ => fun
  | [d1, d2, g1] => { results := [.lit (.bool true)], args := [d1, d2], vars := [g1] }
  | _ => none }
def fnExactVapourOfRow : OpenClaim := { program := "ytkldgmgjbboiaaadoor", sum := "d6dc81340d2971ae783043e80315cc98d9ae2295f417cc93aba93ecd8d0bae81", func := "loop.example/g01021/laws.FnExactVapourOf", spec := "fnExactVapourOf", named := ["loop.example/g01021/impl.saturations"], apart := false, laid := [("loop.example/g01021/impl.saturations", laid_loop_example_g01021_impl_saturations)] }
def FnExactVapourOfSaid : Prop := fnExactVapourOfRow.holds Tryd.pinned (OpenSpec.ofChange fnExactVapourOfSpec)

/-- ITS FALSE NEIGHBOUR: 'it returns false'. Refute it at one input. -/
def fnExactVapourOfWrong : ChangeSpec := { name := "fnExactVapourOf", vars := ["loop.example/g01021/impl.saturations"], fn := fun _ => fun
  | [d1, d2, g1] => { results := [.lit (.bool false)], args := [d1, d2], vars := [g1] }
  | _ => none }
def FnExactVapourOfWrongFalsely : Prop := fnExactVapourOfRow.holds Tryd.pinned (OpenSpec.ofChange fnExactVapourOfWrong)

/-- 'laws.FnExactHumidityFor': WHATEVER THE INPUT: true; the input reads as it did. -/
def fnExactHumidityForSpec : ChangeSpec := { name := "fnExactHumidityFor", vars := ["loop.example/g01021/impl.saturations"], fn := fun _ => fun
  | [d1, d2, d3, g1] => { results := [.lit (.bool true)], args := [d1, d2, d3], vars := [g1] }
  | _ => none }
def fnExactHumidityForRow : OpenClaim := { program := "ytkldgmgjbboiaaadoor", sum := "d6dc81340d2971ae783043e80315cc98d9ae2295f417cc93aba93ecd8d0bae81", func := "loop.example/g01021/laws.FnExactHumidityFor", spec := "fnExactHumidityFor", named := ["loop.example/g01021/impl.saturations"], apart := false, laid := [("loop.example/g01021/impl.saturations", laid_loop_example_g01021_impl_saturations)] }
def FnExactHumidityForSaid : Prop := fnExactHumidityForRow.holds Tryd.pinned (OpenSpec.ofChange fnExactHumidityForSpec)

/-- ITS FALSE NEIGHBOUR: 'it returns false'. Refute it at one input. -/
def fnExactHumidityForWrong : ChangeSpec := { name := "fnExactHumidityFor", vars := ["loop.example/g01021/impl.saturations"], fn := fun _ => fun
  | [d1, d2, d3, g1] => { results := [.lit (.bool false)], args := [d1, d2, d3], vars := [g1] }
  | _ => none }
def FnExactHumidityForWrongFalsely : Prop := fnExactHumidityForRow.holds Tryd.pinned (OpenSpec.ofChange fnExactHumidityForWrong)

/-- 'laws.FnExactDewPoint': WHATEVER THE INPUT: true; the input reads as it did. -/
def fnExactDewPointSpec : ChangeSpec := { name := "fnExactDewPoint", vars := ["loop.example/g01021/impl.saturations"], fn := fun _ => fun
  | [d1, d2, g1] => { results := [.lit (.bool true)], args := [d1, d2], vars := [g1] }
  | _ => none }
def fnExactDewPointRow : OpenClaim := { program := "ytkldgmgjbboiaaadoor", sum := "d6dc81340d2971ae783043e80315cc98d9ae2295f417cc93aba93ecd8d0bae81", func := "loop.example/g01021/laws.FnExactDewPoint", spec := "fnExactDewPoint", unfollowed := true, recurses := true, named := ["loop.example/g01021/impl.saturations"], apart := false, laid := [("loop.example/g01021/impl.saturations", laid_loop_example_g01021_impl_saturations)] }
def FnExactDewPointSaid : Prop := fnExactDewPointRow.holds Tryd.pinned (OpenSpec.ofChange fnExactDewPointSpec)

/-- ITS FALSE NEIGHBOUR: 'it returns false'. Refute it at one input. -/
def fnExactDewPointWrong : ChangeSpec := { name := "fnExactDewPoint", vars := ["loop.example/g01021/impl.saturations"], fn := fun _ => fun
  | [d1, d2, g1] => { results := [.lit (.bool false)], args := [d1, d2], vars := [g1] }
  | _ => none }
def FnExactDewPointWrongFalsely : Prop := fnExactDewPointRow.holds Tryd.pinned (OpenSpec.ofChange fnExactDewPointWrong)

/-- 'laws.FnExactMoistDensity': WHATEVER THE INPUT: true; the input reads as it did. -/
def fnExactMoistDensitySpec : ChangeSpec := { name := "fnExactMoistDensity", vars := ["loop.example/g01021/impl.saturations"], fn := fun _ => fun
  | [d, g1] => { results := [.lit (.bool true)], args := [d], vars := [g1] }
  | _ => none }
def fnExactMoistDensityRow : OpenClaim := { program := "ytkldgmgjbboiaaadoor", sum := "d6dc81340d2971ae783043e80315cc98d9ae2295f417cc93aba93ecd8d0bae81", func := "loop.example/g01021/laws.FnExactMoistDensity", spec := "fnExactMoistDensity", named := ["loop.example/g01021/impl.saturations"], apart := false, laid := [("loop.example/g01021/impl.saturations", laid_loop_example_g01021_impl_saturations)] }
def FnExactMoistDensitySaid : Prop := fnExactMoistDensityRow.holds Tryd.pinned (OpenSpec.ofChange fnExactMoistDensitySpec)

/-- ITS FALSE NEIGHBOUR: 'it returns false'. Refute it at one input. -/
def fnExactMoistDensityWrong : ChangeSpec := { name := "fnExactMoistDensity", vars := ["loop.example/g01021/impl.saturations"], fn := fun _ => fun
  | [d, g1] => { results := [.lit (.bool false)], args := [d], vars := [g1] }
  | _ => none }
def FnExactMoistDensityWrongFalsely : Prop := fnExactMoistDensityRow.holds Tryd.pinned (OpenSpec.ofChange fnExactMoistDensityWrong)

/-- 'laws.FnExactAirText': WHATEVER THE INPUT: true; the input reads as it did. -/
def fnExactAirTextSpec : ChangeSpec := { name := "fnExactAirText", fn := fun _ => fun
  | [d] => { results := [.lit (.bool true)], args := [d] }
  | _ => none }
def fnExactAirTextRow : OpenClaim := { program := "ytkldgmgjbboiaaadoor", sum := "d6dc81340d2971ae783043e80315cc98d9ae2295f417cc93aba93ecd8d0bae81", func := "loop.example/g01021/laws.FnExactAirText", spec := "fnExactAirText", inPlace := ["internal/abi.NoEscape", "internal/bytealg.MakeNoZero"], named := ["internal/strconv.uint64pow10", "math/bits.deBruijn32tab", "math/bits.deBruijn64tab"], apart := false, laid := [("math/bits.deBruijn32tab", laid_math_bits_deBruijn32tab), ("math/bits.deBruijn64tab", laid_math_bits_deBruijn64tab), ("internal/strconv.uint64pow10", laid_internal_strconv_uint64pow10)] }
def FnExactAirTextSaid : Prop := fnExactAirTextRow.holds Tryd.pinned (OpenSpec.ofChange fnExactAirTextSpec)

/-- ITS FALSE NEIGHBOUR: 'it returns false'. Refute it at one input. -/
def fnExactAirTextWrong : ChangeSpec := { name := "fnExactAirText", fn := fun _ => fun
  | [d] => { results := [.lit (.bool false)], args := [d] }
  | _ => none }
def FnExactAirTextWrongFalsely : Prop := fnExactAirTextRow.holds Tryd.pinned (OpenSpec.ofChange fnExactAirTextWrong)

/- THE SECOND FORM. 'bulk': how many values and letters a reading holds, each counted each time it is reached (what is shared counts as often as it is met; a slice's spare places count too). A statement '..UptoSaid' is the law's where the arguments, and the package variables that the reading takes, are together of bulk at most 1048576: NARROWER than '..Said'. Prove '..Said' where nothing that the law and all that it calls make is longer than what came in: it says more and counts as full. Else prove '..UptoSaid'. A law counts once. -/
mutual
def uptoBulk {H : Type} : DataW H → Nat
  | .lit (.string bytes) => bytes.length + 1
  | .lit _ => 1
  | .nil => 1
  | .ptr d => uptoBulk d + 1
  | .slice elems spare => uptoBulkAll elems + uptoBulkAll spare + 1
  | .agg parts => uptoBulkAll parts + 1
  | .iface _ d => uptoBulk d + 1
  | .map entries => uptoBulkEntries entries + 1
  | .held _ => 1
def uptoBulkAll {H : Type} : List (DataW H) → Nat
  | [] => 0
  | d :: r => uptoBulk d + uptoBulkAll r
def uptoBulkEntries {H : Type} : List (Lit × DataW H) → Nat
  | [] => 0
  | x :: r => uptoBulkEntry x + uptoBulkEntries r
def uptoBulkEntry {H : Type} : Lit × DataW H → Nat
  | (.string bytes, d) => bytes.length + uptoBulk d + 1
  | (_, d) => uptoBulk d + 1
 end
def uptoSmall : (H : Type) → List (DataW H) → Bool := fun _ ds => decide (uptoBulkAll ds ≤ 1048576)
def OpenSpec.upto (s : _root_.Go.ChangeSpec) : _root_.Go.OpenSpec := { _root_.Go.OpenSpec.ofChange s with cond := some uptoSmall }

/-- 'laws.FnExactSaturationOf', WHERE WHAT IT READS IS OF BULK AT MOST 1048576: true; the input reads as it did. -/
def fnExactSaturationOfUptoRow : OpenClaim := { program := "ytkldgmgjbboiaaadoor", sum := "d6dc81340d2971ae783043e80315cc98d9ae2295f417cc93aba93ecd8d0bae81", func := "loop.example/g01021/laws.FnExactSaturationOf", spec := "fnExactSaturationOf", named := ["loop.example/g01021/impl.saturations"], apart := false, laid := [("loop.example/g01021/impl.saturations", laid_loop_example_g01021_impl_saturations)], narrowed := true }
def FnExactSaturationOfUptoSaid : Prop := fnExactSaturationOfUptoRow.holds Tryd.pinned (OpenSpec.upto fnExactSaturationOfSpec)

/-- 'laws.FnExactVapourOf', WHERE WHAT IT READS IS OF BULK AT MOST 1048576: true; the input reads as it did. -/
def fnExactVapourOfUptoRow : OpenClaim := { program := "ytkldgmgjbboiaaadoor", sum := "d6dc81340d2971ae783043e80315cc98d9ae2295f417cc93aba93ecd8d0bae81", func := "loop.example/g01021/laws.FnExactVapourOf", spec := "fnExactVapourOf", named := ["loop.example/g01021/impl.saturations"], apart := false, laid := [("loop.example/g01021/impl.saturations", laid_loop_example_g01021_impl_saturations)], narrowed := true }
def FnExactVapourOfUptoSaid : Prop := fnExactVapourOfUptoRow.holds Tryd.pinned (OpenSpec.upto fnExactVapourOfSpec)

/-- 'laws.FnExactHumidityFor', WHERE WHAT IT READS IS OF BULK AT MOST 1048576: true; the input reads as it did. -/
def fnExactHumidityForUptoRow : OpenClaim := { program := "ytkldgmgjbboiaaadoor", sum := "d6dc81340d2971ae783043e80315cc98d9ae2295f417cc93aba93ecd8d0bae81", func := "loop.example/g01021/laws.FnExactHumidityFor", spec := "fnExactHumidityFor", named := ["loop.example/g01021/impl.saturations"], apart := false, laid := [("loop.example/g01021/impl.saturations", laid_loop_example_g01021_impl_saturations)], narrowed := true }
def FnExactHumidityForUptoSaid : Prop := fnExactHumidityForUptoRow.holds Tryd.pinned (OpenSpec.upto fnExactHumidityForSpec)

/-- 'laws.FnExactDewPoint', WHERE WHAT IT READS IS OF BULK AT MOST 1048576: true; the input reads as it did. -/
def fnExactDewPointUptoRow : OpenClaim := { program := "ytkldgmgjbboiaaadoor", sum := "d6dc81340d2971ae783043e80315cc98d9ae2295f417cc93aba93ecd8d0bae81", func := "loop.example/g01021/laws.FnExactDewPoint", spec := "fnExactDewPoint", unfollowed := true, recurses := true, named := ["loop.example/g01021/impl.saturations"], apart := false, laid := [("loop.example/g01021/impl.saturations", laid_loop_example_g01021_impl_saturations)], narrowed := true }
def FnExactDewPointUptoSaid : Prop := fnExactDewPointUptoRow.holds Tryd.pinned (OpenSpec.upto fnExactDewPointSpec)

/-- 'laws.FnExactMoistDensity', WHERE WHAT IT READS IS OF BULK AT MOST 1048576: true; the input reads as it did. -/
def fnExactMoistDensityUptoRow : OpenClaim := { program := "ytkldgmgjbboiaaadoor", sum := "d6dc81340d2971ae783043e80315cc98d9ae2295f417cc93aba93ecd8d0bae81", func := "loop.example/g01021/laws.FnExactMoistDensity", spec := "fnExactMoistDensity", named := ["loop.example/g01021/impl.saturations"], apart := false, laid := [("loop.example/g01021/impl.saturations", laid_loop_example_g01021_impl_saturations)], narrowed := true }
def FnExactMoistDensityUptoSaid : Prop := fnExactMoistDensityUptoRow.holds Tryd.pinned (OpenSpec.upto fnExactMoistDensitySpec)

/-- 'laws.FnExactAirText', WHERE WHAT IT READS IS OF BULK AT MOST 1048576: true; the input reads as it did. -/
def fnExactAirTextUptoRow : OpenClaim := { program := "ytkldgmgjbboiaaadoor", sum := "d6dc81340d2971ae783043e80315cc98d9ae2295f417cc93aba93ecd8d0bae81", func := "loop.example/g01021/laws.FnExactAirText", spec := "fnExactAirText", inPlace := ["internal/abi.NoEscape", "internal/bytealg.MakeNoZero"], named := ["internal/strconv.uint64pow10", "math/bits.deBruijn32tab", "math/bits.deBruijn64tab"], apart := false, laid := [("math/bits.deBruijn32tab", laid_math_bits_deBruijn32tab), ("math/bits.deBruijn64tab", laid_math_bits_deBruijn64tab), ("internal/strconv.uint64pow10", laid_internal_strconv_uint64pow10)], narrowed := true }
def FnExactAirTextUptoSaid : Prop := fnExactAirTextUptoRow.holds Tryd.pinned (OpenSpec.upto fnExactAirTextSpec)

end Rows
end Go.Proofs.YtkldgmgjbboiaaaDoor
