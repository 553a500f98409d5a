/-
  Contracts of the laws' copies of air. Conditions: those that each theorem states.
-/
import Derived.Test.YtkldgmgjbboiaaaDoorCa
namespace Go.Proofs.YtkldgmgjbboiaaaDoor
open Go.RowKit
set_option linter.unusedVariables false

theorem toAir_any (t p h : Int) (w : World) :
    Calls Tryd.prog 18 #[.agg #[.int .i64 t, .int .i64 p, .int .i64 h]] w fun e w' => e = .returned (.agg #[.int .i64 t, .int .i64 p, .int .i64 h]) ∧ Below w.heap.size w w' := by
  go_enter Tryd.func18, Tryd.ntmps18
  go_wp2
  refine bodyPost_ret (v := .agg #[.int .i64 t, .int .i64 p, .int .i64 h]) (by simp [results, Tryd.results18, go_sem]) rfl ⟨rfl, ?_⟩
  exact (by repeat (first | exact Below.refl _ _ | refine below_drewN' ?_ _ | refine Below.alloc ?_ (by simp <;> omega) _))
theorem iValidAir_below (t p h : Int) (w : World) : Calls Tryd.prog 38 #[.agg #[.int .i64 t, .int .i64 p, .int .i64 h]] w fun e w' => e = .returned (.bool (airOk t p h)) ∧ Below w.heap.size w w' :=
  (iValidAir_any t p h w).mono fun _ _ ⟨h, e⟩ => ⟨h, e ▸ below_box _ _⟩
end Go.Proofs.YtkldgmgjbboiaaaDoor
