/-
  PROVED: three closed facts over the whole program, that each statement's frame asks for. Conditions: none.
-/
import Derived.Test.YtoojndohddellaaGreatDoorRows
import Derived.ProofKit
namespace Go.Proofs.YtoojndohddellaaGreatDoor
theorem fxMay : Tryz.pinned.checked.prog.mayEnter = true := by as_aux_lemma => kernel_rfl
theorem fxLifts : Tryz.pinned.checked.prog.liftsFinal = Rows.fnLeaksRow.lifted := by as_aux_lemma => kernel_rfl
theorem fxMake : Tryz.pinned.checked.prog.make = some Rows.fnLeaksRow.make := by as_aux_lemma => kernel_rfl
end Go.Proofs.YtoojndohddellaaGreatDoor
