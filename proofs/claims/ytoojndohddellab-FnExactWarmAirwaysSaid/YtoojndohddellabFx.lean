/-
  PROVED: three closed facts over the whole program, that each statement's frame asks for. Conditions: none.
-/
import Derived.Test.YtoojndohddellabRows
import Derived.ProofKit
namespace Go.Proofs.Ytoojndohddellab
theorem fxMay : Try.pinned.checked.prog.mayEnter = true := by as_aux_lemma => kernel_rfl
theorem fxLifts : Try.pinned.checked.prog.liftsFinal = Rows.fnExactWrongLoopRow.lifted := by as_aux_lemma => kernel_rfl
theorem fxMake : Try.pinned.checked.prog.make = some Rows.fnExactWrongLoopRow.make := by as_aux_lemma => kernel_rfl
end Go.Proofs.Ytoojndohddellab
