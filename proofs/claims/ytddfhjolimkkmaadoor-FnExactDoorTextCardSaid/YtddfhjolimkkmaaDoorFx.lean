/-
  PROVED: three closed facts over the whole program, that each statement's frame asks for. Conditions: none.
-/
import Derived.Test.YtddfhjolimkkmaaDoorRows
import Derived.ProofKit
namespace Go.Proofs.YtddfhjolimkkmaaDoor
theorem fxMay : Tryd.pinned.checked.prog.mayEnter = true := by as_aux_lemma => kernel_rfl
theorem fxLifts : Tryd.pinned.checked.prog.liftsFinal = Rows.fnExactDoorTextRow.lifted := by as_aux_lemma => kernel_rfl
theorem fxMake : Tryd.pinned.checked.prog.make = some Rows.fnExactDoorTextRow.make := by as_aux_lemma => kernel_rfl
end Go.Proofs.YtddfhjolimkkmaaDoor
