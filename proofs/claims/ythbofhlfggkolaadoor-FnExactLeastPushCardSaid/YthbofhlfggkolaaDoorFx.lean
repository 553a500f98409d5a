/-
  PROVED: three closed facts over the whole program, that each statement's frame asks for. Conditions: none.
-/
import Derived.Test.YthbofhlfggkolaaDoorRows
import Derived.ProofKit
namespace Go.Proofs.YthbofhlfggkolaaDoor
theorem fxMay : Tryd.pinned.checked.prog.mayEnter = true := by as_aux_lemma => kernel_rfl
theorem fxLifts : Tryd.pinned.checked.prog.liftsFinal = Rows.fnExactSourceTextRow.lifted := by as_aux_lemma => kernel_rfl
theorem fxMake : Tryd.pinned.checked.prog.make = some Rows.fnExactSourceTextRow.make := by as_aux_lemma => kernel_rfl
end Go.Proofs.YthbofhlfggkolaaDoor
