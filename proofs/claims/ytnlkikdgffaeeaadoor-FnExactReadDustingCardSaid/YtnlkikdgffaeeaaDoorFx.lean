/-
  PROVED: three closed facts over the whole program, that each statement's frame asks for. Conditions: none.
-/
import Derived.Test.YtnlkikdgffaeeaaDoorRows
import Derived.ProofKit
namespace Go.Proofs.YtnlkikdgffaeeaaDoor
theorem fxMay : Tryd.pinned.checked.prog.mayEnter = true := by as_aux_lemma => kernel_rfl
theorem fxLifts : Tryd.pinned.checked.prog.liftsFinal = Rows.fnExactDustingTextRow.lifted := by as_aux_lemma => kernel_rfl
theorem fxMake : Tryd.pinned.checked.prog.make = some Rows.fnExactDustingTextRow.make := by as_aux_lemma => kernel_rfl
end Go.Proofs.YtnlkikdgffaeeaaDoor
