/-
  PROVED: three closed facts over the whole program, that each statement's frame asks for. Conditions: none.
-/
import Derived.Test.YtnlkikdgffaeeaaRows
import Derived.ProofKit
namespace Go.Proofs.Ytnlkikdgffaeeaa
theorem fxMay : Try.pinned.checked.prog.mayEnter = true := by as_aux_lemma => kernel_rfl
theorem fxLifts : Try.pinned.checked.prog.liftsFinal = Rows.fnExactValidDustingRow.lifted := by as_aux_lemma => kernel_rfl
theorem fxMake : Try.pinned.checked.prog.make = some Rows.fnExactValidDustingRow.make := by as_aux_lemma => kernel_rfl
end Go.Proofs.Ytnlkikdgffaeeaa
