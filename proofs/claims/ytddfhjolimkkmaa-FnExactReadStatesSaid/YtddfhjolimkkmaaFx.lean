/-
  PROVED: three closed facts over the whole program, that each statement's frame asks for. Conditions: none.
-/
import Derived.Test.YtddfhjolimkkmaaRows
import Derived.ProofKit
namespace Go.Proofs.Ytddfhjolimkkmaa
theorem fxMay : Try.pinned.checked.prog.mayEnter = true := by as_aux_lemma => kernel_rfl
theorem fxLifts : Try.pinned.checked.prog.liftsFinal = Rows.fnExactValidDoorRow.lifted := by as_aux_lemma => kernel_rfl
theorem fxMake : Try.pinned.checked.prog.make = some Rows.fnExactValidDoorRow.make := by as_aux_lemma => kernel_rfl
end Go.Proofs.Ytddfhjolimkkmaa
