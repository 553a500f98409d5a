/-
  Contracts of chapter 3: resistances; the model's and the program's. Conditions: those that each theorem states.
-/
import Derived.Test.YtoojndohddellaaDoorDb
namespace Go.Proofs.YtoojndohddellaaDoor
open Go.RowKit
set_option linter.unusedVariables false
set_option linter.unusedSimpArgs false

theorem mul_nn {p q A B : Int} (h1 : 0 ≤ p) (h2 : p ≤ A) (h3 : 0 ≤ q) (h4 : q ≤ B) : 0 ≤ p * q ∧ p * q ≤ A * B :=
  ⟨Int.mul_nonneg h1 h3, Int.mul_le_mul h2 h4 h3 (by omega)⟩
end Go.Proofs.YtoojndohddellaaDoor
