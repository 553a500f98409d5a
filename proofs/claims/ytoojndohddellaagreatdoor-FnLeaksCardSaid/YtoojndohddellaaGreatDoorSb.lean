/-
  Contracts of the text of a list of numbers of chapter 1. Conditions: those that each theorem states.
-/
import Derived.Test.YtoojndohddellaaGreatDoorSa
import Derived.Test.YtoojndohddellaaGreatDoorBh
import Derived.Lib.ItoaLen
namespace Go.Proofs.YtoojndohddellaaGreatDoor
open Go.RowKit
set_option linter.unusedVariables false

/-- The numbers in decimal, separated by commas. -/
def commas : List Int → List UInt8
  | [] => []
  | [x] => Lib.itoa x
  | x :: y :: r => Lib.itoa x ++ 44 :: commas (y :: r)
theorem commas_snoc : ∀ (l : List Int) (x : Int), l ≠ [] → commas (l ++ [x]) = commas l ++ 44 :: Lib.itoa x
  | [a], x, _ => rfl
  | a :: b :: r, x, _ => by
    show Lib.itoa a ++ 44 :: commas (b :: r ++ [x]) = _
    rw [commas_snoc (b :: r) x (by simp)]
    simp [commas]
theorem commas_len : ∀ (l : List Int), (∀ y ∈ l, -9223372036854775808 ≤ y ∧ y ≤ 9223372036854775807) → (commas l).length ≤ 22 * l.length
  | [], _ => by simp [commas]
  | [x], h => by have := Lib.itoa_length_le x (h x (by simp)).1 (h x (by simp)).2; simp [commas]; omega
  | x :: y :: r, h => by
    have := Lib.itoa_length_le x (h x (by simp)).1 (h x (by simp)).2
    have ih := commas_len (y :: r) (fun z hz => h z (List.mem_cons_of_mem _ hz))
    simp [commas] at ih ⊢
    omega
theorem bytes_app (a b : List UInt8) : (⟨a.toArray⟩ : ByteArray) ++ ⟨b.toArray⟩ = ⟨(a ++ b).toArray⟩ := by
  apply ByteArray.ext
  simp
def strB (l : List UInt8) : Value := .string ⟨l.toArray⟩

end Go.Proofs.YtoojndohddellaaGreatDoor
