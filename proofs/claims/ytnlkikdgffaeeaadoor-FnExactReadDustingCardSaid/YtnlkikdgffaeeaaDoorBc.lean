/-
  Contracts of lines through two points and of roots of chapter 1. Conditions: those that each theorem states.
-/
import Derived.Test.YtnlkikdgffaeeaaDoorBb
namespace Go.Proofs.YtnlkikdgffaeeaaDoor
open Go.RowKit
set_option linter.unusedVariables false

theorem mul_bd (p q A B : Int) (h1 : -A ≤ p) (h2 : p ≤ A) (h3 : -B ≤ q) (h4 : q ≤ B) : -(A * B) ≤ p * q ∧ p * q ≤ A * B := by
  have hA : 0 ≤ A := by omega
  have h : (p * q).natAbs ≤ (A * B).natAbs := by rw [Int.natAbs_mul, Int.natAbs_mul]; exact Nat.mul_le_mul (by omega) (by omega)
  have hAB : 0 ≤ A * B := Int.mul_nonneg (by omega) (by omega)
  omega
theorem halfUp_le (x y : Nat) (hy : 0 < y) : halfUp x y ≤ x := by
  unfold halfUp
  split
  · exact halfUp_lt x y ‹_› hy
  · exact Nat.div_le_self _ _
theorem divR_bd (a b : Int) : -a.natAbs ≤ divR a b ∧ divR a b ≤ a.natAbs := by
  unfold divR
  split
  · omega
  · have := halfUp_le a.natAbs b.natAbs (by omega)
    split <;> omega

def lineR (x0 y0 x1 y1 x : Int) : Int := if x ≤ x0 ∨ x1 ≤ x0 then y0 else if x1 ≤ x then y1 else y0 + divR ((y1 - y0) * (x - x0)) (x1 - x0)
theorem lineR_0 {x0 y0 x1 y1 x : Int} (h : x ≤ x0 ∨ x1 ≤ x0) : lineR x0 y0 x1 y1 x = y0 := if_pos h
theorem lineR_1 {x0 y0 x1 y1 x : Int} (h : ¬ (x ≤ x0 ∨ x1 ≤ x0)) (h' : x1 ≤ x) : lineR x0 y0 x1 y1 x = y1 := by unfold lineR; rw [if_neg h, if_pos h']
theorem lineR_2 {x0 y0 x1 y1 x : Int} (h : ¬ (x ≤ x0 ∨ x1 ≤ x0)) (h' : ¬ x1 ≤ x) : lineR x0 y0 x1 y1 x = y0 + divR ((y1 - y0) * (x - x0)) (x1 - x0) := by unfold lineR; rw [if_neg h, if_neg h']

def B9 (a : Int) : Prop := -500000000 ≤ a ∧ a ≤ 500000000

/-- What Blend returns. -/
def blendR (x0 y0 x1 y1 x : Int) : Int :=
  if (((-1000000 ≤ x0 ∧ x0 ≤ 1000000) ∧ (-1000000 ≤ x1 ∧ x1 ≤ 1000000)) ∧ (-1000000 ≤ y0 ∧ y0 ≤ 1000000)) ∧ (-1000000 ≤ y1 ∧ y1 ≤ 1000000) then lineR x0 y0 x1 y1 x else 0

end Go.Proofs.YtnlkikdgffaeeaaDoor
