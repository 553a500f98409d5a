/-
  Contracts of lines through two points and of roots of chapter 1. Conditions: those that each theorem states.
-/
import Derived.Test.YtmjinanapihkoaaBb
namespace Go.Proofs.Ytmjinanapihkoaa
open Go.RowKit
set_option linter.unusedVariables false

theorem mul_bd (p q A B : Int) (h1 : -A ≤ p) (h2 : p ≤ A) (h3 : -B ≤ q) (h4 : q ≤ B) : -(A * B) ≤ p * q ∧ p * q ≤ A * B := by
  have hA : 0 ≤ A := by omega
  have h : (p * q).natAbs ≤ (A * B).natAbs := by rw [Int.natAbs_mul, Int.natAbs_mul]; exact Nat.mul_le_mul (by omega) (by omega)
  have hAB : 0 ≤ A * B := Int.mul_nonneg (by omega) (by omega)
  omega
theorem halfUp_le (x y : Nat) (hy : 0 < y) : halfUp x y ≤ x := by
  unfold halfUp
  split
  · exact halfUp_lt x y ‹_› hy
  · exact Nat.div_le_self _ _
theorem divR_bd (a b : Int) : -a.natAbs ≤ divR a b ∧ divR a b ≤ a.natAbs := by
  unfold divR
  split
  · omega
  · have := halfUp_le a.natAbs b.natAbs (by omega)
    split <;> omega

def lineR (x0 y0 x1 y1 x : Int) : Int := if x ≤ x0 ∨ x1 ≤ x0 then y0 else if x1 ≤ x then y1 else y0 + divR ((y1 - y0) * (x - x0)) (x1 - x0)
theorem lineR_0 {x0 y0 x1 y1 x : Int} (h : x ≤ x0 ∨ x1 ≤ x0) : lineR x0 y0 x1 y1 x = y0 := if_pos h
theorem lineR_1 {x0 y0 x1 y1 x : Int} (h : ¬ (x ≤ x0 ∨ x1 ≤ x0)) (h' : x1 ≤ x) : lineR x0 y0 x1 y1 x = y1 := by unfold lineR; rw [if_neg h, if_pos h']
theorem lineR_2 {x0 y0 x1 y1 x : Int} (h : ¬ (x ≤ x0 ∨ x1 ≤ x0)) (h' : ¬ x1 ≤ x) : lineR x0 y0 x1 y1 x = y0 + divR ((y1 - y0) * (x - x0)) (x1 - x0) := by unfold lineR; rw [if_neg h, if_neg h']

def B9 (a : Int) : Prop := -500000000 ≤ a ∧ a ≤ 500000000

theorem l01Line_any (x0 y0 x1 y1 x : Int) (w : World) (a1 : B9 x0) (a2 : B9 y0) (a3 : B9 x1) (a4 : B9 y1) (hx : I64 x) :
    Calls Try.prog 201 #[.int .i64 x0, .int .i64 y0, .int .i64 x1, .int .i64 y1, .int .i64 x] w fun e w' => e = .returned (.int .i64 (lineR x0 y0 x1 y1 x)) ∧ w = w' := by
  unfold B9 at a1 a2 a3 a4
  by_cases h1 : x ≤ x0
  · have HE := Lib.hid (lineR_0 (y0 := y0) (y1 := y1) (x1 := x1) (Or.inl h1))
    go_enter Try.func201, Try.ntmps201
    go_wp2
    go_ret
    exact ⟨ret_int HE.out.symm, rfl⟩
  · by_cases h2 : x1 ≤ x0
    · have HE := Lib.hid (lineR_0 (x := x) (y0 := y0) (y1 := y1) (Or.inr h2))
      go_enter Try.func201, Try.ntmps201
      go_wp2
      go_ret
      exact ⟨ret_int HE.out.symm, rfl⟩
    · by_cases h3 : x1 ≤ x
      · have HE := Lib.hid (lineR_1 (y0 := y0) (y1 := y1) (show ¬ (x ≤ x0 ∨ x1 ≤ x0) by omega) h3)
        go_enter Try.func201, Try.ntmps201
        go_wp2
        go_ret
        exact ⟨ret_int HE.out.symm, rfl⟩
      · have HE := Lib.hid (lineR_2 (y0 := y0) (y1 := y1) (show ¬ (x ≤ x0 ∨ x1 ≤ x0) by omega) h3)
        have hm := mul_bd (y1 - y0) (x - x0) 1000000000 1000000000 (by omega) (by omega) (by omega) (by omega)
        have hd := divR_bd ((y1 - y0) * (x - x0)) (x1 - x0)
        go_enter Try.func201, Try.ntmps201
        go_wp2_with (go_at_call 95; refine (l01Div_any _ _ _ (by omega) (by omega) (by omega) (by omega) (by omega)).mono ?_; rintro e w' ⟨rfl, rfl⟩)
        go_ret
        exact ⟨ret_int HE.out.symm, rfl⟩

theorem onLine_any (x0 y0 x1 y1 x : Int) (w : World) (a1 : B9 x0) (a2 : B9 y0) (a3 : B9 x1) (a4 : B9 y1) (hx : I64 x) :
    Calls Try.prog 204 #[.int .i64 x0, .int .i64 y0, .int .i64 x1, .int .i64 y1, .int .i64 x] w fun e w' => e = .returned (.int .i64 (lineR x0 y0 x1 y1 x)) ∧ ∃ n, w' = w.drewN n := by
  unfold B9 at a1 a2 a3 a4
  by_cases h1 : x ≤ x0
  · have HE := Lib.hid (lineR_0 (y0 := y0) (y1 := y1) (x1 := x1) (Or.inl h1))
    go_enter Try.func204, Try.ntmps204
    go_wp2
    go_ret
    exact ⟨ret_int HE.out.symm, 0, rfl⟩
  · by_cases h2 : x1 ≤ x0
    · have HE := Lib.hid (lineR_0 (x := x) (y0 := y0) (y1 := y1) (Or.inr h2))
      go_enter Try.func204, Try.ntmps204
      go_wp2
      go_ret
      exact ⟨ret_int HE.out.symm, 0, rfl⟩
    · by_cases h3 : x1 ≤ x
      · have HE := Lib.hid (lineR_1 (y0 := y0) (y1 := y1) (show ¬ (x ≤ x0 ∨ x1 ≤ x0) by omega) h3)
        go_enter Try.func204, Try.ntmps204
        go_wp2
        go_ret
        exact ⟨ret_int HE.out.symm, 0, rfl⟩
      · have HE := Lib.hid (lineR_2 (y0 := y0) (y1 := y1) (show ¬ (x ≤ x0 ∨ x1 ≤ x0) by omega) h3)
        have hm := mul_bd (y1 - y0) (x - x0) 1000000000 1000000000 (by omega) (by omega) (by omega) (by omega)
        have hd := divR_bd ((y1 - y0) * (x - x0)) (x1 - x0)
        go_enter Try.func204, Try.ntmps204
        go_wp2_with (go_at_call 85; refine (nearest_any _ _ _ (by omega) (by omega) (by omega) (by omega)).mono ?_; rintro e w' ⟨rfl, n, rfl⟩)
        go_ret
        exact ⟨ret_int HE.out.symm, n, rfl⟩

/-- What Blend returns. -/
def blendR (x0 y0 x1 y1 x : Int) : Int :=
  if (((-1000000 ≤ x0 ∧ x0 ≤ 1000000) ∧ (-1000000 ≤ x1 ∧ x1 ≤ 1000000)) ∧ (-1000000 ≤ y0 ∧ y0 ≤ 1000000)) ∧ (-1000000 ≤ y1 ∧ y1 ≤ 1000000) then lineR x0 y0 x1 y1 x else 0

end Go.Proofs.Ytmjinanapihkoaa
