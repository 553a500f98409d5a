/-
  Contracts of the quotients and lines of chapter 1. Conditions: those that each theorem states.
-/
import Derived.Test.YtnlkikdgffaeeaaDoorBa
namespace Go.Proofs.YtnlkikdgffaeeaaDoor
open Go.RowKit
set_option linter.unusedVariables false

/-- The nearest integer to a / b, away from 0 if two are; 0 if b is 0. -/
def halfUp (x y : Nat) : Nat := if y - x % y ≤ x % y then x / y + 1 else x / y
def divR (a b : Int) : Int := if b = 0 then 0 else if decide (a < 0) != decide (b < 0) then -(halfUp a.natAbs b.natAbs : Int) else halfUp a.natAbs b.natAbs

theorem halfUp_lt (x y : Nat) (h : y - x % y ≤ x % y) (hy : 0 < y) : x / y + 1 ≤ x := by
  have h1 := Nat.mod_lt x hy
  have h2 : 2 ≤ y := by omega
  have h3 := Nat.div_add_mod x y
  have h4 : 2 * (x / y) ≤ y * (x / y) := Nat.mul_le_mul_right _ h2
  omega
theorem near_cases (a b : Int) (X Y : Nat) (hX : X ≤ 9223372036854775807) (hY : Y ≤ 9223372036854775807) (h0 : Y ≠ 0) :
    (((X : Int) / (Y : Int)) = ((X / Y : Nat) : Int)) ∧ ((X : Int) % (Y : Int) = ((X % Y : Nat) : Int)) ∧ X / Y ≤ X ∧ X % Y < Y ∧ (Y - X % Y ≤ X % Y → X / Y + 1 ≤ X) :=
  ⟨by omega, by omega, Nat.div_le_self _ _, Nat.mod_lt _ (by omega), fun h => halfUp_lt _ _ h (by omega)⟩

theorem halfUp_eq (x y : Nat) (hy : 0 < y) : halfUp x y = (2 * x + y) / (2 * y) := by
  have h3 := Nat.div_add_mod x y
  have h1 := Nat.mod_lt x hy
  unfold halfUp
  generalize x / y = q at *
  generalize x % y = r at *
  symm
  split
  · rw [Nat.div_eq_iff (by omega)]
    have e : (q + 1) * (2 * y) = 2 * (y * q) + 2 * y := by rw [Nat.add_mul, Nat.mul_comm q, Nat.mul_comm 2 y, Nat.mul_assoc, Nat.mul_left_comm]; omega
    omega
  · rw [Nat.div_eq_iff (by omega)]
    have e : q * (2 * y) = 2 * (y * q) := by rw [Nat.mul_comm q, Nat.mul_assoc]
    omega
theorem divR_pp (a b : Int) (ha : 0 ≤ a) (hb : 0 < b) : divR a b = (2 * a + b) / (2 * b) := by
  obtain ⟨x, rfl⟩ := Int.eq_ofNat_of_zero_le ha
  obtain ⟨y, rfl⟩ := Int.eq_ofNat_of_zero_le (Int.le_of_lt hb)
  unfold divR
  rw [if_neg (by omega), if_neg (by simp; omega), Int.natAbs_natCast, Int.natAbs_natCast, halfUp_eq x y (by omega)]
  simp
theorem divR_neg_left (a b : Int) (ha : a ≠ 0) : divR (-a) b = -divR a b := by
  unfold divR
  by_cases hb : b = 0
  · simp [hb]
  · rw [if_neg hb, if_neg hb, Int.natAbs_neg]
    by_cases h1 : a < 0 <;> by_cases h2 : b < 0 <;> simp [h1, h2] <;> omega
theorem divR_neg_both (a b : Int) (ha : a ≠ 0) : divR (-a) (-b) = divR a b := by
  unfold divR
  by_cases hb : b = 0
  · simp [hb]
  · rw [if_neg hb, if_neg (by omega), Int.natAbs_neg, Int.natAbs_neg]
    by_cases h1 : a < 0 <;> by_cases h2 : b < 0 <;> simp [h1, h2] <;> omega
theorem divR_zero (b : Int) : divR 0 b = 0 := by
  unfold divR
  by_cases hb : b = 0
  · simp [hb]
  · have : halfUp 0 b.natAbs = 0 := by unfold halfUp; simp; omega
    simp [hb, this]
theorem divR_np (a b : Int) (ha : a < 0) (hb : 0 < b) : divR a b = -((b - 2 * a) / (2 * b)) := by
  have := divR_pp (-a) b (by omega) hb
  rw [divR_neg_left a b (by omega)] at this
  rw [show b - 2 * a = 2 * -a + b by omega, ← this]; omega

theorem div_bd (p q : Int) (hp : 0 ≤ p) (hq : 0 < q) : 0 ≤ p / q ∧ p / q ≤ p :=
  ⟨Int.ediv_nonneg hp (by omega), Int.ediv_le_self _ hp⟩
/-- What DivRound returns. -/
def divRound (a b : Int) : Int := if (-1000000000000 ≤ a ∧ a ≤ 1000000000000) ∧ (-1000000000000 ≤ b ∧ b ≤ 1000000000000) then divR a b else 0
def I64 (a : Int) : Prop := -9223372036854775808 ≤ a ∧ a ≤ 9223372036854775807
theorem i64_of {a : Int} (h : (Lit.int .i64 a).wf = true) : I64 a := by
  simp only [Lit.wf, IntKind.min, IntKind.max, IntKind.bits, IntKind.signed, Bool.and_eq_true, decide_eq_true_eq, if_true] at h
  unfold I64; omega

theorem grown_drewN {W w : World} (h : Grown W w) (n : Nat) : Grown W (w.drewN n) := h
theorem grown_one (w : World) (c : Array Value) (t : TypeId) : Grown w (w.alloc (.cells c t)) := (Grown.refl _).alloc _ _
end Go.Proofs.YtnlkikdgffaeeaaDoor
