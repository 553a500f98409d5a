/-
  Sums of the first k values; the first number that fits. Conditions: those that each theorem states.
-/
import Derived.Test.YtnlkikdgffaeeaaDoorBa
namespace Go.Proofs.YtnlkikdgffaeeaaDoor
open Go.RowKit
set_option linter.unusedVariables false
set_option linter.unusedSimpArgs false

/-- The sum of the first k values. -/
def sumK (f : Nat → Int) : Nat → Int
  | 0 => 0
  | k + 1 => sumK f k + f k
theorem sumK_bd {f : Nat → Int} {M : Int} {n : Nat} (h : ∀ k, k < n → 0 ≤ f k ∧ f k ≤ M) : ∀ k, k ≤ n → 0 ≤ sumK f k ∧ sumK f k ≤ M * (k : Int)
  | 0, _ => by simp [sumK]
  | k + 1, hk => by
    have ih := sumK_bd h k (by omega)
    have := h k (by omega)
    have e : M * ((k + 1 : Nat) : Int) = M * (k : Int) + M := by rw [show ((k + 1 : Nat) : Int) = (k : Int) + 1 by omega, Int.mul_add, Int.mul_one]
    rw [e]
    show 0 ≤ sumK f k + f k ∧ sumK f k + f k ≤ _
    omega
theorem sumK_mono {f : Nat → Int} {n : Nat} (h : ∀ k, k < n → 0 ≤ f k) : ∀ k, k ≤ n → sumK f k ≤ sumK f n := by
  intro k hk
  induction n with
  | zero => obtain rfl : k = 0 := by omega
            exact Int.le_refl _
  | succ n ih =>
    by_cases e : k = n + 1
    · subst e; exact Int.le_refl _
    · have h1 := ih (fun j hj => h j (by omega)) (by omega)
      have h2 := h n (by omega)
      show sumK f k ≤ sumK f n + f n
      omega
theorem sumK_congr {f g : Nat → Int} : ∀ {n : Nat}, (∀ k, k < n → f k = g k) → sumK f n = sumK g n
  | 0, _ => rfl
  | n + 1, h => by
    show sumK f n + f n = sumK g n + g n
    rw [sumK_congr (fun k hk => h k (by omega)), h n (by omega)]
theorem sumK_sub (f g : Nat → Int) : ∀ n, sumK (fun k => f k - g k) n = sumK f n - sumK g n
  | 0 => rfl
  | n + 1 => by
    show sumK (fun k => f k - g k) n + (f n - g n) = sumK f n + f n - (sumK g n + g n)
    rw [sumK_sub f g n]; omega
theorem sumK_getD {xs : List Int} {f : Nat → Int} {n : Nat} (hx : xs = (List.range n).map f) : ∀ k, k ≤ n → sumK (fun i => xs.getD i 0) k = sumK f k := by
  intro k hk
  apply sumK_congr
  intro j hj
  subst hx
  simp [List.getD, show j < n by omega]
/-- The first number below n that fits; n if there is none. -/
def fsK (p : Nat → Bool) : Nat → Nat
  | 0 => 0
  | n + 1 => if fsK p n = n then (if p n then n else n + 1) else fsK p n
theorem fsK_spec (p : Nat → Bool) (n : Nat) : fsK p n ≤ n ∧ (∀ t, t < fsK p n → p t = false) ∧ (fsK p n < n → p (fsK p n) = true) := by
  induction n with
  | zero => simp [fsK]
  | succ n ih =>
    obtain ⟨a, b, c⟩ := ih
    rw [fsK]
    by_cases e : fsK p n = n
    · rw [if_pos e]
      by_cases h : p n = true
      · rw [if_pos h]; exact ⟨by omega, by rwa [e] at b, fun _ => h⟩
      · rw [if_neg h]
        refine ⟨Nat.le_refl _, fun t ht => ?_, fun h => absurd h (by omega)⟩
        rcases Nat.lt_or_ge t n with q | q
        · exact b t (by omega)
        · obtain rfl : t = n := by omega
          simpa using h
    · rw [if_neg e]; exact ⟨by omega, b, fun _ => c (by omega)⟩
theorem fsK_eq {p : Nat → Bool} {n k : Nat} (hk : k ≤ n) (h1 : ∀ t, t < k → p t = false) (h2 : k < n → p k = true) : fsK p n = k := by
  obtain ⟨a, b, c⟩ := fsK_spec p n
  rcases Nat.lt_trichotomy (fsK p n) k with h | h | h
  · have := h1 _ h
    rw [c (by omega)] at this; cases this
  · exact h
  · have := b _ h
    rw [h2 (by omega)] at this; cases this
end Go.Proofs.YtnlkikdgffaeeaaDoor
