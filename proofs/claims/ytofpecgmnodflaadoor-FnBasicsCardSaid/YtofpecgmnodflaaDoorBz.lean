/-
  Plain mathematics for the law of basics: roots, quotients, blends. Conditions: those that each theorem states.
-/
import Derived.Test.YtofpecgmnodflaaDoorBd
import Derived.Test.YtofpecgmnodflaaDoorBc
namespace Go.Proofs.YtofpecgmnodflaaDoor
open Go.RowKit
set_option linter.unusedVariables false
set_option linter.unusedSimpArgs false

theorem root_facts (a : Int) (h : -100000 ≤ a ∧ a ≤ 3600000000) : (a < 0 → rootR a = 0) ∧ (0 ≤ rootR a ∧ rootR a ≤ 60000) ∧ (0 ≤ a → rootR a * rootR a ≤ a ∧ a < (rootR a + 1) * (rootR a + 1)) := by
  have h0 := rootR_nonneg a
  have hm := le_rootR a 60001 (by omega)
  have h1 : rootR a ≤ 60000 := by
    rcases Int.lt_or_le (rootR a) 60001 with q | q
    · omega
    · have := hm.2 q; omega
  refine ⟨fun hn => by unfold rootR; rw [if_pos hn], ⟨h0, h1⟩, fun hp => ?_⟩
  refine ⟨?_, ?_⟩
  · rcases Int.lt_or_le (rootR a) 1 with q | q
    · have : rootR a = 0 := by omega
      rw [this]; omega
    · exact (le_rootR a (rootR a) q).2 (Int.le_refl _)
  · rcases Int.lt_or_le a ((rootR a + 1) * (rootR a + 1)) with q | q
    · exact q
    · have := (le_rootR a (rootR a + 1) (by omega)).1 q
      omega
theorem quot_facts (a b : Int) (h : -100000 ≤ a ∧ a ≤ 3600000000) (hb : 1 ≤ b ∧ b ≤ 5000) : (-b ≤ 2 * (a - divR a b * b) ∧ 2 * (a - divR a b * b) ≤ b) ∧ divR (-a) b = -divR a b ∧ (-3600000000 ≤ divR a b ∧ divR a b ≤ 3600000000) := by
  have hbd := divR_bd a b
  have hsame : divR (-a) b = -divR a b := by
    by_cases h0 : a = 0
    · subst h0; simp [divR_zero]
    · exact divR_neg_left a b h0
  refine ⟨?_, hsame, by omega⟩
  rcases Int.lt_or_le a 0 with hn | hp
  · rw [divR_np a b hn (by omega)]
    have e1 := Int.mul_ediv_add_emod (b - 2 * a) (2 * b)
    have e2 := Int.emod_nonneg (b - 2 * a) (show 2 * b ≠ 0 by omega)
    have e3 := Int.emod_lt_of_pos (b - 2 * a) (show 0 < 2 * b by omega)
    generalize (b - 2 * a) / (2 * b) = q at *
    generalize (b - 2 * a) % (2 * b) = r at *
    have f : 2 * b * q = 2 * (q * b) := by rw [Int.mul_assoc, Int.mul_comm b q]
    rw [Int.neg_mul]
    generalize q * b = t at *
    omega
  · rw [divR_pp a b hp (by omega)]
    have e1 := Int.mul_ediv_add_emod (2 * a + b) (2 * b)
    have e2 := Int.emod_nonneg (2 * a + b) (show 2 * b ≠ 0 by omega)
    have e3 := Int.emod_lt_of_pos (2 * a + b) (show 0 < 2 * b by omega)
    generalize (2 * a + b) / (2 * b) = q at *
    generalize (2 * a + b) % (2 * b) = r at *
    have f : 2 * b * q = 2 * (q * b) := by rw [Int.mul_assoc, Int.mul_comm b q]
    generalize q * b = t at *
    omega
theorem mul_sq (p x : Int) (hp : 0 ≤ p) (hx : 0 ≤ x ∧ x ≤ 999) : 0 ≤ p * x ∧ p * x ≤ 999 * p := by
  have h1 := Int.mul_le_mul_of_nonneg_left hx.2 hp
  exact ⟨Int.mul_nonneg hp hx.1, by omega⟩
theorem line_facts (y z x : Int) (hx : 0 ≤ x ∧ x ≤ 999) (hy : -2500 ≤ y ∧ y ≤ 2499) (hz : -2500 ≤ z ∧ z ≤ 2499) :
    (y ≤ z → y ≤ lineR 0 y 1000 z x ∧ lineR 0 y 1000 z x ≤ z) ∧ (z ≤ y → z ≤ lineR 0 y 1000 z x ∧ lineR 0 y 1000 z x ≤ y) ∧ lineR 0 y 1000 z 0 = y ∧ lineR 0 y 1000 z 1000 = z := by
  refine ⟨fun h => ?_, fun h => ?_, lineR_0 (by omega), lineR_1 (by omega) (by omega)⟩
  · rcases Int.lt_or_le 0 x with q | q
    · rw [lineR_2 (by omega) (by omega)]
      obtain ⟨m1, m2⟩ := mul_sq (z - y) x (by omega) hx
      rw [show x - 0 = x by omega, show (1000 : Int) - 0 = 1000 by omega, divR_pp _ 1000 m1 (by omega)]
      generalize (z - y) * x = t at *
      omega
    · rw [lineR_0 (by omega)]; omega
  · rcases Int.lt_or_le 0 x with q | q
    · rw [lineR_2 (by omega) (by omega)]
      obtain ⟨m1, m2⟩ := mul_sq (y - z) x (by omega) hx
      have e : (z - y) * x = -((y - z) * x) := by rw [← Int.neg_mul]; congr 1; omega
      rw [show x - 0 = x by omega, show (1000 : Int) - 0 = 1000 by omega, e]
      generalize (y - z) * x = t at *
      rcases Int.lt_or_le 0 t with q2 | q2
      · rw [divR_neg_left t 1000 (by omega), divR_pp t 1000 (by omega) (by omega)]
        omega
      · have : t = 0 := by omega
        subst this
        simp [divR_zero]; omega
    · rw [lineR_0 (by omega)]; omega
end Go.Proofs.YtofpecgmnodflaaDoor
