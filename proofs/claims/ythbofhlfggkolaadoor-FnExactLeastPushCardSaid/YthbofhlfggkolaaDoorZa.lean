/-
  Contracts of chapter 9: densities and draughts of columns; the model's and the program's. Conditions: those that each theorem states.
-/
import Derived.Test.YthbofhlfggkolaaDoorCa
import Derived.Test.YthbofhlfggkolaaDoorBc
namespace Go.Proofs.YthbofhlfggkolaaDoor
open Go.RowKit
set_option linter.unusedVariables false
set_option linter.unusedSimpArgs false

/-- The density of air in a column, and its draught. -/
def denT (t : Int) : Int := divR 3531183 (2731 + t)
theorem denT_bd {t : Int} (h1 : -300 ≤ t) (h2 : t ≤ 600) : 1060 ≤ denT t ∧ denT t ≤ 1453 := by
  unfold denT
  rw [divR_pp _ _ (by omega) (by omega)]
  refine ⟨Int.le_ediv_of_mul_le (by omega) (by omega), ?_⟩
  have : (2 * 3531183 + (2731 + t)) / (2 * (2731 + t)) < 1454 := Int.ediv_lt_of_lt_mul (by omega) (by omega)
  omega
def colR (r t : Int) : Int := divR (981 * (1200 - denT t) * r) 100000
theorem col_bd {r t : Int} (h1 : -300 ≤ t) (h2 : t ≤ 600) (h3 : -6000 ≤ r) (h4 : r ≤ 6000) : -1489158000 ≤ 981 * (1200 - denT t) * r ∧ 981 * (1200 - denT t) * r ≤ 1489158000 := by
  have h := denT_bd h1 h2
  have := mul_bd (981 * (1200 - denT t)) r 248193 6000 (by omega) (by omega) (by omega) (by omega)
  omega
theorem colR_bd {r t : Int} (h1 : -300 ≤ t) (h2 : t ≤ 600) (h3 : -6000 ≤ r) (h4 : r ≤ 6000) : -1489158000 ≤ colR r t ∧ colR r t ≤ 1489158000 := by
  have h := col_bd h1 h2 h3 h4
  have := divR_bd (981 * (1200 - denT t) * r) 100000
  unfold colR
  omega
/-- What WarmDensity and ColumnDraught return. -/
def wdA (t : Int) : Int := if inB t (-300) 600 then denT t else 0
def wdB (t : Int) : Int := if inB t (-300) 600 then 0 else 2
def cdA (r t : Int) : Int := if inB r (-6000) 6000 && inB t (-300) 600 then colR r t else 0
def cdB (r t : Int) : Int := if inB r (-6000) 6000 && inB t (-300) 600 then 0 else 2
/-- The first number below n that fits; n if there is none. -/
def fstN (p : Nat → Bool) : Nat → Nat
  | 0 => 0
  | n + 1 => if fstN p n = n then (if p n then n else n + 1) else fstN p n
theorem fstN_spec (p : Nat → Bool) (n : Nat) : fstN p n ≤ n ∧ (∀ t, t < fstN p n → p t = false) ∧ (fstN p n < n → p (fstN p n) = true) := by
  induction n with
  | zero => simp [fstN]
  | succ n ih =>
    obtain ⟨a, b, c⟩ := ih
    rw [fstN]
    by_cases e : fstN p n = n
    · rw [if_pos e]
      by_cases h : p n = true
      · rw [if_pos h]; exact ⟨by omega, by rwa [e] at b, fun _ => h⟩
      · rw [if_neg h]
        refine ⟨Nat.le_refl _, fun t ht => ?_, fun h => absurd h (by omega)⟩
        rcases Nat.lt_or_ge t n with q | q
        · exact b t (by omega)
        · obtain rfl : t = n := by omega
          simpa using h
    · rw [if_neg e]; exact ⟨by omega, b, fun _ => c (by omega)⟩
theorem fstN_uniq (p : Nat → Bool) (n m : Nat) (h1 : m ≤ n) (h2 : ∀ t, t < m → p t = false) (h3 : m < n → p m = true) : fstN p n = m := by
  obtain ⟨a, b, c⟩ := fstN_spec p n
  rcases Nat.lt_trichotomy (fstN p n) m with h | h | h
  · have := h2 _ h; rw [c (by omega)] at this; exact absurd this (by simp)
  · exact h
  · have := b _ h; rw [h3 (by omega)] at this; exact absurd this (by simp)
/-- What TemperatureFor returns. -/
def tfK (r d : Int) : Nat := fstN (fun k => decide (d ≤ colR r ((k : Int) - 300))) 901
def tfA (r d : Int) : Int := if inB r (-6000) 6000 && inB d (-100000) 100000 then (if tfK r d < 901 then (tfK r d : Int) - 300 else 0) else 0
def tfB (r d : Int) : Int := if inB r (-6000) 6000 && inB d (-100000) 100000 then (if tfK r d < 901 then 0 else 3) else 2
theorem tf_yes {r d t : Int} (i1 : inB r (-6000) 6000 = true) (i2 : inB d (-100000) 100000 = true) (h1 : -300 ≤ t) (h2 : t ≤ 600) (h : ∀ u, -300 ≤ u → u < t → colR r u < d) (h3 : d ≤ colR r t) : tfA r d = t ∧ tfB r d = 0 := by
  have e : tfK r d = (t + 300).toNat := by
    apply fstN_uniq
    · omega
    · intro k hk
      have := h ((k : Int) - 300) (by omega) (by omega)
      simpa using this
    · intro _
      rw [show (((t + 300).toNat : Nat) : Int) - 300 = t by omega]
      simpa using h3
  unfold tfA tfB
  rw [i1, i2, e]
  simp only [Bool.and_self, if_true]
  rw [if_pos (by omega), if_pos (by omega)]
  exact ⟨by omega, rfl⟩
theorem tf_no {r d : Int} (i1 : inB r (-6000) 6000 = true) (i2 : inB d (-100000) 100000 = true) (h : ∀ u, -300 ≤ u → u < 601 → colR r u < d) : tfA r d = 0 ∧ tfB r d = 3 := by
  have e : tfK r d = 901 := by
    apply fstN_uniq
    · omega
    · intro k hk
      have := h ((k : Int) - 300) (by omega) (by omega)
      simpa using this
    · intro h; omega
  unfold tfA tfB
  rw [i1, i2, e]
  simp
theorem tf_bad1 {r d : Int} (i1 : inB r (-6000) 6000 = false) : tfA r d = 0 ∧ tfB r d = 2 := by simp [tfA, tfB, i1]
theorem tf_bad2 {r d : Int} (i1 : inB d (-100000) 100000 = false) : tfA r d = 0 ∧ tfB r d = 2 := by simp [tfA, tfB, i1]
end Go.Proofs.YthbofhlfggkolaaDoor
