/-
  Contracts of chapter 3: the greatest flow with at most a drop; the model's and the program's. Conditions: those that each theorem states.
-/
import Derived.Test.YtddfhjolimkkmaaDm
namespace Go.Proofs.Ytddfhjolimkkmaa
open Go.RowKit
set_option linter.unusedVariables false
set_option linter.unusedSimpArgs false

theorem quiet_dr {P : Program} {f : FuncId} {args : Array Value} {w : World} {n : Nat} {v : Value}
    (h : Calls P f args (w.drewN n) fun e w' => e = .returned v ∧ ∃ m, w' = (w.drewN n).drewN m) : Calls P f args (w.drewN n) fun e w'' => e = .returned v ∧ ∃ m, w'' = w.drewN m :=
  h.mono fun _ _ ⟨he, m, hm⟩ => ⟨he, n + m, by rw [hm, World.drewN_drewN]⟩
/-- The number of places ahead of the first that holds. -/
def firstN (p : Nat → Bool) : Nat → Nat
  | 0 => 0
  | n + 1 => if firstN p n = n then (if p n then n else n + 1) else firstN p n
theorem firstN_spec (p : Nat → Bool) (n : Nat) : firstN p n ≤ n ∧ (∀ t, t < firstN p n → p t = false) ∧ (firstN p n < n → p (firstN p n) = true) := by
  induction n with
  | zero => simp [firstN]
  | succ n ih =>
    obtain ⟨h1, h2, h3⟩ := ih
    rw [firstN]
    by_cases e : firstN p n = n
    · rw [if_pos e]
      rw [e] at h2
      cases hp : p n
      · simp only [Bool.false_eq_true, if_false]
        refine ⟨Nat.le_refl _, fun t ht => ?_, fun h => absurd h (by omega)⟩
        rcases Nat.lt_or_ge t n with q | q
        · exact h2 t q
        · rw [show t = n by omega]; exact hp
      · simp only [if_true]
        exact ⟨by omega, h2, fun _ => hp⟩
    · rw [if_neg e]
      exact ⟨by omega, h2, fun _ => h3 (by omega)⟩
theorem firstN_uniq (p : Nat → Bool) (n m : Nat) (h1 : m ≤ n) (h2 : ∀ t, t < m → p t = false) (h3 : m < n → p m = true) : firstN p n = m := by
  obtain ⟨a, b, c⟩ := firstN_spec p n
  rcases Nat.lt_trichotomy (firstN p n) m with h | h | h
  · have := h2 _ h; rw [c (by omega)] at this; cases this
  · exact h
  · have := b _ h; rw [h3 (by omega)] at this; cases this
/-- Greater flows have no lesser drop. -/
theorem drop_mono {r a b : Int} (hr : 1 ≤ r) (h0 : 0 ≤ a) (hab : a ≤ b) : dropR r a ≤ dropR r b := by
  have ea : absR a = a := by have := absR_cases a; omega
  have eb : absR b = b := by have := absR_cases b; omega
  have h1 : 0 ≤ r * a := Int.mul_nonneg (by omega) h0
  have h2 : r * a ≤ r * b := Int.mul_le_mul_of_nonneg_left hab (by omega)
  have h3 : r * a * a ≤ r * b * b := Int.mul_le_mul h2 hab h0 (by omega)
  have h4 : 0 ≤ r * a * a := Int.mul_nonneg h1 h0
  unfold dropR
  rw [ea, eb, divR_pp _ _ h4 (by omega), divR_pp _ _ (by omega) (by omega)]
  omega
theorem drop_zero (r : Int) : dropR r 0 = 0 := by unfold dropR; simp [divR_zero]
/-- The least flow with more than a drop; 100001 if there is none. -/
def overN (r d : Int) : Nat := firstN (fun t => decide (d < dropR r (t : Int))) 100001
theorem over_spec (r d : Int) (hr : 1 ≤ r) (hd : 0 ≤ d) : (1 ≤ overN r d ∧ overN r d ≤ 100001) ∧ (∀ t : Nat, t < overN r d → dropR r (t : Int) ≤ d) ∧ (∀ t : Nat, overN r d ≤ t → t < 100001 → d < dropR r (t : Int)) := by
  obtain ⟨a, b, c⟩ := firstN_spec (fun t => decide (d < dropR r (t : Int))) 100001
  refine ⟨⟨?_, a⟩, fun t ht => by have := b t ht; simpa using this, fun t h1 h2 => ?_⟩
  · apply Nat.one_le_iff_ne_zero.2
    intro h0
    have h0' : firstN (fun t => decide (d < dropR r (t : Int))) 100001 = 0 := h0
    have := c (by omega)
    rw [h0'] at this
    simp only [decide_eq_true_eq] at this
    have hz := drop_zero r
    simp only [Int.natCast_zero] at this
    omega
  · have h1' : firstN (fun t => decide (d < dropR r (t : Int))) 100001 ≤ t := h1
    have := c (by omega)
    simp only [decide_eq_true_eq] at this
    have hm := drop_mono (r := r) (a := ((firstN (fun t => decide (d < dropR r (t : Int))) 100001 : Nat) : Int)) (b := (t : Int)) hr (by omega) (by omega)
    omega
theorem over_uniq (r d : Int) (m : Nat) (h : m ≤ 100000) (h1 : dropR r (m : Int) ≤ d) (hr : 1 ≤ r) (h2 : m < 100000 → d < dropR r ((m : Int) + 1)) : overN r d = m + 1 := by
  refine firstN_uniq _ _ _ (by omega) (fun t ht => ?_) (fun hl => ?_)
  · have := drop_mono (r := r) (a := (t : Int)) (b := (m : Int)) hr (by omega) (by omega)
    simp only [decide_eq_false_iff_not]; omega
  · have := h2 (by omega)
    simp only [decide_eq_true_eq]
    rw [show (((m + 1 : Nat)) : Int) = (m : Int) + 1 by omega]; exact this
/-- What FlowFor returns. -/
def ffA (r d : Int) : Int := if inB r 1 1000000 && inB d 0 1000000 then (overN r d : Int) - 1 else 0
def ffB (r d : Int) : Int := if inB r 1 1000000 && inB d 0 1000000 then 0 else 2

end Go.Proofs.Ytddfhjolimkkmaa
