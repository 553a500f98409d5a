/-
  Contracts of chapter 3: the least section with at most a resistance: that the quotient falls with the section; the search; the program's. Conditions: those that each theorem states.
-/
import Derived.Test.YtkldgmgjbboiaabDn
namespace Go.Proofs.Ytkldgmgjbboiaab
open Go.RowKit
set_option linter.unusedVariables false

def rtB : Nat → Nat → Nat → Nat
  | 0, _, r => r
  | k + 1, n, r => if (r + 2 ^ k) * (r + 2 ^ k) ≤ n then rtB k n (r + 2 ^ k) else rtB k n r
def rt (n : Nat) : Nat := rtB 13 n 0
def rtS (s : Nat) : Nat := rt (s * 10000)
def allTo (f : Nat → Bool) : Nat → Bool
  | 0 => true
  | n + 1 => f n && allTo f n
theorem allTo_spec (f : Nat → Bool) : ∀ n, allTo f n = true → ∀ k, k < n → f k = true
  | 0, _, k, hk => absurd hk (by omega)
  | n + 1, h, k, hk => by
    rw [allTo, Bool.and_eq_true] at h
    rcases Nat.lt_or_ge k n with q | q
    · exact allTo_spec f n h.2 k q
    · rw [show k = n by omega]; exact h.1
def chkW (i : Nat) : Bool :=
  Nat.ble (rtS (i + 50) * rtS (i + 50)) ((i + 50) * 10000) && Nat.blt ((i + 50) * 10000) ((rtS (i + 50) + 1) * (rtS (i + 50) + 1)) &&
  Nat.ble (rtS (i + 51) * ((i + 50) * (i + 50) * (i + 50))) (rtS (i + 50) * ((i + 51) * (i + 51) * (i + 51)))
theorem chkW_all : allTo chkW 4951 = true := by decide +kernel
theorem rootR_rt (i : Nat) (h : i < 4951) : rootR ((50 + (i : Int)) * 10000) = (rtS (i + 50) : Int) := by
  have hc := allTo_spec chkW 4951 chkW_all i h
  simp only [chkW, Bool.and_eq_true, Nat.ble_eq, Nat.blt_eq] at hc
  obtain ⟨⟨h1, h2⟩, _⟩ := hc
  generalize rtS (i + 50) = r at *
  have h1' : (r : Int) * (r : Int) ≤ (50 + (i : Int)) * 10000 := by
    have : ((r * r : Nat) : Int) ≤ (((i + 50) * 10000 : Nat) : Int) := by exact_mod_cast h1
    rw [Int.natCast_mul, Int.natCast_mul] at this; omega
  have h2' : (50 + (i : Int)) * 10000 < ((r : Int) + 1) * ((r : Int) + 1) := by
    have : (((i + 50) * 10000 : Nat) : Int) < (((r + 1) * (r + 1) : Nat) : Int) := by exact_mod_cast h2
    rw [Int.natCast_mul, Int.natCast_mul, show ((r + 1 : Nat) : Int) = (r : Int) + 1 by omega] at this; omega
  apply Int.le_antisymm
  · apply Int.le_of_not_gt; intro hgt
    have := (le_rootR ((50 + (i : Int)) * 10000) ((r : Int) + 1) (by omega)).2 (by omega)
    omega
  · by_cases hr : r = 0
    · subst hr; exact rootR_nonneg _
    · exact (le_rootR _ _ (by omega)).1 h1'
theorem near_anti {a b a' b' : Int} (ha : 0 ≤ a) (hb : 0 < b) (ha' : 0 ≤ a') (hb' : 0 < b') (h : a' * b ≤ a * b') : divR a' b' ≤ divR a b := by
  rw [divR_pp _ _ ha hb, divR_pp _ _ ha' hb']
  have hq : (2 * a' + b') / (2 * b') * (2 * b') ≤ 2 * a' + b' := Int.ediv_mul_le _ (by omega)
  generalize (2 * a' + b') / (2 * b') = q at *
  rw [Int.le_ediv_iff_mul_le (by omega)]
  by_cases h0 : q ≤ 0
  · have : q * (2 * b) ≤ 0 := Int.mul_nonpos_of_nonpos_of_nonneg h0 (by omega)
    omega
  · have e1 : q * (2 * b') = 2 * (q * b') := by rw [Int.mul_left_comm]
    have e2 : q * (2 * b) = 2 * (q * b) := by rw [Int.mul_left_comm]
    have h1 : (2 * q - 1) * b' ≤ 2 * a' := by rw [Int.sub_mul, Int.mul_assoc]; omega
    have h2 : (2 * q - 1) * b' * b ≤ 2 * a' * b := Int.mul_le_mul_of_nonneg_right h1 (by omega)
    have h3 : 2 * a' * b ≤ 2 * a * b' := by rw [Int.mul_assoc, Int.mul_assoc]; omega
    have h4 : (2 * q - 1) * b * b' ≤ 2 * a * b' := by rw [Int.mul_right_comm]; omega
    have h5 := Int.le_of_mul_le_mul_right h4 hb'
    rw [Int.sub_mul, Int.mul_assoc] at h5
    omega
theorem raw_anti {l fr sh : Int} (h1 : 1 ≤ l ∧ l ≤ 10000) (h2 : 1 ≤ fr ∧ fr ≤ 1000) (h3 : 0 ≤ sh ∧ sh ≤ 1000) (i : Nat) (hi : i < 4950) : rawR l fr sh (50 + ((i + 1 : Nat) : Int)) ≤ rawR l fr sh (50 + (i : Int)) := by
  obtain ⟨⟨_, a⟩, b, _, c⟩ := raw_bds h1 h2 h3 (se := 50 + (i : Int)) (by omega)
  obtain ⟨⟨_, a'⟩, b', _, c'⟩ := raw_bds h1 h2 h3 (se := 50 + ((i + 1 : Nat) : Int)) (by omega)
  have hc := allTo_spec chkW 4951 chkW_all i (by omega)
  simp only [chkW, Bool.and_eq_true, Nat.ble_eq, Nat.blt_eq] at hc
  obtain ⟨_, h⟩ := hc
  have e1 := rootR_rt i (by omega)
  have e2 := rootR_rt (i + 1) (by omega)
  unfold rawR
  rw [show (i + 1 + 50) = i + 51 by omega] at e2
  rw [e1] at b
  rw [e2] at b'
  rw [e1, e2]
  clear e1 e2
  generalize rtS (i + 50) = r at *
  generalize rtS (i + 51) = r' at *
  refine near_anti (by omega) (by omega) (by omega) (by omega) ?_
  have h' : (r' : Int) * ((50 + (i : Int)) * (50 + (i : Int)) * (50 + (i : Int))) ≤ (r : Int) * ((50 + ((i + 1 : Nat) : Int)) * (50 + ((i + 1 : Nat) : Int)) * (50 + ((i + 1 : Nat) : Int))) := by
    have : ((r' * ((i + 50) * (i + 50) * (i + 50)) : Nat) : Int) ≤ ((r * ((i + 51) * (i + 51) * (i + 51)) : Nat) : Int) := by exact_mod_cast h
    rw [show (50 + (i : Int)) = ((i + 50 : Nat) : Int) by omega, show (50 + ((i + 1 : Nat) : Int)) = ((i + 51 : Nat) : Int) by omega]
    exact_mod_cast this
  generalize (50 + (i : Int)) * (50 + (i : Int)) * (50 + (i : Int)) = B at *
  generalize (50 + ((i + 1 : Nat) : Int)) * (50 + ((i + 1 : Nat) : Int)) * (50 + ((i + 1 : Nat) : Int)) = B' at *
  generalize fr * (l + sh) = K at *
  have hm : K * 400000 * ((r' : Int) * B) ≤ K * 400000 * ((r : Int) * B') := Int.mul_le_mul_of_nonneg_left h' (by omega)
  have x1 : K * (r' : Int) * 400000 * B = K * 400000 * ((r' : Int) * B) := by ac_rfl
  have x2 : K * (r : Int) * 400000 * B' = K * 400000 * ((r : Int) * B') := by ac_rfl
  omega
theorem raw_antis {l fr sh : Int} (h1 : 1 ≤ l ∧ l ≤ 10000) (h2 : 1 ≤ fr ∧ fr ≤ 1000) (h3 : 0 ≤ sh ∧ sh ≤ 1000) (i j : Nat) (h : i + j ≤ 4950) : rawR l fr sh (50 + ((i + j : Nat) : Int)) ≤ rawR l fr sh (50 + (i : Int)) := by
  induction j with
  | zero => exact Int.le_refl _
  | succ j ih => exact Int.le_trans (raw_anti h1 h2 h3 (i + j) (by omega)) (ih (by omega))
/-- The place of the least section with at most a resistance. -/
def wiM (l fr sh R : Int) : Nat := firstN (fun t => decide (max1 (rawR l fr sh (50 + (t : Int))) ≤ R)) 4951
theorem max1_le {x R : Int} (h : 1 ≤ R) : max1 x ≤ R ↔ x ≤ R := by unfold max1; split <;> omega
theorem wi_spec {l fr sh R : Int} (h1 : 1 ≤ l ∧ l ≤ 10000) (h2 : 1 ≤ fr ∧ fr ≤ 1000) (h3 : 0 ≤ sh ∧ sh ≤ 1000) (hR : 1 ≤ R) :
    wiM l fr sh R ≤ 4951 ∧ (∀ t, t < wiM l fr sh R → R < rawR l fr sh (50 + (t : Int))) ∧ (∀ t, wiM l fr sh R ≤ t → t < 4951 → rawR l fr sh (50 + (t : Int)) ≤ R) := by
  have hw : wiM l fr sh R = firstN (fun t => decide (max1 (rawR l fr sh (50 + (t : Int))) ≤ R)) 4951 := rfl
  have hs := firstN_spec (fun t => decide (max1 (rawR l fr sh (50 + (t : Int))) ≤ R)) 4951
  rw [← hw] at hs
  clear hw
  generalize wiM l fr sh R = m at *
  obtain ⟨a, b, c⟩ := hs
  refine ⟨a, fun t ht => ?_, fun t ht ht2 => ?_⟩
  · have := b t ht
    simp only [decide_eq_false_iff_not, max1_le hR] at this
    omega
  · have h0 := c (by omega)
    simp only [decide_eq_true_eq, max1_le hR] at h0
    have := raw_antis h1 h2 h3 m (t - m) (by omega)
    rw [show m + (t - m) = t by omega] at this
    exact Int.le_trans this h0
theorem awOk_sec {s : ByteArray} {f t l se fr sh : Int} (h : awOk s f t l se fr sh = true) (se' : Int) (h1 : 50 ≤ se' ∧ se' ≤ 5000) : awOk s f t l se' fr sh = true := by
  have hi := inB_true h1.1 h1.2
  simp only [awOk, Bool.and_eq_true] at h ⊢
  exact ⟨⟨⟨h.1.1.1, hi⟩, h.1.2⟩, h.2⟩
end Go.Proofs.Ytkldgmgjbboiaab
