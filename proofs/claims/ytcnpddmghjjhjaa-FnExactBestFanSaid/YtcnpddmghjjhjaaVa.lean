/-
  Curves of fans, pure: whether they are good, the pressure at a flow by the model's way and by the program's, that it never grows. Conditions: those that each theorem states.
-/
import Derived.Test.YtcnpddmghjjhjaaBc
namespace Go.Proofs.Ytcnpddmghjjhjaa
set_option linter.unusedVariables false
set_option linter.unusedSimpArgs false

/-- The flow and the pressure of a curve's point. -/
def cx (xs : List (List Int)) (i : Nat) : Int := (xs.getD i []).getD 0 0
def cy (xs : List (List Int)) (i : Nat) : Int := (xs.getD i []).getD 1 0
def rowOk (r : List Int) : Bool := decide (r.length = 2) && (inB (r.getD 0 0) 0 100000 && inB (r.getD 1 0) 0 10000)
def goodAt (xs : List (List Int)) (i : Nat) : Bool := rowOk (xs.getD i []) && (decide (i = 0) || (decide (cx xs (i - 1) < cx xs i) && decide (cy xs i ≤ cy xs (i - 1))))
def curveOk (xs : List (List Int)) : Bool := decide (∀ i, i < xs.length → goodAt xs i = true) && (decide (2 ≤ xs.length) && decide (xs.length ≤ 8))
theorem rowOk_iff {r : List Int} : rowOk r = true ↔ r.length = 2 ∧ (0 ≤ r.getD 0 0 ∧ r.getD 0 0 ≤ 100000) ∧ (0 ≤ r.getD 1 0 ∧ r.getD 1 0 ≤ 10000) := by
  simp only [rowOk, Bool.and_eq_true, inB_iff, decide_eq_true_eq]
theorem goodAt_iff {xs : List (List Int)} {i : Nat} : goodAt xs i = true ↔ ((xs.getD i []).length = 2 ∧ (0 ≤ cx xs i ∧ cx xs i ≤ 100000) ∧ (0 ≤ cy xs i ∧ cy xs i ≤ 10000)) ∧ (0 < i → cx xs (i - 1) < cx xs i ∧ cy xs i ≤ cy xs (i - 1)) := by
  unfold goodAt
  rw [Bool.and_eq_true, rowOk_iff, Bool.or_eq_true, Bool.and_eq_true, decide_eq_true_eq, decide_eq_true_eq, decide_eq_true_eq]
  constructor
  · rintro ⟨h1, h2⟩
    refine ⟨h1, fun hi => ?_⟩
    rcases h2 with h2 | h2
    · omega
    · exact h2
  · rintro ⟨h1, h2⟩
    refine ⟨h1, ?_⟩
    by_cases hi : i = 0
    · exact Or.inl hi
    · exact Or.inr (h2 (by omega))
theorem curveOk_iff {xs : List (List Int)} : curveOk xs = true ↔ (∀ i, i < xs.length → goodAt xs i = true) ∧ 2 ≤ xs.length ∧ xs.length ≤ 8 := by
  simp only [curveOk, Bool.and_eq_true, decide_eq_true_eq]
theorem curveOk_bad {xs : List (List Int)} {i : Nat} (h : i < xs.length) (hb : goodAt xs i = false) : curveOk xs = false := by
  rw [← Bool.not_eq_true, curveOk_iff]
  rintro ⟨h1, -⟩
  rw [h1 i h] at hb; cases hb
/-- What a good curve's points are. -/
theorem curve_pt {xs : List (List Int)} (h : curveOk xs = true) {i : Nat} (hi : i < xs.length) : xs[i].length = 2 ∧ (0 ≤ cx xs i ∧ cx xs i ≤ 100000) ∧ (0 ≤ cy xs i ∧ cy xs i ≤ 10000) ∧ (0 < i → cx xs (i - 1) < cx xs i ∧ cy xs i ≤ cy xs (i - 1)) := by
  have h1 := goodAt_iff.1 ((curveOk_iff.1 h).1 i hi)
  rw [show xs.getD i [] = xs[i] by simp [List.getD, hi]] at h1
  exact ⟨h1.1.1, h1.1.2.1, h1.1.2.2, h1.2⟩
/-- A row that is good, as its two numbers. -/
theorem row_two {xs : List (List Int)} {i : Nat} (hi : i < xs.length) (h2 : xs[i].length = 2) : xs[i] = [cx xs i, cy xs i] := by
  have e : xs.getD i [] = xs[i] := by simp [List.getD, hi]
  unfold cx cy
  rw [e]
  match h : xs[i], h2 with
  | [a, b], _ => rfl
theorem divR_mono {a b c : Int} (h : a ≤ b) (h0 : 0 ≤ a) (hc : 0 < c) : divR a c ≤ divR b c := by
  rw [divR_pp a c h0 hc, divR_pp b c (by omega) hc]
  exact Int.ediv_le_ediv (by omega) (by omega)
theorem divR_part {d t w : Int} (hd : 0 ≤ d) (h0 : 0 ≤ t) (ht : t ≤ w) (hw : 0 < w) : 0 ≤ divR (d * t) w ∧ divR (d * t) w ≤ d := by
  have a : 0 ≤ d * t := Int.mul_nonneg hd h0
  have b : d * t ≤ d * w := Int.mul_le_mul_of_nonneg_left ht hd
  have e : divR (d * w) w = d := by
    rw [divR_pp _ _ (Int.mul_nonneg hd (by omega)) hw]
    have : 2 * (d * w) + w = w + d * (2 * w) := by rw [show 2 * (d * w) = d * (2 * w) by rw [← Int.mul_assoc, ← Int.mul_assoc, Int.mul_comm 2 d], Int.add_comm]
    rw [this, Int.add_mul_ediv_right _ _ (by omega), Int.ediv_eq_zero_of_lt (by omega) (by omega)]
    omega
  have l := divR_mono (c := w) a (Int.le_refl 0) hw
  rw [divR_zero] at l
  have u := divR_mono (c := w) b a hw
  rw [e] at u
  exact ⟨l, u⟩
/-- A falling line in one form. -/
theorem line_fall {x0 y0 x1 y1 x : Int} (hx : x0 < x1) (hy : y1 ≤ y0) (h0 : x0 ≤ x) (h1 : x ≤ x1) : lineR x0 y0 x1 y1 x = y0 - divR ((y0 - y1) * (x - x0)) (x1 - x0) := by
  by_cases a : x = x0
  · subst a
    rw [lineR_0 (Or.inl (Int.le_refl _)), Int.sub_self, Int.mul_zero, divR_zero]; omega
  · by_cases b : x1 ≤ x
    · obtain rfl : x = x1 := by omega
      rw [lineR_1 (by omega) b]
      have h := divR_part (d := y0 - y1) (t := x - x0) (w := x - x0) (by omega) (by omega) (Int.le_refl _) (by omega)
      have e : divR ((y0 - y1) * (x - x0)) (x - x0) = y0 - y1 := by
        have hd : 0 ≤ y0 - y1 := by omega
        have hw : 0 < x - x0 := by omega
        generalize y0 - y1 = d at *
        generalize x - x0 = w at *
        rw [divR_pp _ _ (Int.mul_nonneg hd (by omega)) hw]
        have : 2 * (d * w) + w = w + d * (2 * w) := by rw [show 2 * (d * w) = d * (2 * w) by rw [← Int.mul_assoc, ← Int.mul_assoc, Int.mul_comm 2 d], Int.add_comm]
        rw [this, Int.add_mul_ediv_right _ _ (by omega), Int.ediv_eq_zero_of_lt (by omega) (by omega)]
        omega
      omega
    · rw [lineR_2 (by omega) b]
      by_cases c : y0 - y1 = 0
      · rw [c, show y1 - y0 = 0 by omega, Int.zero_mul, divR_zero]; omega
      · have hne : (y0 - y1) * (x - x0) ≠ 0 := by
          intro hz
          rcases Int.mul_eq_zero.1 hz with q | q <;> omega
        rw [show (y1 - y0) * (x - x0) = -((y0 - y1) * (x - x0)) by rw [← Int.neg_mul]; congr 1; omega, divR_neg_left _ _ hne]
        omega
theorem line_mono {x0 y0 x1 y1 a b : Int} (hx : x0 < x1) (hy : y1 ≤ y0) (h : a ≤ b) : lineR x0 y0 x1 y1 b ≤ lineR x0 y0 x1 y1 a := by
  have clip : ∀ x, ∃ z, x0 ≤ z ∧ z ≤ x1 ∧ lineR x0 y0 x1 y1 x = lineR x0 y0 x1 y1 z ∧ z = (if x < x0 then x0 else if x1 < x then x1 else x) := by
    intro x
    by_cases p : x < x0
    · exact ⟨x0, by omega, by omega, by rw [lineR_0 (Or.inl (by omega)), lineR_0 (Or.inl (Int.le_refl _))], by rw [if_pos p]⟩
    · by_cases q : x1 < x
      · exact ⟨x1, by omega, by omega, by rw [lineR_1 (by omega) (by omega), lineR_1 (by omega) (Int.le_refl _)], by rw [if_neg p, if_pos q]⟩
      · exact ⟨x, by omega, by omega, rfl, by rw [if_neg p, if_neg q]⟩
  obtain ⟨z, z1, z2, ez, fz⟩ := clip a
  obtain ⟨u, u1, u2, eu, fu⟩ := clip b
  have hzu : z ≤ u := by
    rw [fz, fu]
    split <;> split <;> (try split) <;> (try split) <;> omega
  rw [ez, eu, line_fall hx hy z1 z2, line_fall hx hy u1 u2]
  have h1 : 0 ≤ (y0 - y1) * (z - x0) := Int.mul_nonneg (by omega) (by omega)
  have h2 : (y0 - y1) * (z - x0) ≤ (y0 - y1) * (u - x0) := Int.mul_le_mul_of_nonneg_left (by omega) (by omega)
  have := divR_mono (c := x1 - x0) h2 h1 (by omega)
  omega
theorem line_bd {x0 y0 x1 y1 x : Int} (hx : x0 < x1) (hy : y1 ≤ y0) : y1 ≤ lineR x0 y0 x1 y1 x ∧ lineR x0 y0 x1 y1 x ≤ y0 := by
  by_cases a : x ≤ x0
  · rw [lineR_0 (Or.inl a)]; omega
  · by_cases b : x1 ≤ x
    · rw [lineR_1 (by omega) b]; omega
    · rw [line_fall hx hy (by omega) (by omega)]
      have := divR_part (d := y0 - y1) (t := x - x0) (w := x1 - x0) (by omega) (by omega) (by omega) (by omega)
      omega
/-- The model's pressure, from a point on; f points are left. -/
def prFrom (xs : List (List Int)) (q : Int) : Nat → Nat → Int
  | 0, i => cy xs (i - 1)
  | f + 1, i => if q ≤ cx xs i then lineR (cx xs (i - 1)) (cy xs (i - 1)) (cx xs i) (cy xs i) q else prFrom xs q f (i + 1)
def prR (xs : List (List Int)) (q : Int) : Int := if q ≤ cx xs 0 then cy xs 0 else prFrom xs q (xs.length - 1) 1
/-- The program's. -/
def prI (xs : List (List Int)) (q : Int) : Nat → Nat → Int
  | 0, i => cy xs (i - 1)
  | f + 1, i => if q < cx xs i then lineR (cx xs (i - 1)) (cy xs (i - 1)) (cx xs i) (cy xs i) q else prI xs q f (i + 1)
section
variable {xs : List (List Int)} (h : curveOk xs = true)
include h
theorem curve_step {i : Nat} (h1 : 1 ≤ i) (hi : i < xs.length) : cx xs (i - 1) < cx xs i ∧ cy xs i ≤ cy xs (i - 1) := (curve_pt h hi).2.2.2 h1
theorem prI_low {q : Int} : ∀ f i, i + f = xs.length → 1 ≤ i → q ≤ cx xs (i - 1) → prI xs q f i = cy xs (i - 1)
  | 0, i, _, _, _ => rfl
  | f + 1, i, hf, h1, hq => by
    have hs := curve_step h h1 (by omega)
    unfold prI
    rw [if_pos (by omega), lineR_0 (Or.inl hq)]
theorem prI_from {q : Int} : ∀ f i, i + f = xs.length → 1 ≤ i → cx xs (i - 1) < q → prI xs q f i = prFrom xs q f i
  | 0, i, _, _, _ => rfl
  | f + 1, i, hf, h1, hq => by
    have hs := curve_step h h1 (by omega)
    unfold prI prFrom
    by_cases a : q < cx xs i
    · rw [if_pos a, if_pos (by omega)]
    · rw [if_neg a]
      by_cases b : q ≤ cx xs i
      · rw [if_pos b, lineR_1 (by omega) (by omega)]
        exact prI_low h f (i + 1) (by omega) (by omega) b
      · rw [if_neg b]
        exact prI_from f (i + 1) (by omega) (by omega) (by rw [show i + 1 - 1 = i by omega]; omega)
/-- Both ways lead to the same pressure. -/
theorem prI_eq (q : Int) : prI xs q (xs.length - 1) 1 = prR xs q := by
  have h2 := (curveOk_iff.1 h).2
  unfold prR
  by_cases a : q ≤ cx xs 0
  · rw [if_pos a]; exact prI_low h _ 1 (by omega) (by omega) a
  · rw [if_neg a]; exact prI_from h _ 1 (by omega) (by omega) (by show cx xs 0 < q; omega)
theorem prFrom_le {q : Int} : ∀ f i, i + f = xs.length → 1 ≤ i → prFrom xs q f i ≤ cy xs (i - 1) ∧ 0 ≤ prFrom xs q f i
  | 0, i, hf, h1 => ⟨Int.le_refl _, ((curve_pt h (i := i - 1) (by omega)).2.2.1).1⟩
  | f + 1, i, hf, h1 => by
    have hs := curve_step h h1 (by omega)
    have hp := (curve_pt h (i := i) (by omega)).2.2.1
    unfold prFrom
    split
    · have := line_bd (x := q) hs.1 hs.2; omega
    · have := prFrom_le (q := q) f (i + 1) (by omega) (by omega)
      rw [show i + 1 - 1 = i by omega] at this
      omega
theorem prFrom_mono {a b : Int} (hab : a ≤ b) : ∀ f i, i + f = xs.length → 1 ≤ i → prFrom xs b f i ≤ prFrom xs a f i
  | 0, i, hf, h1 => Int.le_refl _
  | f + 1, i, hf, h1 => by
    have hs := curve_step h h1 (by omega)
    unfold prFrom
    by_cases p : b ≤ cx xs i
    · rw [if_pos p, if_pos (by omega)]; exact line_mono hs.1 hs.2 hab
    · rw [if_neg p]
      by_cases q : a ≤ cx xs i
      · rw [if_pos q]
        have h1 := (line_bd (x := a) hs.1 hs.2).1
        have h2 := (prFrom_le h (q := b) f (i + 1) (by omega) (by omega)).1
        rw [show i + 1 - 1 = i by omega] at h2
        omega
      · rw [if_neg q]; exact prFrom_mono hab f (i + 1) (by omega) (by omega)
/-- The pressure never grows with the flow. -/
theorem prR_mono {a b : Int} (hab : a ≤ b) : prR xs b ≤ prR xs a := by
  have h2 := (curveOk_iff.1 h).2
  unfold prR
  by_cases p : b ≤ cx xs 0
  · rw [if_pos p, if_pos (by omega)]; exact Int.le_refl _
  · rw [if_neg p]
    by_cases q : a ≤ cx xs 0
    · rw [if_pos q]; exact (prFrom_le h _ 1 (by omega) (by omega)).1
    · rw [if_neg q]; exact prFrom_mono h hab _ 1 (by omega) (by omega)
theorem prR_bd (q : Int) : 0 ≤ prR xs q ∧ prR xs q ≤ 10000 := by
  have h2 := (curveOk_iff.1 h).2
  have hp := (curve_pt h (i := 0) (by omega)).2.2.1
  unfold prR
  split
  · exact hp
  · have := prFrom_le h (q := q) (xs.length - 1) 1 (by omega) (by omega)
    rw [show 1 - 1 = 0 from rfl] at this
    omega
end
end Go.Proofs.Ytcnpddmghjjhjaa
