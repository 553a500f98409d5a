/-
  Contracts of chapter 9: densities and draughts of columns; the model's and the program's. Conditions: those that each theorem states.
-/
import Derived.Test.YtjooebiiceillaaCa
import Derived.Test.YtjooebiiceillaaBc
namespace Go.Proofs.Ytjooebiiceillaa
open Go.RowKit
set_option linter.unusedVariables false
set_option linter.unusedSimpArgs false

/-- The density of air in a column, and its draught. -/
def denT (t : Int) : Int := divR 3531183 (2731 + t)
theorem denT_bd {t : Int} (h1 : -300 ≤ t) (h2 : t ≤ 600) : 1060 ≤ denT t ∧ denT t ≤ 1453 := by
  unfold denT
  rw [divR_pp _ _ (by omega) (by omega)]
  refine ⟨Int.le_ediv_of_mul_le (by omega) (by omega), ?_⟩
  have : (2 * 3531183 + (2731 + t)) / (2 * (2731 + t)) < 1454 := Int.ediv_lt_of_lt_mul (by omega) (by omega)
  omega
def colR (r t : Int) : Int := divR (981 * (1200 - denT t) * r) 100000
theorem col_bd {r t : Int} (h1 : -300 ≤ t) (h2 : t ≤ 600) (h3 : -6000 ≤ r) (h4 : r ≤ 6000) : -1489158000 ≤ 981 * (1200 - denT t) * r ∧ 981 * (1200 - denT t) * r ≤ 1489158000 := by
  have h := denT_bd h1 h2
  have := mul_bd (981 * (1200 - denT t)) r 248193 6000 (by omega) (by omega) (by omega) (by omega)
  omega
theorem colR_bd {r t : Int} (h1 : -300 ≤ t) (h2 : t ≤ 600) (h3 : -6000 ≤ r) (h4 : r ≤ 6000) : -1489158000 ≤ colR r t ∧ colR r t ≤ 1489158000 := by
  have h := col_bd h1 h2 h3 h4
  have := divR_bd (981 * (1200 - denT t) * r) 100000
  unfold colR
  omega
theorem isRise_any (n : Int) (w : World) : Calls Try.prog 56 #[.int .i64 n] w fun e w' => e = .returned (.bool (inB n (-6000) 6000)) ∧ w.alloc (.cells #[.int .i64 n] 2) = w' := by
  go_enter Try.func56, Try.ntmps56
  go_wp2_with (go_at_call 59; (with_reducible refine (within64_one _ _ _ _ _ _ (by simp)).mono ?_); rintro e w' ⟨rfl, rfl⟩)
  go_ret
  exact ⟨rfl, rfl⟩
theorem isColumnTemperature_any (n : Int) (w : World) : Calls Try.prog 52 #[.int .i64 n] w fun e w' => e = .returned (.bool (inB n (-300) 600)) ∧ w.alloc (.cells #[.int .i64 n] 2) = w' := by
  go_enter Try.func52, Try.ntmps52
  go_wp2_with (go_at_call 59; (with_reducible refine (within64_one _ _ _ _ _ _ (by simp)).mono ?_); rintro e w' ⟨rfl, rfl⟩)
  go_ret
  exact ⟨rfl, rfl⟩
theorem l09Temp_any (n : Int) (w : World) : Calls Try.prog 50 #[.int .i64 n] w fun e w' => e = .returned (.bool (inB n (-300) 600)) ∧ w = w' := by
  go_enter Try.func50, Try.ntmps50
  go_wp2_with (go_at_call 58; (with_reducible refine (l00In_any _ _ _ _).mono ?_); rintro e w' ⟨rfl, rfl⟩)
  go_ret
  exact ⟨rfl, rfl⟩
theorem l09Rise_any (n : Int) (w : World) : Calls Try.prog 54 #[.int .i64 n] w fun e w' => e = .returned (.bool (inB n (-6000) 6000)) ∧ w = w' := by
  go_enter Try.func54, Try.ntmps54
  go_wp2_with (go_at_call 58; (with_reducible refine (l00In_any _ _ _ _).mono ?_); rintro e w' ⟨rfl, rfl⟩)
  go_ret
  exact ⟨rfl, rfl⟩
theorem l09Density_any (t : Int) (w : World) (h1 : -300 ≤ t) (h2 : t ≤ 600) : Calls Try.prog 51 #[.int .i64 t] w fun e w' => e = .returned (.int .i64 (denT t)) ∧ w = w' := by
  have HE := Lib.hid (show denT t = divR 3531183 (2731 + t) from rfl)
  go_enter Try.func51, Try.ntmps51
  go_wp2_with (go_at_call 101; (with_reducible refine (l01Div_any _ _ _ (by omega) (by omega) (by omega) (by omega) (by omega)).mono ?_); rintro e w' ⟨rfl, rfl⟩)
  go_ret
  exact ⟨ret_int HE.out.symm, rfl⟩
theorem columnDensity_any (t : Int) (w : World) (h1 : -300 ≤ t) (h2 : t ≤ 600) : Calls Try.prog 53 #[.int .i64 t] w fun e w' => e = .returned (.int .i64 (denT t)) ∧ ∃ n, w' = w.drewN n := by
  have HE := Lib.hid (show denT t = divR 3531183 (2731 + t) from rfl)
  go_enter Try.func53, Try.ntmps53
  go_wp2_with (go_at_call 102; (with_reducible refine (nearest_any _ _ _ (by omega) (by omega) (by omega) (by omega)).mono ?_); rintro e w' ⟨rfl, n, rfl⟩)
  go_ret
  exact ⟨ret_int HE.out.symm, n, rfl⟩
theorem l09Column_any (r t : Int) (w : World) (h1 : -300 ≤ t) (h2 : t ≤ 600) (h3 : -6000 ≤ r) (h4 : r ≤ 6000) : Calls Try.prog 55 #[.int .i64 r, .int .i64 t] w fun e w' => e = .returned (.int .i64 (colR r t)) ∧ w = w' := by
  have HE := Lib.hid (show colR r t = divR (981 * (1200 - denT t) * r) 100000 from rfl)
  obtain ⟨b1, b2⟩ := denT_bd h1 h2
  obtain ⟨b3, b4⟩ := col_bd h1 h2 h3 h4
  go_enter Try.func55, Try.ntmps55
  go_wp2_with (first
      | (go_at_call 51; (with_reducible refine (l09Density_any _ _ h1 h2).mono ?_); rintro e w' ⟨rfl, rfl⟩)
      | (go_at_call 101; (with_reducible refine (l01Div_any _ _ _ (by omega) (by omega) (by omega) (by omega) (by omega)).mono ?_); rintro e w' ⟨rfl, rfl⟩))
  go_ret
  exact ⟨ret_int HE.out.symm, rfl⟩
theorem columnDraught_any (r t : Int) (w : World) (h1 : -300 ≤ t) (h2 : t ≤ 600) (h3 : -6000 ≤ r) (h4 : r ≤ 6000) : Calls Try.prog 57 #[.int .i64 r, .int .i64 t] w fun e w' => e = .returned (.int .i64 (colR r t)) ∧ Below w.heap.size w w' := by
  have HE := Lib.hid (show colR r t = divR (981 * (1200 - denT t) * r) 100000 from rfl)
  obtain ⟨b1, b2⟩ := denT_bd h1 h2
  obtain ⟨b3, b4⟩ := col_bd h1 h2 h3 h4
  go_enter Try.func57, Try.ntmps57
  go_wp2_with (first
      | (go_at_call 53; (with_reducible refine (columnDensity_any _ _ h1 h2).mono ?_); rintro e w' ⟨rfl, n, rfl⟩)
      | (go_at_call 102; (with_reducible refine (nearest_any _ _ _ (by omega) (by omega) (by omega) (by omega)).mono ?_); rintro e w' ⟨rfl, m, rfl⟩))
  go_ret
  exact ⟨ret_int HE.out.symm, (by repeat (first | (with_reducible exact Below.refl _ _) | (with_reducible refine below_drewN' ?_ _) | (with_reducible refine Below.alloc ?_ (by simp <;> omega) _) | (with_reducible refine Below.setCell ?_ (by simp) _)))⟩
/-- What WarmDensity and ColumnDraught return. -/
def wdA (t : Int) : Int := if inB t (-300) 600 then denT t else 0
def wdB (t : Int) : Int := if inB t (-300) 600 then 0 else 2
def cdA (r t : Int) : Int := if inB r (-6000) 6000 && inB t (-300) 600 then colR r t else 0
def cdB (r t : Int) : Int := if inB r (-6000) 6000 && inB t (-300) 600 then 0 else 2
theorem sWarmDensity_any (t : Int) (w : World) :
    Calls Try.prog 15 #[.int .i64 t] w fun e w' => e = .returned (.tuple #[.int .i64 (wdA t), .int .i64 (wdB t)]) ∧ w = w' := by
  by_cases h1 : -300 ≤ t ∧ t ≤ 600
  · have i1 := inB_true h1.1 h1.2
    have HE := Lib.hid (show wdA t = denT t ∧ wdB t = 0 by simp [wdA, wdB, i1])
    go_enter Try.func15, Try.ntmps15
    go_wp2_with (first
          | (go_at_call 50; (with_reducible refine (l09Temp_any _ _).mono ?_); rintro e w' ⟨rfl, rfl⟩)
          | (go_at_call 51; (with_reducible refine (l09Density_any _ _ (by omega) (by omega)).mono ?_); rintro e w' ⟨rfl, rfl⟩))
    go_ret2
    exact ⟨ret_two HE.out.1.symm HE.out.2.symm, rfl⟩
  · have i1 := inB_false h1
    have HE := Lib.hid (show wdA t = 0 ∧ wdB t = 2 by simp [wdA, wdB, i1])
    go_enter Try.func15, Try.ntmps15
    go_wp2_with (first
          | (go_at_call 50; (with_reducible refine (l09Temp_any _ _).mono ?_); rintro e w' ⟨rfl, rfl⟩)
          | (go_at_call 51; (with_reducible refine (l09Density_any _ _ (by omega) (by omega)).mono ?_); rintro e w' ⟨rfl, rfl⟩))
    go_ret2
    exact ⟨ret_two HE.out.1.symm HE.out.2.symm, rfl⟩
theorem iWarmDensity_any (t : Int) (w : World) :
    Calls Try.prog 16 #[.int .i64 t] w fun e w' => e = .returned (.tuple #[.int .i64 (wdA t), .int .i64 (wdB t)]) ∧ Below w.heap.size w w' := by
  by_cases h1 : -300 ≤ t ∧ t ≤ 600
  · have i1 := inB_true h1.1 h1.2
    have HE := Lib.hid (show wdA t = denT t ∧ wdB t = 0 by simp [wdA, wdB, i1])
    go_enter Try.func16, Try.ntmps16
    go_wp2_with (first
          | (go_at_call 52; (with_reducible refine (isColumnTemperature_any _ _).mono ?_); rintro e w' ⟨rfl, rfl⟩)
          | (go_at_call 53; (with_reducible refine (columnDensity_any _ _ (by omega) (by omega)).mono ?_); rintro e w' ⟨rfl, n, rfl⟩))
    go_ret2
    exact ⟨ret_two HE.out.1.symm HE.out.2.symm, (by repeat (first | (with_reducible exact Below.refl _ _) | (with_reducible refine below_drewN' ?_ _) | (with_reducible refine Below.alloc ?_ (by simp <;> omega) _) | (with_reducible refine Below.setCell ?_ (by simp) _)))⟩
  · have i1 := inB_false h1
    have HE := Lib.hid (show wdA t = 0 ∧ wdB t = 2 by simp [wdA, wdB, i1])
    go_enter Try.func16, Try.ntmps16
    go_wp2_with (first
          | (go_at_call 52; (with_reducible refine (isColumnTemperature_any _ _).mono ?_); rintro e w' ⟨rfl, rfl⟩)
          | (go_at_call 53; (with_reducible refine (columnDensity_any _ _ (by omega) (by omega)).mono ?_); rintro e w' ⟨rfl, n, rfl⟩))
    go_ret2
    exact ⟨ret_two HE.out.1.symm HE.out.2.symm, (by repeat (first | (with_reducible exact Below.refl _ _) | (with_reducible refine below_drewN' ?_ _) | (with_reducible refine Below.alloc ?_ (by simp <;> omega) _) | (with_reducible refine Below.setCell ?_ (by simp) _)))⟩
theorem columnDraught_b (W : World) (r t : Int) (w : World) (h1 : -300 ≤ t) (h2 : t ≤ 600) (h3 : -6000 ≤ r) (h4 : r ≤ 6000) (hb : Below W.heap.size W w) : Calls Try.prog 57 #[.int .i64 r, .int .i64 t] w fun e w' => e = .returned (.int .i64 (colR r t)) ∧ Below W.heap.size W w' :=
  (columnDraught_any r t w h1 h2 h3 h4).mono fun _ _ ⟨a, b⟩ => ⟨a, hb.trans (b.mono hb.size)⟩
theorem sColumnDraught_any (r t : Int) (w : World) :
    Calls Try.prog 17 #[.int .i64 r, .int .i64 t] w fun e w' => e = .returned (.tuple #[.int .i64 (cdA r t), .int .i64 (cdB r t)]) ∧ w = w' := by
  by_cases h1 : -6000 ≤ r ∧ r ≤ 6000
  · have i1 := inB_true h1.1 h1.2
    by_cases h2 : -300 ≤ t ∧ t ≤ 600
    · have i2 := inB_true h2.1 h2.2
      have HE := Lib.hid (show cdA r t = colR r t ∧ cdB r t = 0 by simp [cdA, cdB, i1, i2])
      go_enter Try.func17, Try.ntmps17
      go_wp2_with (first
            | (go_at_call 50; (with_reducible refine (l09Temp_any _ _).mono ?_); rintro e w' ⟨rfl, rfl⟩)
            | (go_at_call 54; (with_reducible refine (l09Rise_any _ _).mono ?_); rintro e w' ⟨rfl, rfl⟩)
            | (go_at_call 55; (with_reducible refine (l09Column_any _ _ _ (by omega) (by omega) (by omega) (by omega)).mono ?_); rintro e w' ⟨rfl, rfl⟩))
      go_ret2
      exact ⟨ret_two HE.out.1.symm HE.out.2.symm, rfl⟩
    · have i2 := inB_false h2
      have HE := Lib.hid (show cdA r t = 0 ∧ cdB r t = 2 by simp [cdA, cdB, i2])
      go_enter Try.func17, Try.ntmps17
      go_wp2_with (first
            | (go_at_call 50; (with_reducible refine (l09Temp_any _ _).mono ?_); rintro e w' ⟨rfl, rfl⟩)
            | (go_at_call 54; (with_reducible refine (l09Rise_any _ _).mono ?_); rintro e w' ⟨rfl, rfl⟩)
            | (go_at_call 55; (with_reducible refine (l09Column_any _ _ _ (by omega) (by omega) (by omega) (by omega)).mono ?_); rintro e w' ⟨rfl, rfl⟩))
      go_ret2
      exact ⟨ret_two HE.out.1.symm HE.out.2.symm, rfl⟩
  · have i1 := inB_false h1
    have HE := Lib.hid (show cdA r t = 0 ∧ cdB r t = 2 by simp [cdA, cdB, i1])
    go_enter Try.func17, Try.ntmps17
    go_wp2_with (first
          | (go_at_call 50; (with_reducible refine (l09Temp_any _ _).mono ?_); rintro e w' ⟨rfl, rfl⟩)
          | (go_at_call 54; (with_reducible refine (l09Rise_any _ _).mono ?_); rintro e w' ⟨rfl, rfl⟩)
          | (go_at_call 55; (with_reducible refine (l09Column_any _ _ _ (by omega) (by omega) (by omega) (by omega)).mono ?_); rintro e w' ⟨rfl, rfl⟩))
    go_ret2
    exact ⟨ret_two HE.out.1.symm HE.out.2.symm, rfl⟩
theorem iColumnDraught_any (r t : Int) (w : World) :
    Calls Try.prog 18 #[.int .i64 r, .int .i64 t] w fun e w' => e = .returned (.tuple #[.int .i64 (cdA r t), .int .i64 (cdB r t)]) ∧ Below w.heap.size w w' := by
  by_cases h1 : -6000 ≤ r ∧ r ≤ 6000
  · have i1 := inB_true h1.1 h1.2
    by_cases h2 : -300 ≤ t ∧ t ≤ 600
    · have i2 := inB_true h2.1 h2.2
      have HE := Lib.hid (show cdA r t = colR r t ∧ cdB r t = 0 by simp [cdA, cdB, i1, i2])
      go_enter Try.func18, Try.ntmps18
      go_wp2_with (first
            | (go_at_call 52; (with_reducible refine (isColumnTemperature_any _ _).mono ?_); rintro e w' ⟨rfl, rfl⟩)
            | (go_at_call 56; (with_reducible refine (isRise_any _ _).mono ?_); rintro e w' ⟨rfl, rfl⟩)
            | (go_at_call 57; (with_reducible refine (columnDraught_b w _ _ _ (by omega) (by omega) (by omega) (by omega) (by repeat (first | (with_reducible exact Below.refl _ _) | (with_reducible refine below_drewN' ?_ _) | (with_reducible refine Below.alloc ?_ (by simp <;> omega) _) | (with_reducible refine Below.setCell ?_ (by simp) _)))).mono ?_); rintro e w' ⟨rfl, hbc⟩))
      go_ret2
      exact ⟨ret_two HE.out.1.symm HE.out.2.symm, (by repeat (first | (with_reducible exact Below.refl _ _) | (with_reducible exact hbc) | (with_reducible refine below_drewN' ?_ _) | (with_reducible refine Below.alloc ?_ (by simp <;> omega) _) | (with_reducible refine Below.setCell ?_ (by simp) _)))⟩
    · have i2 := inB_false h2
      have HE := Lib.hid (show cdA r t = 0 ∧ cdB r t = 2 by simp [cdA, cdB, i2])
      go_enter Try.func18, Try.ntmps18
      go_wp2_with (first
            | (go_at_call 52; (with_reducible refine (isColumnTemperature_any _ _).mono ?_); rintro e w' ⟨rfl, rfl⟩)
            | (go_at_call 56; (with_reducible refine (isRise_any _ _).mono ?_); rintro e w' ⟨rfl, rfl⟩)
            | (go_at_call 57; (with_reducible refine (columnDraught_b w _ _ _ (by omega) (by omega) (by omega) (by omega) (by repeat (first | (with_reducible exact Below.refl _ _) | (with_reducible refine below_drewN' ?_ _) | (with_reducible refine Below.alloc ?_ (by simp <;> omega) _) | (with_reducible refine Below.setCell ?_ (by simp) _)))).mono ?_); rintro e w' ⟨rfl, hbc⟩))
      go_ret2
      exact ⟨ret_two HE.out.1.symm HE.out.2.symm, (by repeat (first | (with_reducible exact Below.refl _ _) | (with_reducible exact hbc) | (with_reducible refine below_drewN' ?_ _) | (with_reducible refine Below.alloc ?_ (by simp <;> omega) _) | (with_reducible refine Below.setCell ?_ (by simp) _)))⟩
  · have i1 := inB_false h1
    have HE := Lib.hid (show cdA r t = 0 ∧ cdB r t = 2 by simp [cdA, cdB, i1])
    go_enter Try.func18, Try.ntmps18
    go_wp2_with (first
          | (go_at_call 52; (with_reducible refine (isColumnTemperature_any _ _).mono ?_); rintro e w' ⟨rfl, rfl⟩)
          | (go_at_call 56; (with_reducible refine (isRise_any _ _).mono ?_); rintro e w' ⟨rfl, rfl⟩)
          | (go_at_call 57; (with_reducible refine (columnDraught_b w _ _ _ (by omega) (by omega) (by omega) (by omega) (by repeat (first | (with_reducible exact Below.refl _ _) | (with_reducible refine below_drewN' ?_ _) | (with_reducible refine Below.alloc ?_ (by simp <;> omega) _) | (with_reducible refine Below.setCell ?_ (by simp) _)))).mono ?_); rintro e w' ⟨rfl, hbc⟩))
    go_ret2
    exact ⟨ret_two HE.out.1.symm HE.out.2.symm, (by repeat (first | (with_reducible exact Below.refl _ _) | (with_reducible exact hbc) | (with_reducible refine below_drewN' ?_ _) | (with_reducible refine Below.alloc ?_ (by simp <;> omega) _) | (with_reducible refine Below.setCell ?_ (by simp) _)))⟩
/-- The first number below n that fits; n if there is none. -/
def fstN (p : Nat → Bool) : Nat → Nat
  | 0 => 0
  | n + 1 => if fstN p n = n then (if p n then n else n + 1) else fstN p n
theorem fstN_spec (p : Nat → Bool) (n : Nat) : fstN p n ≤ n ∧ (∀ t, t < fstN p n → p t = false) ∧ (fstN p n < n → p (fstN p n) = true) := by
  induction n with
  | zero => simp [fstN]
  | succ n ih =>
    obtain ⟨a, b, c⟩ := ih
    rw [fstN]
    by_cases e : fstN p n = n
    · rw [if_pos e]
      by_cases h : p n = true
      · rw [if_pos h]; exact ⟨by omega, by rwa [e] at b, fun _ => h⟩
      · rw [if_neg h]
        refine ⟨Nat.le_refl _, fun t ht => ?_, fun h => absurd h (by omega)⟩
        rcases Nat.lt_or_ge t n with q | q
        · exact b t (by omega)
        · obtain rfl : t = n := by omega
          simpa using h
    · rw [if_neg e]; exact ⟨by omega, b, fun _ => c (by omega)⟩
theorem fstN_uniq (p : Nat → Bool) (n m : Nat) (h1 : m ≤ n) (h2 : ∀ t, t < m → p t = false) (h3 : m < n → p m = true) : fstN p n = m := by
  obtain ⟨a, b, c⟩ := fstN_spec p n
  rcases Nat.lt_trichotomy (fstN p n) m with h | h | h
  · have := h2 _ h; rw [c (by omega)] at this; exact absurd this (by simp)
  · exact h
  · have := b _ h; rw [h3 (by omega)] at this; exact absurd this (by simp)
/-- What TemperatureFor returns. -/
def tfK (r d : Int) : Nat := fstN (fun k => decide (d ≤ colR r ((k : Int) - 300))) 901
def tfA (r d : Int) : Int := if inB r (-6000) 6000 && inB d (-100000) 100000 then (if tfK r d < 901 then (tfK r d : Int) - 300 else 0) else 0
def tfB (r d : Int) : Int := if inB r (-6000) 6000 && inB d (-100000) 100000 then (if tfK r d < 901 then 0 else 3) else 2
theorem tf_yes {r d t : Int} (i1 : inB r (-6000) 6000 = true) (i2 : inB d (-100000) 100000 = true) (h1 : -300 ≤ t) (h2 : t ≤ 600) (h : ∀ u, -300 ≤ u → u < t → colR r u < d) (h3 : d ≤ colR r t) : tfA r d = t ∧ tfB r d = 0 := by
  have e : tfK r d = (t + 300).toNat := by
    apply fstN_uniq
    · omega
    · intro k hk
      have := h ((k : Int) - 300) (by omega) (by omega)
      simpa using this
    · intro _
      rw [show (((t + 300).toNat : Nat) : Int) - 300 = t by omega]
      simpa using h3
  unfold tfA tfB
  rw [i1, i2, e]
  simp only [Bool.and_self, if_true]
  rw [if_pos (by omega), if_pos (by omega)]
  exact ⟨by omega, rfl⟩
theorem tf_no {r d : Int} (i1 : inB r (-6000) 6000 = true) (i2 : inB d (-100000) 100000 = true) (h : ∀ u, -300 ≤ u → u < 601 → colR r u < d) : tfA r d = 0 ∧ tfB r d = 3 := by
  have e : tfK r d = 901 := by
    apply fstN_uniq
    · omega
    · intro k hk
      have := h ((k : Int) - 300) (by omega) (by omega)
      simpa using this
    · intro h; omega
  unfold tfA tfB
  rw [i1, i2, e]
  simp
theorem tf_bad1 {r d : Int} (i1 : inB r (-6000) 6000 = false) : tfA r d = 0 ∧ tfB r d = 2 := by simp [tfA, tfB, i1]
theorem tf_bad2 {r d : Int} (i1 : inB d (-100000) 100000 = false) : tfA r d = 0 ∧ tfB r d = 2 := by simp [tfA, tfB, i1]
set_option maxHeartbeats 1000000 in
theorem sTemperatureFor_any (r d : Int) (w : World) :
    Calls Try.prog 19 #[.int .i64 r, .int .i64 d] w fun e w' => e = .returned (.tuple #[.int .i64 (tfA r d), .int .i64 (tfB r d)]) ∧ w = w' := by
  by_cases h1 : -6000 ≤ r ∧ r ≤ 6000
  · have i1 := inB_true h1.1 h1.2
    by_cases h2 : -100000 ≤ d ∧ d ≤ 100000
    · have i2 := inB_true h2.1 h2.2
      go_enter Try.func19, Try.ntmps19
      go_wp2_with (first
            | (go_at_call 54; (with_reducible refine (l09Rise_any _ _).mono ?_); rintro e w' ⟨rfl, rfl⟩)
            | (go_at_call 58; (with_reducible refine (l00In_any _ _ _ _).mono ?_); rintro e w' ⟨rfl, rfl⟩))
      go_loop [6] (fun i => ∃ t : Int, -300 ≤ t ∧ t ≤ 601 ∧ i = .int .i64 t ∧ Hid (∀ u, -300 ≤ u → u < t → colR r u < d)) (fun i => (601 - intOf i).toNat)
      case atStart => exact ⟨-300, by omega, by omega, rfl, Lib.hid (fun u h1 h2 => absurd h2 (by omega))⟩
      case round =>
        obtain ⟨t, ht1, ht2, rfl, HA⟩ := hrel
        by_cases hlt : t ≤ 600
        · obtain ⟨q1, q2⟩ := colR_bd ht1 hlt h1.1 h1.2
          by_cases hc : d ≤ colR r t
          · have HE := Lib.hid (tf_yes i1 i2 ht1 hlt HA.out hc)
            go_wp2_with (go_at_call 55; (with_reducible refine (l09Column_any _ _ _ ht1 (by omega) h1.1 h1.2).mono ?_); rintro e w' ⟨rfl, rfl⟩)
            go_ret2
            exact ⟨ret_two HE.out.1.symm HE.out.2.symm, rfl⟩
          · have HN := Lib.hid (show ∀ u, -300 ≤ u → u < t + 1 → colR r u < d from fun u h1 h2 => by
              by_cases e : u = t
              · subst e; omega
              · exact HA.out u h1 (by omega))
            go_wp2_with (go_at_call 55; (with_reducible refine (l09Column_any _ _ _ ht1 (by omega) h1.1 h1.2).mono ?_); rintro e w' ⟨rfl, rfl⟩)
            go_round
            case rel => exact ⟨t + 1, by omega, by omega, by first | rfl | go_num, HN⟩
            case measure => simp [intOf]; omega
        · obtain rfl : t = 601 := by omega
          have HE := Lib.hid (tf_no i1 i2 HA.out)
          go_wp2
          go_ret2
          exact ⟨ret_two HE.out.1.symm HE.out.2.symm, rfl⟩
    · have i2 := inB_false h2
      have HE := Lib.hid (tf_bad2 (r := r) (d := d) i2)
      go_enter Try.func19, Try.ntmps19
      go_wp2_with (first
            | (go_at_call 54; (with_reducible refine (l09Rise_any _ _).mono ?_); rintro e w' ⟨rfl, rfl⟩)
            | (go_at_call 58; (with_reducible refine (l00In_any _ _ _ _).mono ?_); rintro e w' ⟨rfl, rfl⟩))
      go_ret2
      exact ⟨ret_two HE.out.1.symm HE.out.2.symm, rfl⟩
  · have i1 := inB_false h1
    have HE := Lib.hid (tf_bad1 (r := r) (d := d) i1)
    go_enter Try.func19, Try.ntmps19
    go_wp2_with (first
          | (go_at_call 54; (with_reducible refine (l09Rise_any _ _).mono ?_); rintro e w' ⟨rfl, rfl⟩)
          | (go_at_call 58; (with_reducible refine (l00In_any _ _ _ _).mono ?_); rintro e w' ⟨rfl, rfl⟩))
    go_ret2
    exact ⟨ret_two HE.out.1.symm HE.out.2.symm, rfl⟩
set_option maxHeartbeats 1000000 in
theorem iTemperatureFor_any (r d : Int) (w : World) :
    Calls Try.prog 20 #[.int .i64 r, .int .i64 d] w fun e w' => e = .returned (.tuple #[.int .i64 (tfA r d), .int .i64 (tfB r d)]) ∧ Below w.heap.size w w' := by
  by_cases h1 : -6000 ≤ r ∧ r ≤ 6000
  · have i1 := inB_true h1.1 h1.2
    by_cases h2 : -100000 ≤ d ∧ d ≤ 100000
    · have i2 := inB_true h2.1 h2.2
      go_enter Try.func20, Try.ntmps20
      go_wp2_with (first
            | (go_at_call 56; (with_reducible refine (isRise_any _ _).mono ?_); rintro e w' ⟨rfl, rfl⟩)
            | (go_at_call 59; (with_reducible refine (within64_one _ _ _ _ _ _ (by simp)).mono ?_); rintro e w' ⟨rfl, rfl⟩))
      have HB := Lib.hid (show Below w.heap.size w ((w.alloc (.cells #[.int .i64 r] 2)).alloc (.cells #[.int .i64 d] 2)) from (by repeat (first | (with_reducible exact Below.refl _ _) | (with_reducible refine below_drewN' ?_ _) | (with_reducible refine Below.alloc ?_ (by simp <;> omega) _) | (with_reducible refine Below.setCell ?_ (by simp) _))))
      generalize (w.alloc (.cells #[.int .i64 r] 2)).alloc (.cells #[.int .i64 d] 2) = w1 at *
      go_loopw [6] (fun i wr => ∃ t : Int, -300 ≤ t ∧ t ≤ 601 ∧ i = .int .i64 t ∧ Hid (∀ u, -300 ≤ u → u < t → colR r u < d) ∧ Below w.heap.size w wr) (fun i wr => (601 - intOf i).toNat)
      case atStart => exact ⟨-300, by omega, by omega, rfl, Lib.hid (fun u h1 h2 => absurd h2 (by omega)), HB.out⟩
      case round =>
        obtain ⟨t, ht1, ht2, rfl, HA, hbel⟩ := hrel
        by_cases hlt : t ≤ 600
        · obtain ⟨q1, q2⟩ := colR_bd ht1 hlt h1.1 h1.2
          by_cases hc : d ≤ colR r t
          · have HE := Lib.hid (tf_yes i1 i2 ht1 hlt HA.out hc)
            go_wp2_with (go_at_call 57; (with_reducible refine (columnDraught_b w _ _ _ ht1 (by omega) h1.1 h1.2 hbel).mono ?_); rintro e w' ⟨rfl, hbc⟩)
            go_ret2
            exact ⟨ret_two HE.out.1.symm HE.out.2.symm, hbc⟩
          · have HN := Lib.hid (show ∀ u, -300 ≤ u → u < t + 1 → colR r u < d from fun u h1 h2 => by
              by_cases e : u = t
              · subst e; omega
              · exact HA.out u h1 (by omega))
            go_wp2_with (go_at_call 57; (with_reducible refine (columnDraught_b w _ _ _ ht1 (by omega) h1.1 h1.2 hbel).mono ?_); rintro e w' ⟨rfl, hbc⟩)
            go_roundw
            case rel => exact ⟨t + 1, by omega, by omega, by first | rfl | go_num, HN, hbc⟩
            case measure => simp [intOf]; omega
        · obtain rfl : t = 601 := by omega
          have HE := Lib.hid (tf_no i1 i2 HA.out)
          go_wp2
          go_ret2
          exact ⟨ret_two HE.out.1.symm HE.out.2.symm, hbel⟩
    · have i2 := inB_false h2
      have HE := Lib.hid (tf_bad2 (r := r) (d := d) i2)
      go_enter Try.func20, Try.ntmps20
      go_wp2_with (first
            | (go_at_call 56; (with_reducible refine (isRise_any _ _).mono ?_); rintro e w' ⟨rfl, rfl⟩)
            | (go_at_call 59; (with_reducible refine (within64_one _ _ _ _ _ _ (by simp)).mono ?_); rintro e w' ⟨rfl, rfl⟩))
      go_ret2
      exact ⟨ret_two HE.out.1.symm HE.out.2.symm, (by repeat (first | (with_reducible exact Below.refl _ _) | (with_reducible refine below_drewN' ?_ _) | (with_reducible refine Below.alloc ?_ (by simp <;> omega) _) | (with_reducible refine Below.setCell ?_ (by simp) _)))⟩
  · have i1 := inB_false h1
    have HE := Lib.hid (tf_bad1 (r := r) (d := d) i1)
    go_enter Try.func20, Try.ntmps20
    go_wp2_with (first
          | (go_at_call 56; (with_reducible refine (isRise_any _ _).mono ?_); rintro e w' ⟨rfl, rfl⟩)
          | (go_at_call 59; (with_reducible refine (within64_one _ _ _ _ _ _ (by simp)).mono ?_); rintro e w' ⟨rfl, rfl⟩))
    go_ret2
    exact ⟨ret_two HE.out.1.symm HE.out.2.symm, (by repeat (first | (with_reducible exact Below.refl _ _) | (with_reducible refine below_drewN' ?_ _) | (with_reducible refine Below.alloc ?_ (by simp <;> omega) _) | (with_reducible refine Below.setCell ?_ (by simp) _)))⟩
end Go.Proofs.Ytjooebiiceillaa
