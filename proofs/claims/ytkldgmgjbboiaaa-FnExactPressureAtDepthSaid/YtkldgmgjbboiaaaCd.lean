/-
  Contracts of chapter 2: the pressure at a depth; the model's and the program's. Conditions: those that each theorem states.
-/
import Derived.Test.YtkldgmgjbboiaaaCb
import Derived.Deep.RegionHeld3
import Derived.IntWalk
import Derived.Deep.LoopGhost
namespace Go.Proofs.Ytkldgmgjbboiaaa
open Go.RowKit
set_option linter.unusedVariables false

/-- One step down. -/
def stepR (t p h : Int) : Int := p + divR (981 * h * densR t p) 100000
theorem dens_bd {t p : Int} (h1 : -100 ≤ t ∧ t ≤ 600) (h2 : 0 ≤ p) (h3 : p ≤ 420000) : 0 ≤ densR t p ∧ densR t p ≤ p / 75 + 1 := by
  unfold densR
  rw [divR_pp _ _ (by omega) (by omega)]
  refine ⟨Int.ediv_nonneg (by omega) (by omega), ?_⟩
  apply Int.le_of_lt_add_one
  rw [Int.ediv_lt_iff_lt_mul (by omega)]
  have hD : 302148830 ≤ 57410 * (5463 + 2 * t) := by omega
  generalize 57410 * (5463 + 2 * t) = D at *
  have hq : p ≤ 75 * (p / 75) + 74 := by omega
  generalize p / 75 = q at *
  have hq0 : 0 ≤ q := by omega
  have hm : 302148830 * (2 * q + 3) ≤ D * (2 * q + 3) := Int.mul_le_mul_of_nonneg_right hD (by omega)
  have x1 : q * (2 * D) = 2 * (D * q) := by rw [Int.mul_left_comm, Int.mul_comm q D]
  have x2 : D * (2 * q) = 2 * (D * q) := Int.mul_left_comm _ _ _
  have e1 : (q + 1 + 1) * (2 * D) = q * (2 * D) + 2 * D + 2 * D := by rw [Int.add_mul, Int.add_mul, Int.one_mul]
  have e2 : D * (2 * q + 3) = D * (2 * q) + D * 3 := Int.mul_add _ _ _
  omega
theorem step_bd {t p h : Int} (h1 : -100 ≤ t ∧ t ≤ 600) (h2 : 0 ≤ p) (h3 : p ≤ 420000) (h4 : 0 ≤ h ∧ h ≤ 100) :
    (0 ≤ 981 * h * densR t p ∧ 981 * h * densR t p ≤ 600000000) ∧ (0 ≤ divR (981 * h * densR t p) 100000 ∧ divR (981 * h * densR t p) 100000 ≤ 9000) := by
  have hd := dens_bd h1 h2 h3
  have a : 0 ≤ 981 * h * densR t p := Int.mul_nonneg (by omega) hd.1
  have b : 981 * h * densR t p ≤ 98100 * densR t p := Int.mul_le_mul_of_nonneg_right (by omega) hd.1
  rw [divR_pp _ _ a (by omega)]
  omega
/-- The pressure below, with the rest of the way; the greatest number of steps first. -/
def downR (t : Int) : Nat → Int → Int → Int
  | 0, p, _ => p
  | n + 1, p, left => if left ≤ 0 then p else downR t n (stepR t p (min left 100)) (left - 100)
theorem downR_done {t p left : Int} (n : Nat) (h : left ≤ 0) : downR t n p left = p := by cases n <;> simp [downR, h]
theorem downR_step {t p left : Int} (n : Nat) (h : 0 < left) : downR t (n + 1) p left = downR t n (stepR t p (min left 100)) (left - 100) := by simp [downR]; omega
theorem downR_ge {t : Int} (h1 : -100 ≤ t ∧ t ≤ 600) : ∀ (n : Nat) (p left : Int), 0 ≤ p → p + 9000 * (n : Int) ≤ 429000 → p ≤ downR t n p left
  | 0, p, left, _, _ => Int.le_refl _
  | n + 1, p, left, h2, h3 => by
    by_cases hl : left ≤ 0
    · rw [downR_done _ hl]; omega
    · rw [downR_step _ (by omega)]
      have hs := step_bd h1 h2 (p := p) (h := min left 100) (by omega) (by omega)
      have := downR_ge h1 n (stepR t p (min left 100)) (left - 100) (by unfold stepR; omega) (by unfold stepR; omega)
      unfold stepR at this ⊢
      omega
/-- What PressureAtDepth returns. -/
def prV (t p d : Int) : Int := downR t 31 p d
def prOk (t p d : Int) : Bool := inB t (-100) 600 && inB p 50000 150000 && inB d 0 3000
def prA (t p d : Int) : Int := if prOk t p d then (if 150000 < prV t p d then 0 else prV t p d) else 0
def prB (t p d : Int) : Int := if prOk t p d then (if 150000 < prV t p d then 6 else 0) else 2
theorem l00Min_min (a b : Int) (w : World) : Calls Try.prog 31 #[.int .i64 a, .int .i64 b] w fun e w' => e = .returned (.int .i64 (min a b)) ∧ w = w' :=
  (l00Min_any a b w).mono fun _ _ ⟨h, e⟩ => ⟨h.trans (ret_int (by split <;> omega)), e⟩
set_option maxHeartbeats 1000000 in
theorem sPressureAtDepth_any (t p d : Int) (w : World) :
    Calls Try.prog 14 #[.int .i64 t, .int .i64 p, .int .i64 d] w fun e w' => e = .returned (.tuple #[.int .i64 (prA t p d), .int .i64 (prB t p d)]) ∧ w = w' := by
  by_cases h1 : -100 ≤ t ∧ t ≤ 600
  · have i1 := inB_true h1.1 h1.2
    by_cases h2 : 50000 ≤ p ∧ p ≤ 150000
    · have i2 := inB_true h2.1 h2.2
      by_cases h3 : 0 ≤ d ∧ d ≤ 3000
      · have i3 := inB_true h3.1 h3.2
        go_enter Try.func14, Try.ntmps14
        go_wp2_with (first
              | (go_at_call 26; (with_reducible refine (l02Temperature_any _ _).mono ?_); rintro e w' ⟨rfl, rfl⟩)
              | (go_at_call 27; (with_reducible refine (l02Pressure_any _ _).mono ?_); rintro e w' ⟨rfl, rfl⟩)
              | (go_at_call 30; (with_reducible refine (l00In_any _ _ _ _).mono ?_); rintro e w' ⟨rfl, rfl⟩))
        have HF := Lib.hid (show prV t p d = downR t 31 p d from rfl)
        have hok : prOk t p d = true := by simp [prOk, i1, i2, i3]
        have HA := Lib.hid (show prA t p d = (if 150000 < prV t p d then 0 else prV t p d) ∧ prB t p d = (if 150000 < prV t p d then 6 else 0) by simp [prA, prB, hok])
        clear hok
        generalize prV t p d = F at *
        go_loop [8, 9] (fun x y => ∃ (k : Nat) (q : Int), x = .int .i64 q ∧ y = .int .i64 (100 * (k : Int)) ∧ (0 ≤ q ∧ q + 9000 * (31 - (k : Int)) ≤ 429000) ∧ k ≤ 31 ∧ 100 * (k : Int) < d + 100 ∧ Hid (F = downR t (31 - k) q (d - 100 * (k : Int)))) (fun x y => (d - intOf y).toNat)
        case atStart => exact ⟨0, p, rfl, rfl, ⟨by omega, by omega⟩, by omega, by omega, Lib.hid (by rw [HF.out]; simp)⟩
        case round =>
          obtain ⟨k, q, rfl, rfl, ⟨hq0, hq1⟩, hk, hkd, H⟩ := hrel
          by_cases hlt : 100 * (k : Int) < d
          · have hk2 : k ≤ 29 := by omega
            obtain ⟨⟨s1, s2⟩, s3, s4⟩ := step_bd h1 hq0 (h := min 100 (d - 100 * (k : Int))) (by omega) (by omega)
            have hh : 0 ≤ min 100 (d - 100 * (k : Int)) ∧ min 100 (d - 100 * (k : Int)) ≤ 100 := by omega
            have HM := Lib.hid (show min 100 (d - 100 * (k : Int)) = min (d - 100 * (k : Int)) 100 by omega)
            generalize hg : min 100 (d - 100 * (k : Int)) = g at *
            have HG := Lib.hid hg
            clear hg
            go_wp2_with (first
              | (go_at_call 31; (with_reducible refine (l00Min_min _ _ _).mono ?_); rw [HG.out]; rintro e w' ⟨rfl, rfl⟩)
              | (go_at_call 28; (with_reducible refine (l02Density_any t q _ h1.1 h1.2 (by omega) (by omega)).mono ?_); rintro e w' ⟨rfl, rfl⟩)
              | (go_at_call 32; refine (l01Div_any _ _ _ (by omega) (by omega) (by omega) (by omega) (by omega)).mono ?_; rintro e w' ⟨rfl, rfl⟩))
            go_round
            case rel =>
              refine ⟨k + 1, q + divR (981 * g * densR t q) 100000, rfl, by rw [show 100 * (k : Int) + 100 = 100 * ((k + 1 : Nat) : Int) by omega], ⟨by omega, by omega⟩, by omega, by omega, Lib.hid ?_⟩
              have hH := H.out
              rw [show 31 - k = (31 - (k + 1)) + 1 by omega, downR_step _ (by omega), ← HM.out] at hH
              rw [hH, show d - 100 * (k : Int) - 100 = d - 100 * ((k + 1 : Nat) : Int) by omega]
              rfl
            case measure => simp [intOf]; omega
          · have hF := H.out
            rw [downR_done _ (by omega)] at hF
            subst hF
            by_cases hc : 150000 < F
            · have HE := Lib.hid (show prA t p d = 0 ∧ prB t p d = 6 by rw [HA.out.1, HA.out.2, if_pos hc, if_pos hc]; exact ⟨rfl, rfl⟩)
              go_wp2
              go_ret2
              exact ⟨ret_two HE.out.1.symm HE.out.2.symm, rfl⟩
            · have HE := Lib.hid (show prA t p d = F ∧ prB t p d = 0 by rw [HA.out.1, HA.out.2, if_neg hc, if_neg hc]; exact ⟨rfl, rfl⟩)
              go_wp2
              go_ret2
              exact ⟨ret_two HE.out.1.symm HE.out.2.symm, rfl⟩
      · have i3 := inB_false h3
        have HE := Lib.hid (show prA t p d = 0 ∧ prB t p d = 2 by simp [prA, prB, prOk, i3])
        go_enter Try.func14, Try.ntmps14
        go_wp2_with (first
              | (go_at_call 26; (with_reducible refine (l02Temperature_any _ _).mono ?_); rintro e w' ⟨rfl, rfl⟩)
              | (go_at_call 27; (with_reducible refine (l02Pressure_any _ _).mono ?_); rintro e w' ⟨rfl, rfl⟩)
              | (go_at_call 30; (with_reducible refine (l00In_any _ _ _ _).mono ?_); rintro e w' ⟨rfl, rfl⟩))
        go_ret2
        exact ⟨ret_two HE.out.1.symm HE.out.2.symm, rfl⟩
    · have i2 := inB_false h2
      have HE := Lib.hid (show prA t p d = 0 ∧ prB t p d = 2 by simp [prA, prB, prOk, i2])
      go_enter Try.func14, Try.ntmps14
      go_wp2_with (first
            | (go_at_call 26; (with_reducible refine (l02Temperature_any _ _).mono ?_); rintro e w' ⟨rfl, rfl⟩)
            | (go_at_call 27; (with_reducible refine (l02Pressure_any _ _).mono ?_); rintro e w' ⟨rfl, rfl⟩)
            | (go_at_call 30; (with_reducible refine (l00In_any _ _ _ _).mono ?_); rintro e w' ⟨rfl, rfl⟩))
      go_ret2
      exact ⟨ret_two HE.out.1.symm HE.out.2.symm, rfl⟩
  · have i1 := inB_false h1
    have HE := Lib.hid (show prA t p d = 0 ∧ prB t p d = 2 by simp [prA, prB, prOk, i1])
    go_enter Try.func14, Try.ntmps14
    go_wp2_with (first
          | (go_at_call 26; (with_reducible refine (l02Temperature_any _ _).mono ?_); rintro e w' ⟨rfl, rfl⟩)
          | (go_at_call 27; (with_reducible refine (l02Pressure_any _ _).mono ?_); rintro e w' ⟨rfl, rfl⟩)
          | (go_at_call 30; (with_reducible refine (l00In_any _ _ _ _).mono ?_); rintro e w' ⟨rfl, rfl⟩))
    go_ret2
    exact ⟨ret_two HE.out.1.symm HE.out.2.symm, rfl⟩
end Go.Proofs.Ytkldgmgjbboiaaa
