/-
  Contracts of chapter 2: densities, flows of mass, felt temperatures, the model's and the program's. Conditions: those that each theorem states.
-/
import Derived.Test.YtkldgmgjbboiaaaCa
import Derived.Test.YtkldgmgjbboiaaaBc
namespace Go.Proofs.Ytkldgmgjbboiaaa
open Go.RowKit
set_option linter.unusedVariables false

/-- The density of dry air. -/
def densR (t p : Int) : Int := divR (4000000 * p) (57410 * (5463 + 2 * t))
theorem l02Density_any (t p : Int) (w : World) (h1 : -100 ≤ t) (h2 : t ≤ 600) (h3 : -1000000 ≤ p) (h4 : p ≤ 1000000) :
    Calls Try.prog 28 #[.int .i64 t, .int .i64 p] w fun e w' => e = .returned (.int .i64 (densR t p)) ∧ w = w' := by
  have HE := Lib.hid (show densR t p = divR (4000000 * p) (57410 * (5463 + 2 * t)) from rfl)
  go_enter Try.func28, Try.ntmps28
  go_wp2_with (go_at_call 32; refine (l01Div_any _ _ _ (by omega) (by omega) (by omega) (by omega) (by omega)).mono ?_; rintro e w' ⟨rfl, rfl⟩)
  go_ret
  exact ⟨ret_int HE.out.symm, rfl⟩
theorem dryDensity_any (t p h : Int) (w : World) (h1 : -100 ≤ t) (h2 : t ≤ 600) (h3 : -1000000 ≤ p) (h4 : p ≤ 1000000) :
    Calls Try.prog 29 #[.agg #[.int .i64 t, .int .i64 p, .int .i64 h]] w fun e w' => e = .returned (.int .i64 (densR t p)) ∧ ∃ n, w' = (w.alloc (.cells #[.int .i64 t, .int .i64 p, .int .i64 h] 25)).drewN n := by
  have HE := Lib.hid (show densR t p = divR (4000000 * p) (57410 * (5463 + 2 * t)) from rfl)
  go_enter Try.func29, Try.ntmps29
  go_wp2_with (go_at_call 34; refine (nearest_any _ _ _ (by omega) (by omega) (by omega) (by omega)).mono ?_; rintro e w' ⟨rfl, n, rfl⟩)
  go_ret
  exact ⟨ret_int HE.out.symm, n, rfl⟩

/-- What DensityOf returns. -/
def densA (t p : Int) : Int := if airOk t p 0 then densR t p else 0
def densB (t p : Int) : Int := if airOk t p 0 then 0 else 2
theorem airOk0 {t p : Int} : airOk t p 0 = (inB t (-100) 600 && inB p 50000 150000) := by simp [airOk, inB]
theorem sDensityOf_any (t p : Int) (w : World) :
    Calls Try.prog 12 #[.int .i64 t, .int .i64 p] w fun e w' => e = .returned (.tuple #[.int .i64 (densA t p), .int .i64 (densB t p)]) ∧ w = w' := by
  by_cases h1 : -100 ≤ t ∧ t ≤ 600
  · have i1 := inB_true h1.1 h1.2
    by_cases h2 : 50000 ≤ p ∧ p ≤ 150000
    · have i2 := inB_true h2.1 h2.2
      have HE := Lib.hid (show densA t p = densR t p ∧ densB t p = 0 by simp [densA, densB, airOk0, i1, i2])
      go_enter Try.func12, Try.ntmps12
      go_wp2_with (first
            | (go_at_call 26; refine (l02Temperature_any _ _).mono ?_; rintro e w' ⟨rfl, rfl⟩)
            | (go_at_call 27; refine (l02Pressure_any _ _).mono ?_; rintro e w' ⟨rfl, rfl⟩)
            | (go_at_call 28; refine (l02Density_any t p _ (by omega) (by omega) (by omega) (by omega)).mono ?_; rintro e w' ⟨rfl, rfl⟩))
      go_ret2
      exact ⟨ret_two HE.out.1.symm HE.out.2.symm, rfl⟩
    · have i2 := inB_false h2
      have HE := Lib.hid (show densA t p = 0 ∧ densB t p = 2 by simp [densA, densB, airOk0, i2])
      go_enter Try.func12, Try.ntmps12
      go_wp2_with (first
            | (go_at_call 26; refine (l02Temperature_any _ _).mono ?_; rintro e w' ⟨rfl, rfl⟩)
            | (go_at_call 27; refine (l02Pressure_any _ _).mono ?_; rintro e w' ⟨rfl, rfl⟩)
            | (go_at_call 28; refine (l02Density_any t p _ (by omega) (by omega) (by omega) (by omega)).mono ?_; rintro e w' ⟨rfl, rfl⟩))
      go_ret2
      exact ⟨ret_two HE.out.1.symm HE.out.2.symm, rfl⟩
  · have i1 := inB_false h1
    have HE := Lib.hid (show densA t p = 0 ∧ densB t p = 2 by simp [densA, densB, airOk0, i1])
    go_enter Try.func12, Try.ntmps12
    go_wp2_with (first
          | (go_at_call 26; refine (l02Temperature_any _ _).mono ?_; rintro e w' ⟨rfl, rfl⟩)
          | (go_at_call 27; refine (l02Pressure_any _ _).mono ?_; rintro e w' ⟨rfl, rfl⟩)
          | (go_at_call 28; refine (l02Density_any t p _ (by omega) (by omega) (by omega) (by omega)).mono ?_; rintro e w' ⟨rfl, rfl⟩))
    go_ret2
    exact ⟨ret_two HE.out.1.symm HE.out.2.symm, rfl⟩
theorem iDensityOf_any (t p : Int) (w : World) :
    Calls Try.prog 13 #[.int .i64 t, .int .i64 p] w fun e w' => e = .returned (.tuple #[.int .i64 (densA t p), .int .i64 (densB t p)]) ∧ Below w.heap.size w w' := by
  cases hok : airOk t p 0
  · have HE := Lib.hid (show densA t p = 0 ∧ densB t p = 2 by simp [densA, densB, hok])
    go_enter Try.func13, Try.ntmps13
    go_wp2_with (go_at_call 11; refine (iValidAir_any t p 0 _).mono ?_; rintro e w' ⟨rfl, rfl⟩)
    go_ret2
    exact ⟨ret_two HE.out.1.symm HE.out.2.symm, (by repeat (first | exact Below.refl _ _ | refine below_drewN' ?_ _ | refine Below.alloc ?_ (by simp <;> omega) _))⟩
  · have HE := Lib.hid (show densA t p = densR t p ∧ densB t p = 0 by simp [densA, densB, hok])
    have hb := airOk_iff.1 hok
    obtain ⟨⟨⟨b1, b2⟩, b3, b4⟩, b5, b6⟩ := hb
    go_enter Try.func13, Try.ntmps13
    go_wp2_with (first
      | (go_at_call 11; refine (iValidAir_any t p 0 _).mono ?_; rintro e w' ⟨rfl, rfl⟩)
      | (go_at_call 29; refine (dryDensity_any t p 0 _ (by omega) (by omega) (by omega) (by omega)).mono ?_; rintro e w' ⟨rfl, n, rfl⟩))
    go_ret2
    exact ⟨ret_two HE.out.1.symm HE.out.2.symm, (by repeat (first | exact Below.refl _ _ | refine below_drewN' ?_ _ | refine Below.alloc ?_ (by simp <;> omega) _))⟩
/-- What MassFlow, SameMass and FeltTemperature return. -/
def massA (q d : Int) : Int := if inB q (-100000) 100000 && inB d 1 5000 then divR (q * d) 100 else 0
def massB (q d : Int) : Int := if inB q (-100000) 100000 && inB d 1 5000 then 0 else 2
def sameA (q d c : Int) : Int := if inB q (-100000) 100000 && inB d 1 5000 && inB c 1 5000 then divR (q * d) c else 0
def sameB (q d c : Int) : Int := if inB q (-100000) 100000 && inB d 1 5000 && inB c 1 5000 then 0 else 2
theorem sMassFlow_any (q d : Int) (w : World) :
    Calls Try.prog 16 #[.int .i64 q, .int .i64 d] w fun e w' => e = .returned (.tuple #[.int .i64 (massA q d), .int .i64 (massB q d)]) ∧ w = w' := by
  by_cases h1 : -100000 ≤ q ∧ q ≤ 100000
  · have i1 := inB_true h1.1 h1.2
    by_cases h2 : 1 ≤ d ∧ d ≤ 5000
    · have i2 := inB_true h2.1 h2.2
      have HE := Lib.hid (show massA q d = divR (q * d) 100 ∧ massB q d = 0 by simp [massA, massB, i1, i2])
      have hm := mul_bd q d 100000 5000 (by omega) (by omega) (by omega) (by omega)
      go_enter Try.func16, Try.ntmps16
      go_wp2_with (first
            | (go_at_call 30; refine (l00In_any _ _ _ _).mono ?_; rintro e w' ⟨rfl, rfl⟩)
            | (go_at_call 35; refine (l02Dense_any _ _).mono ?_; rintro e w' ⟨rfl, rfl⟩)
            | (go_at_call 32; refine (l01Div_any _ _ _ (by omega) (by omega) (by omega) (by omega) (by omega)).mono ?_; rintro e w' ⟨rfl, rfl⟩))
      go_ret2
      exact ⟨ret_two HE.out.1.symm HE.out.2.symm, rfl⟩
    · have i2 := inB_false h2
      have HE := Lib.hid (show massA q d = 0 ∧ massB q d = 2 by simp [massA, massB, i2])
      go_enter Try.func16, Try.ntmps16
      go_wp2_with (first
            | (go_at_call 30; refine (l00In_any _ _ _ _).mono ?_; rintro e w' ⟨rfl, rfl⟩)
            | (go_at_call 35; refine (l02Dense_any _ _).mono ?_; rintro e w' ⟨rfl, rfl⟩)
            | (go_at_call 32; refine (l01Div_any _ _ _ (by omega) (by omega) (by omega) (by omega) (by omega)).mono ?_; rintro e w' ⟨rfl, rfl⟩))
      go_ret2
      exact ⟨ret_two HE.out.1.symm HE.out.2.symm, rfl⟩
  · have i1 := inB_false h1
    have HE := Lib.hid (show massA q d = 0 ∧ massB q d = 2 by simp [massA, massB, i1])
    go_enter Try.func16, Try.ntmps16
    go_wp2_with (first
          | (go_at_call 30; refine (l00In_any _ _ _ _).mono ?_; rintro e w' ⟨rfl, rfl⟩)
          | (go_at_call 35; refine (l02Dense_any _ _).mono ?_; rintro e w' ⟨rfl, rfl⟩)
          | (go_at_call 32; refine (l01Div_any _ _ _ (by omega) (by omega) (by omega) (by omega) (by omega)).mono ?_; rintro e w' ⟨rfl, rfl⟩))
    go_ret2
    exact ⟨ret_two HE.out.1.symm HE.out.2.symm, rfl⟩
theorem iMassFlow_any (q d : Int) (w : World) :
    Calls Try.prog 17 #[.int .i64 q, .int .i64 d] w fun e w' => e = .returned (.tuple #[.int .i64 (massA q d), .int .i64 (massB q d)]) ∧ ∃ n, w' = w.drewN n := by
  by_cases h1 : -100000 ≤ q ∧ q ≤ 100000
  · have i1 := inB_true h1.1 h1.2
    by_cases h2 : 1 ≤ d ∧ d ≤ 5000
    · have i2 := inB_true h2.1 h2.2
      have HE := Lib.hid (show massA q d = divR (q * d) 100 ∧ massB q d = 0 by simp [massA, massB, i1, i2])
      have hm := mul_bd q d 100000 5000 (by omega) (by omega) (by omega) (by omega)
      go_enter Try.func17, Try.ntmps17
      go_wp2_with (first
            | (go_at_call 36; refine (isFlow_any _ _).mono ?_; rintro e w' ⟨rfl, rfl⟩)
            | (go_at_call 37; refine (isDensity_any _ _).mono ?_; rintro e w' ⟨rfl, rfl⟩)
            | (go_at_call 34; refine (nearest_any _ _ _ (by omega) (by omega) (by omega) (by omega)).mono ?_; rintro e w' ⟨rfl, n, rfl⟩))
      go_ret2
      exact ⟨ret_two HE.out.1.symm HE.out.2.symm, n, rfl⟩
    · have i2 := inB_false h2
      have HE := Lib.hid (show massA q d = 0 ∧ massB q d = 2 by simp [massA, massB, i2])
      go_enter Try.func17, Try.ntmps17
      go_wp2_with (first
            | (go_at_call 36; refine (isFlow_any _ _).mono ?_; rintro e w' ⟨rfl, rfl⟩)
            | (go_at_call 37; refine (isDensity_any _ _).mono ?_; rintro e w' ⟨rfl, rfl⟩)
            | (go_at_call 34; refine (nearest_any _ _ _ (by omega) (by omega) (by omega) (by omega)).mono ?_; rintro e w' ⟨rfl, n, rfl⟩))
      go_ret2
      exact ⟨ret_two HE.out.1.symm HE.out.2.symm, 0, rfl⟩
  · have i1 := inB_false h1
    have HE := Lib.hid (show massA q d = 0 ∧ massB q d = 2 by simp [massA, massB, i1])
    go_enter Try.func17, Try.ntmps17
    go_wp2_with (first
          | (go_at_call 36; refine (isFlow_any _ _).mono ?_; rintro e w' ⟨rfl, rfl⟩)
          | (go_at_call 37; refine (isDensity_any _ _).mono ?_; rintro e w' ⟨rfl, rfl⟩)
          | (go_at_call 34; refine (nearest_any _ _ _ (by omega) (by omega) (by omega) (by omega)).mono ?_; rintro e w' ⟨rfl, n, rfl⟩))
    go_ret2
    exact ⟨ret_two HE.out.1.symm HE.out.2.symm, 0, rfl⟩
theorem sSameMass_any (q d c : Int) (w : World) :
    Calls Try.prog 18 #[.int .i64 q, .int .i64 d, .int .i64 c] w fun e w' => e = .returned (.tuple #[.int .i64 (sameA q d c), .int .i64 (sameB q d c)]) ∧ w = w' := by
  by_cases h1 : -100000 ≤ q ∧ q ≤ 100000
  · have i1 := inB_true h1.1 h1.2
    by_cases h2 : 1 ≤ d ∧ d ≤ 5000
    · have i2 := inB_true h2.1 h2.2
      by_cases h3 : 1 ≤ c ∧ c ≤ 5000
      · have i3 := inB_true h3.1 h3.2
        have HE := Lib.hid (show sameA q d c = divR (q * d) c ∧ sameB q d c = 0 by simp [sameA, sameB, i1, i2, i3])
        have hm := mul_bd q d 100000 5000 (by omega) (by omega) (by omega) (by omega)
        go_enter Try.func18, Try.ntmps18
        go_wp2_with (first
              | (go_at_call 30; refine (l00In_any _ _ _ _).mono ?_; rintro e w' ⟨rfl, rfl⟩)
              | (go_at_call 35; refine (l02Dense_any _ _).mono ?_; rintro e w' ⟨rfl, rfl⟩)
              | (go_at_call 32; refine (l01Div_any _ _ _ (by omega) (by omega) (by omega) (by omega) (by omega)).mono ?_; rintro e w' ⟨rfl, rfl⟩))
        go_ret2
        exact ⟨ret_two HE.out.1.symm HE.out.2.symm, rfl⟩
      · have i3 := inB_false h3
        have HE := Lib.hid (show sameA q d c = 0 ∧ sameB q d c = 2 by simp [sameA, sameB, i3])
        go_enter Try.func18, Try.ntmps18
        go_wp2_with (first
              | (go_at_call 30; refine (l00In_any _ _ _ _).mono ?_; rintro e w' ⟨rfl, rfl⟩)
              | (go_at_call 35; refine (l02Dense_any _ _).mono ?_; rintro e w' ⟨rfl, rfl⟩)
              | (go_at_call 32; refine (l01Div_any _ _ _ (by omega) (by omega) (by omega) (by omega) (by omega)).mono ?_; rintro e w' ⟨rfl, rfl⟩))
        go_ret2
        exact ⟨ret_two HE.out.1.symm HE.out.2.symm, rfl⟩
    · have i2 := inB_false h2
      have HE := Lib.hid (show sameA q d c = 0 ∧ sameB q d c = 2 by simp [sameA, sameB, i2])
      go_enter Try.func18, Try.ntmps18
      go_wp2_with (first
            | (go_at_call 30; refine (l00In_any _ _ _ _).mono ?_; rintro e w' ⟨rfl, rfl⟩)
            | (go_at_call 35; refine (l02Dense_any _ _).mono ?_; rintro e w' ⟨rfl, rfl⟩)
            | (go_at_call 32; refine (l01Div_any _ _ _ (by omega) (by omega) (by omega) (by omega) (by omega)).mono ?_; rintro e w' ⟨rfl, rfl⟩))
      go_ret2
      exact ⟨ret_two HE.out.1.symm HE.out.2.symm, rfl⟩
  · have i1 := inB_false h1
    have HE := Lib.hid (show sameA q d c = 0 ∧ sameB q d c = 2 by simp [sameA, sameB, i1])
    go_enter Try.func18, Try.ntmps18
    go_wp2_with (first
          | (go_at_call 30; refine (l00In_any _ _ _ _).mono ?_; rintro e w' ⟨rfl, rfl⟩)
          | (go_at_call 35; refine (l02Dense_any _ _).mono ?_; rintro e w' ⟨rfl, rfl⟩)
          | (go_at_call 32; refine (l01Div_any _ _ _ (by omega) (by omega) (by omega) (by omega) (by omega)).mono ?_; rintro e w' ⟨rfl, rfl⟩))
    go_ret2
    exact ⟨ret_two HE.out.1.symm HE.out.2.symm, rfl⟩
theorem iSameMass_any (q d c : Int) (w : World) :
    Calls Try.prog 19 #[.int .i64 q, .int .i64 d, .int .i64 c] w fun e w' => e = .returned (.tuple #[.int .i64 (sameA q d c), .int .i64 (sameB q d c)]) ∧ ∃ n, w' = w.drewN n := by
  by_cases h1 : -100000 ≤ q ∧ q ≤ 100000
  · have i1 := inB_true h1.1 h1.2
    by_cases h2 : 1 ≤ d ∧ d ≤ 5000
    · have i2 := inB_true h2.1 h2.2
      by_cases h3 : 1 ≤ c ∧ c ≤ 5000
      · have i3 := inB_true h3.1 h3.2
        have HE := Lib.hid (show sameA q d c = divR (q * d) c ∧ sameB q d c = 0 by simp [sameA, sameB, i1, i2, i3])
        have hm := mul_bd q d 100000 5000 (by omega) (by omega) (by omega) (by omega)
        go_enter Try.func19, Try.ntmps19
        go_wp2_with (first
              | (go_at_call 36; refine (isFlow_any _ _).mono ?_; rintro e w' ⟨rfl, rfl⟩)
              | (go_at_call 37; refine (isDensity_any _ _).mono ?_; rintro e w' ⟨rfl, rfl⟩)
              | (go_at_call 34; refine (nearest_any _ _ _ (by omega) (by omega) (by omega) (by omega)).mono ?_; rintro e w' ⟨rfl, n, rfl⟩))
        go_ret2
        exact ⟨ret_two HE.out.1.symm HE.out.2.symm, n, rfl⟩
      · have i3 := inB_false h3
        have HE := Lib.hid (show sameA q d c = 0 ∧ sameB q d c = 2 by simp [sameA, sameB, i3])
        go_enter Try.func19, Try.ntmps19
        go_wp2_with (first
              | (go_at_call 36; refine (isFlow_any _ _).mono ?_; rintro e w' ⟨rfl, rfl⟩)
              | (go_at_call 37; refine (isDensity_any _ _).mono ?_; rintro e w' ⟨rfl, rfl⟩)
              | (go_at_call 34; refine (nearest_any _ _ _ (by omega) (by omega) (by omega) (by omega)).mono ?_; rintro e w' ⟨rfl, n, rfl⟩))
        go_ret2
        exact ⟨ret_two HE.out.1.symm HE.out.2.symm, 0, rfl⟩
    · have i2 := inB_false h2
      have HE := Lib.hid (show sameA q d c = 0 ∧ sameB q d c = 2 by simp [sameA, sameB, i2])
      go_enter Try.func19, Try.ntmps19
      go_wp2_with (first
            | (go_at_call 36; refine (isFlow_any _ _).mono ?_; rintro e w' ⟨rfl, rfl⟩)
            | (go_at_call 37; refine (isDensity_any _ _).mono ?_; rintro e w' ⟨rfl, rfl⟩)
            | (go_at_call 34; refine (nearest_any _ _ _ (by omega) (by omega) (by omega) (by omega)).mono ?_; rintro e w' ⟨rfl, n, rfl⟩))
      go_ret2
      exact ⟨ret_two HE.out.1.symm HE.out.2.symm, 0, rfl⟩
  · have i1 := inB_false h1
    have HE := Lib.hid (show sameA q d c = 0 ∧ sameB q d c = 2 by simp [sameA, sameB, i1])
    go_enter Try.func19, Try.ntmps19
    go_wp2_with (first
          | (go_at_call 36; refine (isFlow_any _ _).mono ?_; rintro e w' ⟨rfl, rfl⟩)
          | (go_at_call 37; refine (isDensity_any _ _).mono ?_; rintro e w' ⟨rfl, rfl⟩)
          | (go_at_call 34; refine (nearest_any _ _ _ (by omega) (by omega) (by omega) (by omega)).mono ?_; rintro e w' ⟨rfl, n, rfl⟩))
    go_ret2
    exact ⟨ret_two HE.out.1.symm HE.out.2.symm, 0, rfl⟩
/-- The cooling by a speed. -/
def coolR (v : Int) : Int := if 50 < v / 10 then 50 else v / 10
theorem cool1 {v : Int} (h : 50 ≤ v / 10) : coolR v = 50 := by unfold coolR; split <;> omega
theorem cool2 {v : Int} (h : v / 10 ≤ 50) : coolR v = v / 10 := by unfold coolR; split <;> omega
def feltA (d u v : Int) : Int := if inB d (-100) 600 && inB u (-100) 600 && inB v 0 2000 then (if d < u then 0 else divR (7 * u + 3 * d) 10 - coolR v) else 0
def feltB (d u v : Int) : Int := if inB d (-100) 600 && inB u (-100) 600 && inB v 0 2000 then (if d < u then 6 else 0) else 2
theorem sFeltTemperature_any (d u v : Int) (w : World) :
    Calls Try.prog 20 #[.int .i64 d, .int .i64 u, .int .i64 v] w fun e w' => e = .returned (.tuple #[.int .i64 (feltA d u v), .int .i64 (feltB d u v)]) ∧ w = w' := by
  by_cases h1 : -100 ≤ d ∧ d ≤ 600
  · have i1 := inB_true h1.1 h1.2
    by_cases h2 : -100 ≤ u ∧ u ≤ 600
    · have i2 := inB_true h2.1 h2.2
      by_cases h3 : 0 ≤ v ∧ v ≤ 2000
      · have i3 := inB_true h3.1 h3.2
        by_cases hdu : d < u
        · have HE := Lib.hid (show feltA d u v = 0 ∧ feltB d u v = 6 by simp [feltA, feltB, i1, i2, i3, hdu])
          go_enter Try.func20, Try.ntmps20
          go_wp2_with (first
              | (go_at_call 26; refine (l02Temperature_any _ _).mono ?_; rintro e w' ⟨rfl, rfl⟩)
              | (go_at_call 30; refine (l00In_any _ _ _ _).mono ?_; rintro e w' ⟨rfl, rfl⟩)
              | (go_at_call 31; refine (l00Min_any _ _ _).mono ?_; rintro e w' ⟨rfl, rfl⟩)
              | (go_at_call 32; refine (l01Div_any _ _ _ (by omega) (by omega) (by omega) (by omega) (by omega)).mono ?_; rintro e w' ⟨rfl, rfl⟩))
          go_ret2
          exact ⟨ret_two HE.out.1.symm HE.out.2.symm, rfl⟩
        · have hD := divR_bd (7 * u + 3 * d) 10
          by_cases hv : 50 < v / 10
          · have HE := Lib.hid (show feltA d u v = divR (7 * u + 3 * d) 10 - 50 ∧ feltB d u v = 0 by simp [feltA, feltB, i1, i2, i3, hdu, cool1 (show 50 ≤ v / 10 by omega)])
            go_enter Try.func20, Try.ntmps20
            go_wp2_with (first
              | (go_at_call 26; refine (l02Temperature_any _ _).mono ?_; rintro e w' ⟨rfl, rfl⟩)
              | (go_at_call 30; refine (l00In_any _ _ _ _).mono ?_; rintro e w' ⟨rfl, rfl⟩)
              | (go_at_call 31; refine (l00Min_any _ _ _).mono ?_; rintro e w' ⟨rfl, rfl⟩)
              | (go_at_call 32; refine (l01Div_any _ _ _ (by omega) (by omega) (by omega) (by omega) (by omega)).mono ?_; rintro e w' ⟨rfl, rfl⟩))
            go_ret2
            exact ⟨ret_two (by rw [HE.out.1]; try go_arith) HE.out.2.symm, rfl⟩
          · have HE := Lib.hid (show feltA d u v = divR (7 * u + 3 * d) 10 - v / 10 ∧ feltB d u v = 0 by simp [feltA, feltB, i1, i2, i3, hdu, cool2 (show v / 10 ≤ 50 by omega)])
            go_enter Try.func20, Try.ntmps20
            go_wp2_with (first
              | (go_at_call 26; refine (l02Temperature_any _ _).mono ?_; rintro e w' ⟨rfl, rfl⟩)
              | (go_at_call 30; refine (l00In_any _ _ _ _).mono ?_; rintro e w' ⟨rfl, rfl⟩)
              | (go_at_call 31; refine (l00Min_any _ _ _).mono ?_; rintro e w' ⟨rfl, rfl⟩)
              | (go_at_call 32; refine (l01Div_any _ _ _ (by omega) (by omega) (by omega) (by omega) (by omega)).mono ?_; rintro e w' ⟨rfl, rfl⟩))
            go_ret2
            exact ⟨ret_two (by rw [HE.out.1]; try go_arith) HE.out.2.symm, rfl⟩
      · have i3 := inB_false h3
        have HE := Lib.hid (show feltA d u v = 0 ∧ feltB d u v = 2 by simp [feltA, feltB, i3])
        go_enter Try.func20, Try.ntmps20
        go_wp2_with (first
              | (go_at_call 26; refine (l02Temperature_any _ _).mono ?_; rintro e w' ⟨rfl, rfl⟩)
              | (go_at_call 30; refine (l00In_any _ _ _ _).mono ?_; rintro e w' ⟨rfl, rfl⟩)
              | (go_at_call 31; refine (l00Min_any _ _ _).mono ?_; rintro e w' ⟨rfl, rfl⟩)
              | (go_at_call 32; refine (l01Div_any _ _ _ (by omega) (by omega) (by omega) (by omega) (by omega)).mono ?_; rintro e w' ⟨rfl, rfl⟩))
        go_ret2
        exact ⟨ret_two HE.out.1.symm HE.out.2.symm, rfl⟩
    · have i2 := inB_false h2
      have HE := Lib.hid (show feltA d u v = 0 ∧ feltB d u v = 2 by simp [feltA, feltB, i2])
      go_enter Try.func20, Try.ntmps20
      go_wp2_with (first
            | (go_at_call 26; refine (l02Temperature_any _ _).mono ?_; rintro e w' ⟨rfl, rfl⟩)
            | (go_at_call 30; refine (l00In_any _ _ _ _).mono ?_; rintro e w' ⟨rfl, rfl⟩)
            | (go_at_call 31; refine (l00Min_any _ _ _).mono ?_; rintro e w' ⟨rfl, rfl⟩)
            | (go_at_call 32; refine (l01Div_any _ _ _ (by omega) (by omega) (by omega) (by omega) (by omega)).mono ?_; rintro e w' ⟨rfl, rfl⟩))
      go_ret2
      exact ⟨ret_two HE.out.1.symm HE.out.2.symm, rfl⟩
  · have i1 := inB_false h1
    have HE := Lib.hid (show feltA d u v = 0 ∧ feltB d u v = 2 by simp [feltA, feltB, i1])
    go_enter Try.func20, Try.ntmps20
    go_wp2_with (first
          | (go_at_call 26; refine (l02Temperature_any _ _).mono ?_; rintro e w' ⟨rfl, rfl⟩)
          | (go_at_call 30; refine (l00In_any _ _ _ _).mono ?_; rintro e w' ⟨rfl, rfl⟩)
          | (go_at_call 31; refine (l00Min_any _ _ _).mono ?_; rintro e w' ⟨rfl, rfl⟩)
          | (go_at_call 32; refine (l01Div_any _ _ _ (by omega) (by omega) (by omega) (by omega) (by omega)).mono ?_; rintro e w' ⟨rfl, rfl⟩))
    go_ret2
    exact ⟨ret_two HE.out.1.symm HE.out.2.symm, rfl⟩
theorem iFeltTemperature_any (d u v : Int) (w : World) :
    Calls Try.prog 21 #[.int .i64 d, .int .i64 u, .int .i64 v] w fun e w' => e = .returned (.tuple #[.int .i64 (feltA d u v), .int .i64 (feltB d u v)]) ∧ ∃ n, w' = w.drewN n := by
  by_cases h1 : -100 ≤ d ∧ d ≤ 600
  · have i1 := inB_true h1.1 h1.2
    by_cases h2 : -100 ≤ u ∧ u ≤ 600
    · have i2 := inB_true h2.1 h2.2
      by_cases h3 : 0 ≤ v ∧ v ≤ 2000
      · have i3 := inB_true h3.1 h3.2
        by_cases hdu : d < u
        · have HE := Lib.hid (show feltA d u v = 0 ∧ feltB d u v = 6 by simp [feltA, feltB, i1, i2, i3, hdu])
          go_enter Try.func21, Try.ntmps21
          go_wp2_with (first
              | (go_at_call 23; refine (isWarmth_any _ _).mono ?_; rintro e w' ⟨rfl, rfl⟩)
              | (go_at_call 38; refine (isSpeed_any _ _).mono ?_; rintro e w' ⟨rfl, rfl⟩)
              | (go_at_call 34; refine (nearest_any _ _ _ (by omega) (by omega) (by omega) (by omega)).mono ?_; rintro e w' ⟨rfl, n, rfl⟩))
          go_ret2
          exact ⟨ret_two HE.out.1.symm HE.out.2.symm, 0, rfl⟩
        · have hD := divR_bd (7 * u + 3 * d) 10
          by_cases hv : 50 ≤ v / 10
          · have HE := Lib.hid (show feltA d u v = divR (7 * u + 3 * d) 10 - 50 ∧ feltB d u v = 0 by simp [feltA, feltB, i1, i2, i3, hdu, cool1 (show 50 ≤ v / 10 by omega)])
            go_enter Try.func21, Try.ntmps21
            go_wp2_with (first
              | (go_at_call 23; refine (isWarmth_any _ _).mono ?_; rintro e w' ⟨rfl, rfl⟩)
              | (go_at_call 38; refine (isSpeed_any _ _).mono ?_; rintro e w' ⟨rfl, rfl⟩)
              | (go_at_call 34; refine (nearest_any _ _ _ (by omega) (by omega) (by omega) (by omega)).mono ?_; rintro e w' ⟨rfl, n, rfl⟩))
            go_ret2
            exact ⟨ret_two (by rw [HE.out.1]; try go_arith) HE.out.2.symm, n, rfl⟩
          · have HE := Lib.hid (show feltA d u v = divR (7 * u + 3 * d) 10 - v / 10 ∧ feltB d u v = 0 by simp [feltA, feltB, i1, i2, i3, hdu, cool2 (show v / 10 ≤ 50 by omega)])
            go_enter Try.func21, Try.ntmps21
            go_wp2_with (first
              | (go_at_call 23; refine (isWarmth_any _ _).mono ?_; rintro e w' ⟨rfl, rfl⟩)
              | (go_at_call 38; refine (isSpeed_any _ _).mono ?_; rintro e w' ⟨rfl, rfl⟩)
              | (go_at_call 34; refine (nearest_any _ _ _ (by omega) (by omega) (by omega) (by omega)).mono ?_; rintro e w' ⟨rfl, n, rfl⟩))
            go_ret2
            exact ⟨ret_two (by rw [HE.out.1]; try go_arith) HE.out.2.symm, n, rfl⟩
      · have i3 := inB_false h3
        have HE := Lib.hid (show feltA d u v = 0 ∧ feltB d u v = 2 by simp [feltA, feltB, i3])
        go_enter Try.func21, Try.ntmps21
        go_wp2_with (first
              | (go_at_call 23; refine (isWarmth_any _ _).mono ?_; rintro e w' ⟨rfl, rfl⟩)
              | (go_at_call 38; refine (isSpeed_any _ _).mono ?_; rintro e w' ⟨rfl, rfl⟩)
              | (go_at_call 34; refine (nearest_any _ _ _ (by omega) (by omega) (by omega) (by omega)).mono ?_; rintro e w' ⟨rfl, n, rfl⟩))
        go_ret2
        exact ⟨ret_two HE.out.1.symm HE.out.2.symm, 0, rfl⟩
    · have i2 := inB_false h2
      have HE := Lib.hid (show feltA d u v = 0 ∧ feltB d u v = 2 by simp [feltA, feltB, i2])
      go_enter Try.func21, Try.ntmps21
      go_wp2_with (first
            | (go_at_call 23; refine (isWarmth_any _ _).mono ?_; rintro e w' ⟨rfl, rfl⟩)
            | (go_at_call 38; refine (isSpeed_any _ _).mono ?_; rintro e w' ⟨rfl, rfl⟩)
            | (go_at_call 34; refine (nearest_any _ _ _ (by omega) (by omega) (by omega) (by omega)).mono ?_; rintro e w' ⟨rfl, n, rfl⟩))
      go_ret2
      exact ⟨ret_two HE.out.1.symm HE.out.2.symm, 0, rfl⟩
  · have i1 := inB_false h1
    have HE := Lib.hid (show feltA d u v = 0 ∧ feltB d u v = 2 by simp [feltA, feltB, i1])
    go_enter Try.func21, Try.ntmps21
    go_wp2_with (first
          | (go_at_call 23; refine (isWarmth_any _ _).mono ?_; rintro e w' ⟨rfl, rfl⟩)
          | (go_at_call 38; refine (isSpeed_any _ _).mono ?_; rintro e w' ⟨rfl, rfl⟩)
          | (go_at_call 34; refine (nearest_any _ _ _ (by omega) (by omega) (by omega) (by omega)).mono ?_; rintro e w' ⟨rfl, n, rfl⟩))
    go_ret2
    exact ⟨ret_two HE.out.1.symm HE.out.2.symm, 0, rfl⟩
end Go.Proofs.Ytkldgmgjbboiaaa
