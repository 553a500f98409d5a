/-
  Contracts of chapter 2: vapour and humidity, the model's and the program's. Conditions: those that each theorem states.
-/
import Derived.Test.YtkldgmgjbboiaacDoorEa
namespace Go.Proofs.YtkldgmgjbboiaacDoor
open Go.RowKit
set_option linter.unusedVariables false

theorem below_drew {w w' : World} {n : Nat} (h : w' = w.drewN n) : Below w.heap.size w w' := h ▸ below_drewN' (Below.refl _ _) n
theorem satR_lo (t : Int) (h1 : -100 ≤ t) (h2 : t ≤ 600) : 286 ≤ satR t := by
  have : ∀ n : Nat, n < 701 → 286 ≤ satR ((n : Int) - 100) := by decide +kernel
  have := this (t + 100).toNat (by omega)
  rwa [show (((t + 100).toNat : Nat) : Int) - 100 = t by omega] at this
/-- What SaturationOf returns. -/
def saA (t : Int) : Int := if inB t (-100) 600 then satR t else 0
def saB (t : Int) : Int := if inB t (-100) 600 then 0 else 2
theorem iSaturationOf_any (t : Int) (w : World) (hw : Sat w) :
    Calls Tryd.prog 37 #[.int .i64 t] w fun e w' => e = .returned (.tuple #[.int .i64 (saA t), .int .i64 (saB t)]) ∧ Below w.heap.size w w' := by
  have HW := Lib.hid hw
  clear hw
  by_cases h : -100 ≤ t ∧ t ≤ 600
  · have i := inB_true h.1 h.2
    have HE := Lib.hid (show saA t = satR t ∧ saB t = 0 by simp [saA, saB, i])
    go_enter Tryd.func37, Tryd.ntmps37
    go_wp2_with (first
          | (go_at_call 65; refine (isWarmth_any _ _).mono ?_; rintro e w' ⟨rfl, rfl⟩)
          | (go_at_call 64; refine (saturationAt_any t w HW.out h.1 h.2).mono ?_; rintro e w1 ⟨rfl, n1, hq1⟩; have hd1 := below_drew hq1; clear hq1; have hb1 := hd1; obtain ⟨hc1, hf1⟩ := bcell hb1; clear hd1))
    go_ret2
    exact ⟨ret_two HE.out.1.symm HE.out.2.symm, hb1⟩
  · have i := inB_false h
    have HE := Lib.hid (show saA t = 0 ∧ saB t = 2 by simp [saA, saB, i])
    go_enter Tryd.func37, Tryd.ntmps37
    go_wp2_with (first
          | (go_at_call 65; refine (isWarmth_any _ _).mono ?_; rintro e w' ⟨rfl, rfl⟩))
    go_ret2
    exact ⟨ret_two HE.out.1.symm HE.out.2.symm, Below.refl _ _⟩
/-- The pressure of vapour. -/
def vapR (t h : Int) : Int := divR (satR t * h) 1000
theorem vap_bd {t h : Int} (h1 : -100 ≤ t ∧ t ≤ 600) (h2 : 0 ≤ h ∧ h ≤ 1000) : (0 ≤ satR t * h ∧ satR t * h ≤ 19940000) ∧ (0 ≤ vapR t h ∧ vapR t h ≤ 19940) := by
  have hs := satR_bd t h1.1 h1.2
  have a : 0 ≤ satR t * h := Int.mul_nonneg hs.1 h2.1
  have b : satR t * h ≤ 19940 * 1000 := Int.mul_le_mul hs.2 h2.2 h2.1 (by omega)
  unfold vapR
  rw [divR_pp _ _ a (by omega)]
  omega
theorem vap_le {t h : Int} (h1 : -100 ≤ t ∧ t ≤ 600) (h2 : 0 ≤ h ∧ h ≤ 1000) : vapR t h ≤ satR t := by
  have hs := satR_bd t h1.1 h1.2
  have a : 0 ≤ satR t * h := Int.mul_nonneg hs.1 h2.1
  have b : satR t * h ≤ satR t * 1000 := Int.mul_le_mul (Int.le_refl _) h2.2 h2.1 hs.1
  unfold vapR
  rw [divR_pp _ _ a (by omega)]
  omega
theorem vapourAt_any (t h : Int) (w : World) (hw : Sat w) (h1 : -100 ≤ t ∧ t ≤ 600) (h2 : 0 ≤ h ∧ h ≤ 1000) :
    Calls Tryd.prog 67 #[.int .i64 t, .int .i64 h] w fun e w' => e = .returned (.int .i64 (vapR t h)) ∧ ∃ n, w' = w.drewN n := by
  have HW := Lib.hid hw
  clear hw
  have HE := Lib.hid (show vapR t h = divR (satR t * h) 1000 from rfl)
  obtain ⟨⟨b1, b2⟩, _⟩ := vap_bd h1 h2
  go_enter Tryd.func67, Tryd.ntmps67
  go_wp2_with (first
    | (go_at_call 64; refine (saturationAt_any t _ HW.out h1.1 h1.2).mono ?_; rintro e w' ⟨rfl, n, rfl⟩)
    | (go_at_call 49; refine (nearest_any _ _ _ (by omega) (by omega) (by omega) (by omega)).mono ?_; rintro e w' ⟨rfl, m, rfl⟩))
  go_ret
  exact ⟨ret_int HE.out.symm, _, by first | rfl | exact World.drewN_drewN _ _ _⟩
/-- What VapourOf returns. -/
def vaA (t h : Int) : Int := if inB t (-100) 600 && inB h 0 1000 then vapR t h else 0
def vaB (t h : Int) : Int := if inB t (-100) 600 && inB h 0 1000 then 0 else 2
theorem iVapourOf_any (t h : Int) (w : World) (hw : Sat w) :
    Calls Tryd.prog 36 #[.int .i64 t, .int .i64 h] w fun e w' => e = .returned (.tuple #[.int .i64 (vaA t h), .int .i64 (vaB t h)]) ∧ Below w.heap.size w w' := by
  have HW := Lib.hid hw
  clear hw
  by_cases h1 : -100 ≤ t ∧ t ≤ 600
  · have i1 := inB_true h1.1 h1.2
    by_cases h2 : 0 ≤ h ∧ h ≤ 1000
    · have i2 := inB_true h2.1 h2.2
      have HE := Lib.hid (show vaA t h = vapR t h ∧ vaB t h = 0 by simp [vaA, vaB, i1, i2])
      go_enter Tryd.func36, Tryd.ntmps36
      go_wp2_with (first
            | (go_at_call 65; refine (isWarmth_any _ _).mono ?_; rintro e w' ⟨rfl, rfl⟩)
            | (go_at_call 66; refine (isHumidity_any _ _).mono ?_; rintro e w' ⟨rfl, rfl⟩)
            | (go_at_call 67; refine (vapourAt_any t h w HW.out h1 h2).mono ?_; rintro e w1 ⟨rfl, n1, hq1⟩; have hd1 := below_drew hq1; clear hq1; have hb1 := hd1; obtain ⟨hc1, hf1⟩ := bcell hb1; clear hd1))
      go_ret2
      exact ⟨ret_two HE.out.1.symm HE.out.2.symm, hb1⟩
    · have i2 := inB_false h2
      have HE := Lib.hid (show vaA t h = 0 ∧ vaB t h = 2 by simp [vaA, vaB, i2])
      go_enter Tryd.func36, Tryd.ntmps36
      go_wp2_with (first
            | (go_at_call 65; refine (isWarmth_any _ _).mono ?_; rintro e w' ⟨rfl, rfl⟩)
            | (go_at_call 66; refine (isHumidity_any _ _).mono ?_; rintro e w' ⟨rfl, rfl⟩))
      go_ret2
      exact ⟨ret_two HE.out.1.symm HE.out.2.symm, Below.refl _ _⟩
  · have i1 := inB_false h1
    have HE := Lib.hid (show vaA t h = 0 ∧ vaB t h = 2 by simp [vaA, vaB, i1])
    go_enter Tryd.func36, Tryd.ntmps36
    go_wp2_with (first
          | (go_at_call 65; refine (isWarmth_any _ _).mono ?_; rintro e w' ⟨rfl, rfl⟩)
          | (go_at_call 66; refine (isHumidity_any _ _).mono ?_; rintro e w' ⟨rfl, rfl⟩))
    go_ret2
    exact ⟨ret_two HE.out.1.symm HE.out.2.symm, Below.refl _ _⟩
/-- What HumidityFor returns. -/
def humV (d u p : Int) : Int := satR u - divR (665 * p * (d - u)) 10000000
def huA (d u p : Int) : Int := if inB d (-100) 600 && inB u (-100) 600 && inB p 50000 150000 then (if d < u then 0 else if humV d u p < 0 then 0 else divR (1000 * humV d u p) (satR d)) else 0
def huB (d u p : Int) : Int := if inB d (-100) 600 && inB u (-100) 600 && inB p 50000 150000 then (if d < u then 6 else if humV d u p < 0 then 6 else 0) else 2
theorem hum_bd {d u p : Int} (h1 : -100 ≤ d ∧ d ≤ 600) (h2 : -100 ≤ u ∧ u ≤ 600) (h3 : 50000 ≤ p ∧ p ≤ 150000) :
    (-69825000000 ≤ 665 * p * (d - u) ∧ 665 * p * (d - u) ≤ 69825000000) ∧ (-69825000000 ≤ divR (665 * p * (d - u)) 10000000 ∧ divR (665 * p * (d - u)) 10000000 ≤ 69825000000) := by
  have a := mul_bd (665 * p) (d - u) 99750000 700 (by omega) (by omega) (by omega) (by omega)
  have b := divR_bd (665 * p * (d - u)) 10000000
  omega
set_option maxHeartbeats 1000000 in
theorem iHumidityFor_any (d u p : Int) (w : World) (hw : Sat w) :
    Calls Tryd.prog 39 #[.int .i64 d, .int .i64 u, .int .i64 p] w fun e w' => e = .returned (.tuple #[.int .i64 (huA d u p), .int .i64 (huB d u p)]) ∧ Below w.heap.size w w' := by
  have HW := Lib.hid hw
  clear hw
  by_cases h1 : -100 ≤ d ∧ d ≤ 600
  · have i1 := inB_true h1.1 h1.2
    by_cases h2 : -100 ≤ u ∧ u ≤ 600
    · have i2 := inB_true h2.1 h2.2
      by_cases h3 : 50000 ≤ p ∧ p ≤ 150000
      · have i3 := inB_true h3.1 h3.2
        have hsu := satR_bd u h2.1 h2.2
        have hsd := satR_bd d h1.1 h1.2
        have hsl := satR_lo d h1.1 h1.2
        obtain ⟨⟨b1, b2⟩, b3, b4⟩ := hum_bd h1 h2 h3
        have HV := Lib.hid (show humV d u p = satR u - divR (665 * p * (d - u)) 10000000 from rfl)
        by_cases hdu : d < u
        · have HE := Lib.hid (show huA d u p = 0 ∧ huB d u p = 6 by simp [huA, huB, i1, i2, i3, hdu])
          go_enter Tryd.func39, Tryd.ntmps39
          go_wp2_with (first
                | (go_at_call 65; (with_reducible refine (isWarmth_any _ _).mono ?_); rintro e w' ⟨rfl, rfl⟩)
                | (go_at_call 70; (with_reducible refine (isPressure_any _ _).mono ?_); rintro e w' ⟨rfl, rfl⟩)
                | (go_at_call 64; (with_reducible refine (saturationAt_any u w HW.out h2.1 h2.2).mono ?_); rintro e w1 ⟨rfl, n1, hq1⟩; have hd1 := below_drew hq1; clear hq1; have hb1 := hd1; obtain ⟨hc1, hf1⟩ := bcell hb1; clear hd1)
                | (go_at_call 49; (with_reducible refine (nearest_any (665 * p * (d - u)) 10000000 w1 (by omega) (by omega) (by omega) (by omega)).mono ?_); rintro e w2 ⟨rfl, n2, hq2⟩; have hd2 := below_drew hq2; clear hq2; have hb2 := hb1.trans (hd2.mono hb1.size); obtain ⟨hc2, hf2⟩ := bcell hb2; clear hd2))
          go_ret2
          exact ⟨ret_two HE.out.1.symm HE.out.2.symm, hb2⟩
        · by_cases hv : satR u - divR (665 * p * (d - u)) 10000000 < 0
          · have HE := Lib.hid (show huA d u p = 0 ∧ huB d u p = 6 by simp [huA, huB, i1, i2, i3, hdu, HV.out, hv])
            go_enter Tryd.func39, Tryd.ntmps39
            go_wp2_with (first
                  | (go_at_call 65; (with_reducible refine (isWarmth_any _ _).mono ?_); rintro e w' ⟨rfl, rfl⟩)
                  | (go_at_call 70; (with_reducible refine (isPressure_any _ _).mono ?_); rintro e w' ⟨rfl, rfl⟩)
                  | (go_at_call 64; (with_reducible refine (saturationAt_any u w HW.out h2.1 h2.2).mono ?_); rintro e w1 ⟨rfl, n1, hq1⟩; have hd1 := below_drew hq1; clear hq1; have hb1 := hd1; obtain ⟨hc1, hf1⟩ := bcell hb1; clear hd1)
                  | (go_at_call 49; (with_reducible refine (nearest_any (665 * p * (d - u)) 10000000 w1 (by omega) (by omega) (by omega) (by omega)).mono ?_); rintro e w2 ⟨rfl, n2, hq2⟩; have hd2 := below_drew hq2; clear hq2; have hb2 := hb1.trans (hd2.mono hb1.size); obtain ⟨hc2, hf2⟩ := bcell hb2; clear hd2))
            go_ret2
            exact ⟨ret_two HE.out.1.symm HE.out.2.symm, hb2⟩
          · have HE := Lib.hid (show huA d u p = divR (1000 * (satR u - divR (665 * p * (d - u)) 10000000)) (satR d) ∧ huB d u p = 0 by simp [huA, huB, i1, i2, i3, hdu, HV.out, hv])
            go_enter Tryd.func39, Tryd.ntmps39
            go_wp2_with (first
                  | (go_at_call 65; (with_reducible refine (isWarmth_any _ _).mono ?_); rintro e w' ⟨rfl, rfl⟩)
                  | (go_at_call 70; (with_reducible refine (isPressure_any _ _).mono ?_); rintro e w' ⟨rfl, rfl⟩)
                  | (go_at_call 64; (with_reducible refine (saturationAt_any u w HW.out h2.1 h2.2).mono ?_); rintro e w1 ⟨rfl, n1, hq1⟩; have hd1 := below_drew hq1; clear hq1; have hb1 := hd1; obtain ⟨hc1, hf1⟩ := bcell hb1; clear hd1)
                  | (go_at_call 49; (with_reducible refine (nearest_any (665 * p * (d - u)) 10000000 w1 (by omega) (by omega) (by omega) (by omega)).mono ?_); rintro e w2 ⟨rfl, n2, hq2⟩; have hd2 := below_drew hq2; clear hq2; have hb2 := hb1.trans (hd2.mono hb1.size); obtain ⟨hc2, hf2⟩ := bcell hb2; clear hd2)
                  | (go_at_call 64; (with_reducible refine (saturationAt_any d w2 (HW.out.below hb2) h1.1 h1.2).mono ?_); rintro e w3 ⟨rfl, n3, hq3⟩; have hd3 := below_drew hq3; clear hq3; have hb3 := hb2.trans (hd3.mono hb2.size); obtain ⟨hc3, hf3⟩ := bcell hb3; clear hd3)
                  | (go_at_call 49; (with_reducible refine (nearest_any _ _ w3 (by omega) (by omega) (by omega) (by omega)).mono ?_); rintro e w4 ⟨rfl, n4, hq4⟩; have hd4 := below_drew hq4; clear hq4; have hb4 := hb3.trans (hd4.mono hb3.size); obtain ⟨hc4, hf4⟩ := bcell hb4; clear hd4))
            go_ret2
            exact ⟨ret_two HE.out.1.symm HE.out.2.symm, hb4⟩
      · have i3 := inB_false h3
        have HE := Lib.hid (show huA d u p = 0 ∧ huB d u p = 2 by simp [huA, huB, i3])
        go_enter Tryd.func39, Tryd.ntmps39
        go_wp2_with (first
              | (go_at_call 65; (with_reducible refine (isWarmth_any _ _).mono ?_); rintro e w' ⟨rfl, rfl⟩)
              | (go_at_call 70; (with_reducible refine (isPressure_any _ _).mono ?_); rintro e w' ⟨rfl, rfl⟩))
        go_ret2
        exact ⟨ret_two HE.out.1.symm HE.out.2.symm, Below.refl _ _⟩
    · have i2 := inB_false h2
      have HE := Lib.hid (show huA d u p = 0 ∧ huB d u p = 2 by simp [huA, huB, i2])
      go_enter Tryd.func39, Tryd.ntmps39
      go_wp2_with (first
            | (go_at_call 65; (with_reducible refine (isWarmth_any _ _).mono ?_); rintro e w' ⟨rfl, rfl⟩)
            | (go_at_call 70; (with_reducible refine (isPressure_any _ _).mono ?_); rintro e w' ⟨rfl, rfl⟩))
      go_ret2
      exact ⟨ret_two HE.out.1.symm HE.out.2.symm, Below.refl _ _⟩
  · have i1 := inB_false h1
    have HE := Lib.hid (show huA d u p = 0 ∧ huB d u p = 2 by simp [huA, huB, i1])
    go_enter Tryd.func39, Tryd.ntmps39
    go_wp2_with (first
          | (go_at_call 65; (with_reducible refine (isWarmth_any _ _).mono ?_); rintro e w' ⟨rfl, rfl⟩)
          | (go_at_call 70; (with_reducible refine (isPressure_any _ _).mono ?_); rintro e w' ⟨rfl, rfl⟩))
    go_ret2
    exact ⟨ret_two HE.out.1.symm HE.out.2.symm, Below.refl _ _⟩
end Go.Proofs.YtkldgmgjbboiaacDoor
