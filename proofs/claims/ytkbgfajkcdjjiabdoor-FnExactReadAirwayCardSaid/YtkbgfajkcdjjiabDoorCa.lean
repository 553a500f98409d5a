/-
  Contracts of chapter 2: limits, densities, flows of mass, felt temperatures; the model's and the program's. Conditions: those that each theorem states.
-/
import Derived.Test.YtkbgfajkcdjjiabDoorBb
namespace Go.Proofs.YtkbgfajkcdjjiabDoor
open Go.RowKit
set_option linter.unusedVariables false

theorem ret_two {a b c d : Int} (h : a = c) (k : b = d) : Ending.returned (.tuple #[.int .i64 a, .int .i64 b]) = .returned (.tuple #[.int .i64 c, .int .i64 d]) := by rw [h, k]
theorem below_drewN' {B : Nat} {a w : World} (h : Below B a w) (n : Nat) : Below B a (w.drewN n) := ⟨h.os, h.tape, h.output, h.size, h.block⟩
theorem bcell {W w1 : World} (hb : Below W.heap.size W w1) : (∀ b o, b < W.heap.size → w1.cell? ⟨b, o, none⟩ = W.cell? ⟨b, o, none⟩) ∧ (∀ b o, b < W.heap.size → w1.frozen? ⟨b, o, none⟩ = W.frozen? ⟨b, o, none⟩) :=
  ⟨fun b o h => hb.cell (p := ⟨b, o, none⟩) h, fun b o h => hb.frozen (p := ⟨b, o, none⟩) h⟩
theorem below_box (w : World) (o : Obj) : Below w.heap.size w (w.alloc o) := (Below.refl _ _).alloc (Nat.le_refl _) o
theorem grown_below {a b : World} (h : a = b) : Below a.heap.size a b := h ▸ Below.refl _ _
theorem isWarmth_any (n : Int) (w : World) : Calls Tryd.prog 102 #[.int .i64 n] w fun e w' => e = .returned (.bool (inB n (-100) 600)) ∧ w = w' := by
  go_enter Tryd.func102, Tryd.ntmps102
  go_wp2_with (go_at_call 45; refine (within64_one _ _ _ _).mono ?_; rintro e w' ⟨rfl, rfl⟩)
  go_ret
  exact ⟨rfl, rfl⟩
theorem isPressure_any (n : Int) (w : World) : Calls Tryd.prog 103 #[.int .i64 n] w fun e w' => e = .returned (.bool (inB n 50000 150000)) ∧ w = w' := by
  go_enter Tryd.func103, Tryd.ntmps103
  go_wp2_with (go_at_call 45; refine (within64_one _ _ _ _).mono ?_; rintro e w' ⟨rfl, rfl⟩)
  go_ret
  exact ⟨rfl, rfl⟩
theorem isHumidity_any (n : Int) (w : World) : Calls Tryd.prog 104 #[.int .i64 n] w fun e w' => e = .returned (.bool (inB n 0 1000)) ∧ w = w' := by
  go_enter Tryd.func104, Tryd.ntmps104
  go_wp2_with (go_at_call 45; refine (within64_one _ _ _ _).mono ?_; rintro e w' ⟨rfl, rfl⟩)
  go_ret
  exact ⟨rfl, rfl⟩
theorem l02Temperature_any (n : Int) (w : World) : Calls Tryd.prog 99 #[.int .i64 n] w fun e w' => e = .returned (.bool (inB n (-100) 600)) ∧ w = w' := by
  go_enter Tryd.func99, Tryd.ntmps99
  go_wp2_with (go_at_call 56; refine (l00In_any _ _ _ _).mono ?_; rintro e w' ⟨rfl, rfl⟩)
  go_ret
  exact ⟨rfl, rfl⟩
theorem l02Pressure_any (n : Int) (w : World) : Calls Tryd.prog 100 #[.int .i64 n] w fun e w' => e = .returned (.bool (inB n 50000 150000)) ∧ w = w' := by
  go_enter Tryd.func100, Tryd.ntmps100
  go_wp2_with (go_at_call 56; refine (l00In_any _ _ _ _).mono ?_; rintro e w' ⟨rfl, rfl⟩)
  go_ret
  exact ⟨rfl, rfl⟩
theorem l02Thousandth_any (n : Int) (w : World) : Calls Tryd.prog 101 #[.int .i64 n] w fun e w' => e = .returned (.bool (inB n 0 1000)) ∧ w = w' := by
  go_enter Tryd.func101, Tryd.ntmps101
  go_wp2_with (go_at_call 56; refine (l00In_any _ _ _ _).mono ?_; rintro e w' ⟨rfl, rfl⟩)
  go_ret
  exact ⟨rfl, rfl⟩
/-- Valid air. -/
def airOk (t p h : Int) : Bool := inB t (-100) 600 && inB p 50000 150000 && inB h 0 1000
theorem airOk_iff {t p h : Int} : airOk t p h = true ↔ ((-100 ≤ t ∧ t ≤ 600) ∧ (50000 ≤ p ∧ p ≤ 150000)) ∧ (0 ≤ h ∧ h ≤ 1000) := by
  simp only [airOk, Bool.and_eq_true, inB_iff]
theorem l02Ok_any (b : Nat) (t p h : Int) (w : World) (c0 : w.cell? ⟨b, 0, none⟩ = some (.int .i64 t)) (c1 : w.cell? ⟨b, 1, none⟩ = some (.int .i64 p)) (c2 : w.cell? ⟨b, 2, none⟩ = some (.int .i64 h)) :
    Calls Tryd.prog 77 #[.pointer (some ⟨b, 0, none⟩)] w fun e w' => e = .returned (.bool (airOk t p h)) ∧ w = w' := by
  by_cases h1 : -100 ≤ t ∧ t ≤ 600
  · have i1 := inB_true h1.1 h1.2
    by_cases h2 : 50000 ≤ p ∧ p ≤ 150000
    · have i2 := inB_true h2.1 h2.2
      by_cases h3 : 0 ≤ h ∧ h ≤ 1000
      · have i3 := inB_true h3.1 h3.2
        have HE := Lib.hid (show airOk t p h = true by simp [airOk, i1, i2, i3])
        go_enter Tryd.func77, Tryd.ntmps77
        go_wp2_with (first
              | (go_at_call 99; refine (l02Temperature_any _ _).mono ?_; rintro e w' ⟨rfl, rfl⟩)
              | (go_at_call 100; refine (l02Pressure_any _ _).mono ?_; rintro e w' ⟨rfl, rfl⟩)
              | (go_at_call 101; refine (l02Thousandth_any _ _).mono ?_; rintro e w' ⟨rfl, rfl⟩))
        go_ret
        exact ⟨ret_bool HE.out.symm, rfl⟩
      · have i3 := inB_false h3
        have HE := Lib.hid (show airOk t p h = false by simp [airOk, i3])
        go_enter Tryd.func77, Tryd.ntmps77
        go_wp2_with (first
              | (go_at_call 99; refine (l02Temperature_any _ _).mono ?_; rintro e w' ⟨rfl, rfl⟩)
              | (go_at_call 100; refine (l02Pressure_any _ _).mono ?_; rintro e w' ⟨rfl, rfl⟩)
              | (go_at_call 101; refine (l02Thousandth_any _ _).mono ?_; rintro e w' ⟨rfl, rfl⟩))
        go_ret
        exact ⟨ret_bool HE.out.symm, rfl⟩
    · have i2 := inB_false h2
      have HE := Lib.hid (show airOk t p h = false by simp [airOk, i2])
      go_enter Tryd.func77, Tryd.ntmps77
      go_wp2_with (first
            | (go_at_call 99; refine (l02Temperature_any _ _).mono ?_; rintro e w' ⟨rfl, rfl⟩)
            | (go_at_call 100; refine (l02Pressure_any _ _).mono ?_; rintro e w' ⟨rfl, rfl⟩)
            | (go_at_call 101; refine (l02Thousandth_any _ _).mono ?_; rintro e w' ⟨rfl, rfl⟩))
      go_ret
      exact ⟨ret_bool HE.out.symm, rfl⟩
  · have i1 := inB_false h1
    have HE := Lib.hid (show airOk t p h = false by simp [airOk, i1])
    go_enter Tryd.func77, Tryd.ntmps77
    go_wp2_with (first
          | (go_at_call 99; refine (l02Temperature_any _ _).mono ?_; rintro e w' ⟨rfl, rfl⟩)
          | (go_at_call 100; refine (l02Pressure_any _ _).mono ?_; rintro e w' ⟨rfl, rfl⟩)
          | (go_at_call 101; refine (l02Thousandth_any _ _).mono ?_; rintro e w' ⟨rfl, rfl⟩))
    go_ret
    exact ⟨ret_bool HE.out.symm, rfl⟩
theorem iValidAir_any (t p h : Int) (w : World) :
    Calls Tryd.prog 78 #[.agg #[.int .i64 t, .int .i64 p, .int .i64 h]] w fun e w' => e = .returned (.bool (airOk t p h)) ∧ w.alloc (.cells #[.int .i64 t, .int .i64 p, .int .i64 h] 48) = w' := by
  by_cases h1 : -100 ≤ t ∧ t ≤ 600
  · have i1 := inB_true h1.1 h1.2
    by_cases h2 : 50000 ≤ p ∧ p ≤ 150000
    · have i2 := inB_true h2.1 h2.2
      by_cases h3 : 0 ≤ h ∧ h ≤ 1000
      · have i3 := inB_true h3.1 h3.2
        have HE := Lib.hid (show airOk t p h = true by simp [airOk, i1, i2, i3])
        go_enter Tryd.func78, Tryd.ntmps78
        go_wp2_with (first
              | (go_at_call 102; refine (isWarmth_any _ _).mono ?_; rintro e w' ⟨rfl, rfl⟩)
              | (go_at_call 103; refine (isPressure_any _ _).mono ?_; rintro e w' ⟨rfl, rfl⟩)
              | (go_at_call 104; refine (isHumidity_any _ _).mono ?_; rintro e w' ⟨rfl, rfl⟩))
        go_ret
        exact ⟨ret_bool HE.out.symm, rfl⟩
      · have i3 := inB_false h3
        have HE := Lib.hid (show airOk t p h = false by simp [airOk, i3])
        go_enter Tryd.func78, Tryd.ntmps78
        go_wp2_with (first
              | (go_at_call 102; refine (isWarmth_any _ _).mono ?_; rintro e w' ⟨rfl, rfl⟩)
              | (go_at_call 103; refine (isPressure_any _ _).mono ?_; rintro e w' ⟨rfl, rfl⟩)
              | (go_at_call 104; refine (isHumidity_any _ _).mono ?_; rintro e w' ⟨rfl, rfl⟩))
        go_ret
        exact ⟨ret_bool HE.out.symm, rfl⟩
    · have i2 := inB_false h2
      have HE := Lib.hid (show airOk t p h = false by simp [airOk, i2])
      go_enter Tryd.func78, Tryd.ntmps78
      go_wp2_with (first
            | (go_at_call 102; refine (isWarmth_any _ _).mono ?_; rintro e w' ⟨rfl, rfl⟩)
            | (go_at_call 103; refine (isPressure_any _ _).mono ?_; rintro e w' ⟨rfl, rfl⟩)
            | (go_at_call 104; refine (isHumidity_any _ _).mono ?_; rintro e w' ⟨rfl, rfl⟩))
      go_ret
      exact ⟨ret_bool HE.out.symm, rfl⟩
  · have i1 := inB_false h1
    have HE := Lib.hid (show airOk t p h = false by simp [airOk, i1])
    go_enter Tryd.func78, Tryd.ntmps78
    go_wp2_with (first
          | (go_at_call 102; refine (isWarmth_any _ _).mono ?_; rintro e w' ⟨rfl, rfl⟩)
          | (go_at_call 103; refine (isPressure_any _ _).mono ?_; rintro e w' ⟨rfl, rfl⟩)
          | (go_at_call 104; refine (isHumidity_any _ _).mono ?_; rintro e w' ⟨rfl, rfl⟩))
    go_ret
    exact ⟨ret_bool HE.out.symm, rfl⟩
end Go.Proofs.YtkbgfajkcdjjiabDoor
