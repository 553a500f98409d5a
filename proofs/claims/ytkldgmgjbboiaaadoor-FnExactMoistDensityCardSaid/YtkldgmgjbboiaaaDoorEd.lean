/-
  Contracts of chapter 2: densities of moist air; the model's and the program's. Conditions: those that each theorem states.
-/
import Derived.Test.YtkldgmgjbboiaaaDoorEb
import Derived.Test.YtkldgmgjbboiaaaDoorCc
import Derived.Deep.RegionHeld3
namespace Go.Proofs.YtkldgmgjbboiaaaDoor
open Go.RowKit
set_option linter.unusedVariables false

/-- The pressure of moist air, less a part of its vapour; its density. -/
def moP (t p h : Int) : Int := p - divR (378 * vapR t h) 1000
def moA (t p h : Int) : Int := if airOk t p h then densR t (moP t p h) else 0
def moB (t p h : Int) : Int := if airOk t p h then 0 else 1
theorem moP_bd {t p h : Int} (h1 : -100 ≤ t ∧ t ≤ 600) (h2 : 50000 ≤ p ∧ p ≤ 150000) (h3 : 0 ≤ h ∧ h ≤ 1000) : (0 ≤ vapR t h ∧ vapR t h ≤ 19940) ∧ (-1000000 ≤ moP t p h ∧ moP t p h ≤ 1000000) ∧ (0 ≤ divR (378 * vapR t h) 1000 ∧ divR (378 * vapR t h) 1000 ≤ 7600) := by
  have hv := (vap_bd h1 h3).2
  unfold moP
  rw [divR_pp _ _ (by omega) (by omega)]
  omega
theorem l02Vapour_held (b : Nat) (t p h : Int) (w0 w : World) (h1 : -100 ≤ t ∧ t ≤ 600) (h3 : 0 ≤ h ∧ h ≤ 1000)
    (c0 : w.cell? ⟨b, 0, none⟩ = some (.int .i64 t)) (c1 : w.cell? ⟨b, 1, none⟩ = some (.int .i64 p)) (c2 : w.cell? ⟨b, 2, none⟩ = some (.int .i64 h)) (hb : Below w0.heap.size w0 w) :
    Calls Tryd.prog 27 #[.int .i64 t, .int .i64 h] w fun e w' => e = .returned (.int .i64 (vapR t h)) ∧
      (w'.cell? ⟨b, 0, none⟩ = some (.int .i64 t) ∧ w'.cell? ⟨b, 1, none⟩ = some (.int .i64 p) ∧ w'.cell? ⟨b, 2, none⟩ = some (.int .i64 h)) ∧ Below w0.heap.size w0 w' :=
  (l02Vapour_any t h w h1 h3).mono fun _ _ ⟨e, hb'⟩ => ⟨e, ⟨(hb'.cell (World.block_lt_of_cell? _ _ c0)).trans c0, (hb'.cell (World.block_lt_of_cell? _ _ c1)).trans c1, (hb'.cell (World.block_lt_of_cell? _ _ c2)).trans c2⟩, hb.trans (hb'.mono hb.size)⟩
set_option maxHeartbeats 1000000 in
theorem l02Moist_any (b : Nat) (t p h : Int) (w : World) (h1 : -100 ≤ t ∧ t ≤ 600) (h2 : 50000 ≤ p ∧ p ≤ 150000) (h3 : 0 ≤ h ∧ h ≤ 1000)
    (c0 : w.cell? ⟨b, 0, none⟩ = some (.int .i64 t)) (c1 : w.cell? ⟨b, 1, none⟩ = some (.int .i64 p)) (c2 : w.cell? ⟨b, 2, none⟩ = some (.int .i64 h)) :
    Calls Tryd.prog 37 #[.pointer (some ⟨b, 0, none⟩)] w fun e w' => e = .returned (.int .i64 (densR t (moP t p h))) ∧ Below w.heap.size w w' := by
  obtain ⟨⟨v1, v2⟩, ⟨m1, m2⟩, d1, d2⟩ := moP_bd h1 h2 h3
  have HM := Lib.hid (show moP t p h = p - divR (378 * vapR t h) 1000 from rfl)
  have hb0 : Below w.heap.size w w := Below.refl _ _
  have e1 : IntKind.i64.wrap (p - divR (378 * vapR t h) 1000) = moP t p h := IntWalk.i64_in _ (by rw [← HM.out]; omega)
  have e2 : IntKind.i64.wrap (378 * vapR t h) = 378 * vapR t h := IntWalk.i64_in _ (by omega)
  go_enter Tryd.func37, Tryd.ntmps37
  go_wp2
  go_region_held3 (fun w' => (w'.cell? ⟨b, 0, none⟩ = some (.int .i64 t) ∧ w'.cell? ⟨b, 1, none⟩ = some (.int .i64 p) ∧ w'.cell? ⟨b, 2, none⟩ = some (.int .i64 h)) ∧ Below w.heap.size w w')
    (first
      | exact ⟨s1, hb1⟩
      | exact ⟨⟨c0, c1, c2⟩, Below.drew (Below.refl _ _)⟩
      | go_keep)
    ((first
    | (go_at_call 27; refine (l02Vapour_held b t p h w _ h1 h3 ?_ ?_ ?_ ?_).mono ?_; (simp [*]); (simp [*]); (simp [*]); (simp [*]); rintro e w1 ⟨rfl, s1, hb1⟩)
    | (go_at_call 31; refine (l01Div_any _ _ _ (by omega) (by omega) (by omega) (by omega) (by omega)).mono ?_; rintro e w' ⟨rfl, rfl⟩)
    | (go_at_call 49; refine (l02Density_any _ _ _ (by omega) (by omega) (by omega) (by omega)).mono ?_; rintro e w' ⟨rfl, rfl⟩)))
  go_wp2
  go_ret
  exact ⟨rfl, hb1⟩
theorem sMoistDensity_any (t p h : Int) (w : World) :
    Calls Tryd.prog 17 #[.agg #[.int .i64 t, .int .i64 p, .int .i64 h]] w fun e w' => e = .returned (.tuple #[.int .i64 (moA t p h), .int .i64 (moB t p h)]) ∧ Below w.heap.size w w' := by
  have hc0 : (w.alloc (.cells #[.int .i64 t, .int .i64 p, .int .i64 h] 32)).cell? ⟨w.heap.size, 0, none⟩ = some (.int .i64 t) := by simp
  have hc1 : (w.alloc (.cells #[.int .i64 t, .int .i64 p, .int .i64 h] 32)).cell? ⟨w.heap.size, 1, none⟩ = some (.int .i64 p) := by simp
  have hc2 : (w.alloc (.cells #[.int .i64 t, .int .i64 p, .int .i64 h] 32)).cell? ⟨w.heap.size, 2, none⟩ = some (.int .i64 h) := by simp
  cases hok : airOk t p h
  · have HE := Lib.hid (show moA t p h = 0 ∧ moB t p h = 1 by simp [moA, moB, hok])
    go_enter Tryd.func17, Tryd.ntmps17
    go_wp2_with (first
          | (go_at_call 36; (with_reducible refine (l02Ok_any w.heap.size t p h (w.alloc (.cells #[.int .i64 t, .int .i64 p, .int .i64 h] 32)) hc0 hc1 hc2).mono ?_); rintro e w' ⟨rfl, rfl⟩))
    go_ret2
    exact ⟨ret_two HE.out.1.symm HE.out.2.symm, (by repeat (first | (with_reducible exact Below.refl _ _) | (with_reducible refine below_drewN' ?_ _) | (with_reducible refine Below.alloc ?_ (by simp <;> omega) _) | (with_reducible refine Below.setCell ?_ (by simp) _)))⟩
  · have HE := Lib.hid (show moA t p h = densR t (moP t p h) ∧ moB t p h = 0 by simp [moA, moB, hok])
    obtain ⟨⟨h1, h2⟩, h3⟩ := airOk_iff.1 hok
    go_enter Tryd.func17, Tryd.ntmps17
    go_wp2_with (first
          | (go_at_call 36; (with_reducible refine (l02Ok_any w.heap.size t p h (w.alloc (.cells #[.int .i64 t, .int .i64 p, .int .i64 h] 32)) hc0 hc1 hc2).mono ?_); rintro e w' ⟨rfl, rfl⟩)
          | (go_at_call 37; (with_reducible refine (l02Moist_any w.heap.size t p h (w.alloc (.cells #[.int .i64 t, .int .i64 p, .int .i64 h] 32)) h1 h2 h3 hc0 hc1 hc2).mono ?_); rintro e w1 ⟨rfl, hd1⟩; have hb1 := hd1; obtain ⟨hc1, hf1⟩ := bcell hb1; have hz1 : w.heap.size < w1.heap.size := Nat.lt_of_lt_of_le (by first | (simp; done) | (simp; omega)) hb1.size; clear hd1))
    go_ret2
    exact ⟨ret_two HE.out.1.symm HE.out.2.symm, (show Below w.heap.size w w1 from (below_box _ _).trans (hb1.mono (by simp)))⟩
set_option maxHeartbeats 2000000 in
theorem iMoistDensity_any (t p h : Int) (w : World) (hw : Sat w) :
    Calls Tryd.prog 19 #[.agg #[.int .i64 t, .int .i64 p, .int .i64 h]] w fun e w' => e = .returned (.tuple #[.int .i64 (moA t p h), .int .i64 (moB t p h)]) ∧ Below w.heap.size w w' := by
  have HW := Lib.hid (show ∀ n, Sat (((w.alloc (.cells #[.int .i64 t, .int .i64 p, .int .i64 h] 32)).alloc (.cells #[.int .i64 t, .int .i64 p, .int .i64 h] 32)).drewN n) from fun n => hw.below (below_drewN' ((below_box _ _).alloc (by simp) _) n))
  clear hw
  cases hok : airOk t p h
  · have HE := Lib.hid (show moA t p h = 0 ∧ moB t p h = 1 by simp [moA, moB, hok])
    go_enter Tryd.func19, Tryd.ntmps19
    go_wp2_with (go_at_call 38; refine (iValidAir_any t p h _).mono ?_; rintro e w' ⟨rfl, rfl⟩)
    go_ret2
    exact ⟨ret_two HE.out.1.symm HE.out.2.symm, (by repeat (first | (with_reducible exact Below.refl _ _) | (with_reducible refine below_drewN' ?_ _) | (with_reducible refine Below.alloc ?_ (by simp <;> omega) _) | (with_reducible refine Below.setCell ?_ (by simp) _)))⟩
  · have HE := Lib.hid (show moA t p h = densR t (moP t p h) ∧ moB t p h = 0 by simp [moA, moB, hok])
    obtain ⟨⟨h1, h2⟩, h3⟩ := airOk_iff.1 hok
    obtain ⟨⟨v1, v2⟩, ⟨m1, m2⟩, d1, d2⟩ := moP_bd h1 h2 h3
    have HM := Lib.hid (show p - divR (378 * vapR t h) 1000 = moP t p h from rfl)
    have e1 : IntKind.i64.wrap (p - divR (378 * vapR t h) 1000) = moP t p h := IntWalk.i64_in _ (by rw [HM.out]; omega)
    have e2 : IntKind.i64.wrap (378 * vapR t h) = 378 * vapR t h := IntWalk.i64_in _ (by omega)
    go_enter Tryd.func19, Tryd.ntmps19
    go_wp2_with (go_at_call 38; refine (iValidAir_any t p h _).mono ?_; rintro e w' ⟨rfl, rfl⟩)
    go_region_with ((first
      | (go_at_call 29; refine (vapourAt_any t h _ (HW.out _) h1 h3).mono ?_; rintro e w' ⟨rfl, n, rfl⟩)
      | (go_at_call 33; refine (nearest_any _ _ _ (by omega) (by omega) (by omega) (by omega)).mono ?_; rintro e w' ⟨rfl, m, rfl⟩)))
    all_goals
      go_wp2_with (go_at_call 39; refine (dryDensity_any t (moP t p h) h _ h1.1 h1.2 m1 m2).mono ?_; rintro e w' ⟨rfl, k, rfl⟩)
      go_ret2
      exact ⟨ret_two HE.out.1.symm HE.out.2.symm, (by repeat (first | (with_reducible exact Below.refl _ _) | (with_reducible refine below_drewN' ?_ _) | (with_reducible refine Below.alloc ?_ (by simp <;> omega) _) | (with_reducible refine Below.setCell ?_ (by simp) _)))⟩
end Go.Proofs.YtkldgmgjbboiaaaDoor
