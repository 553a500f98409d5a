/-
  Contracts of chapter 2: the text of air; the model's and the program's. Conditions: those that each theorem states.
-/
import Derived.Test.YtkldgmgjbboiaaaDoorSc
import Derived.Test.YtkldgmgjbboiaaaDoorCa
import Derived.Test.YtkldgmgjbboiaaaDoorCc
namespace Go.Proofs.YtkldgmgjbboiaaaDoor
open Go.RowKit
set_option linter.unusedVariables false

/-- What AirText returns. -/
def aiT (t p h : Int) : List UInt8 := if airOk t p h then commas [t, p, h] else []
theorem fits3 {t p h : Int} (hok : airOk t p h = true) : listT [t, p, h] = commas [t, p, h] := by
  obtain ⟨⟨⟨b1, b2⟩, b3, b4⟩, b5, b6⟩ := airOk_iff.1 hok
  have hf : fitsL [t, p, h] = true := by
    rw [fitsL_iff]
    refine ⟨fun y hy => ?_, by simp⟩
    simp only [List.mem_cons, List.not_mem_nil, or_false] at hy
    rcases hy with rfl | rfl | rfl <;> omega
  unfold listT
  rw [hf]
  rfl
set_option maxHeartbeats 2000000 in
theorem l02Text_any (b : Nat) (t p h : Int) (w : World) (hok : airOk t p h = true)
    (c0 : w.cell? ⟨b, 0, none⟩ = some (.int .i64 t)) (c1 : w.cell? ⟨b, 1, none⟩ = some (.int .i64 p)) (c2 : w.cell? ⟨b, 2, none⟩ = some (.int .i64 h)) :
    Calls Tryd.prog 40 #[.pointer (some ⟨b, 0, none⟩)] w fun e w' => e = .returned (strB (commas [t, p, h])) ∧ Below w.heap.size w w' := by
  obtain ⟨⟨⟨b1, b2⟩, b3, b4⟩, b5, b6⟩ := airOk_iff.1 hok
  have HR := Lib.hid (show ∀ y ∈ [t, p, h], -9223372036854775808 ≤ y ∧ y ≤ 9223372036854775807 from fun y hy => by
    simp only [List.mem_cons, List.not_mem_nil, or_false] at hy
    rcases hy with rfl | rfl | rfl <;> omega)
  clear hok
  have HW := Lib.hid (show Row .i64 (w.alloc (.cells #[.int .i64 t, .int .i64 p, .int .i64 h] 2)).drew (.slice (some ⟨w.heap.size, 0, none⟩) 3 3) [t, p, h] from row_alloc .i64 w [t, p, h] 2 3)
  have HB := Lib.hid (show Below w.heap.size w (w.alloc (.cells #[.int .i64 t, .int .i64 p, .int .i64 h] 2)).drew from Below.drew (below_box w _))
  go_enter Tryd.func40, Tryd.ntmps40
  go_wp2
  go_region_with ((go_at_call 50; refine (l01List_any _ [t, p, h] _ HW.out (by simp) (by simp) HR.out).mono ?_; rintro e w1 ⟨rfl, hb1⟩))
  all_goals
    go_wp2
    go_ret
    exact ⟨rfl, HB.out.trans (hb1.mono HB.out.size)⟩
theorem sAirText_any (t p h : Int) (w : World) :
    Calls Tryd.prog 20 #[.agg #[.int .i64 t, .int .i64 p, .int .i64 h]] w fun e w' => e = .returned (strB (aiT t p h)) ∧ Below w.heap.size w w' := by
  have hc0 : (w.alloc (.cells #[.int .i64 t, .int .i64 p, .int .i64 h] 32)).cell? ⟨w.heap.size, 0, none⟩ = some (.int .i64 t) := by simp
  have hc1 : (w.alloc (.cells #[.int .i64 t, .int .i64 p, .int .i64 h] 32)).cell? ⟨w.heap.size, 1, none⟩ = some (.int .i64 p) := by simp
  have hc2 : (w.alloc (.cells #[.int .i64 t, .int .i64 p, .int .i64 h] 32)).cell? ⟨w.heap.size, 2, none⟩ = some (.int .i64 h) := by simp
  cases hok : airOk t p h
  · have HE := Lib.hid (show aiT t p h = [] by simp [aiT, hok])
    go_enter Tryd.func20, Tryd.ntmps20
    go_wp2_with (first
          | (go_at_call 36; (with_reducible refine (l02Ok_any w.heap.size t p h (w.alloc (.cells #[.int .i64 t, .int .i64 p, .int .i64 h] 32)) hc0 hc1 hc2).mono ?_); rintro e w' ⟨rfl, rfl⟩))
    go_ret
    exact ⟨by rw [HE.out]; rfl, (by repeat (first | (with_reducible exact Below.refl _ _) | (with_reducible refine below_drewN' ?_ _) | (with_reducible refine Below.alloc ?_ (by simp <;> omega) _) | (with_reducible refine Below.setCell ?_ (by simp) _)))⟩
  · have HE := Lib.hid (show aiT t p h = commas [t, p, h] by simp [aiT, hok])
    have HOK := Lib.hid hok
    go_enter Tryd.func20, Tryd.ntmps20
    go_wp2_with (first
          | (go_at_call 36; (with_reducible refine (l02Ok_any w.heap.size t p h (w.alloc (.cells #[.int .i64 t, .int .i64 p, .int .i64 h] 32)) hc0 hc1 hc2).mono ?_); rintro e w' ⟨rfl, rfl⟩)
          | (go_at_call 40; (with_reducible refine (l02Text_any w.heap.size t p h (w.alloc (.cells #[.int .i64 t, .int .i64 p, .int .i64 h] 32)) HOK.out hc0 hc1 hc2).mono ?_); rintro e w1 ⟨rfl, hd1⟩; have hb1 := hd1; obtain ⟨hc1, hf1⟩ := bcell hb1; have hz1 : w.heap.size < w1.heap.size := Nat.lt_of_lt_of_le (by first | (simp; done) | (simp; omega)) hb1.size; clear hd1))
    go_ret
    exact ⟨by rw [HE.out]; rfl, (show Below w.heap.size w w1 from (below_box _ _).trans (hb1.mono (by simp)))⟩
theorem iAirText_any (t p h : Int) (w : World) (hP : Pow w) :
    Calls Tryd.prog 21 #[.agg #[.int .i64 t, .int .i64 p, .int .i64 h]] w fun e w' => e = .returned (strB (aiT t p h)) ∧ Below w.heap.size w w' := by
  have HP := Lib.hid hP
  clear hP
  cases hok : airOk t p h
  · have HE := Lib.hid (show aiT t p h = [] by simp [aiT, hok])
    go_enter Tryd.func21, Tryd.ntmps21
    go_wp2_with (go_at_call 38; refine (iValidAir_any t p h _).mono ?_; rintro e w' ⟨rfl, rfl⟩)
    go_ret
    exact ⟨by rw [HE.out]; rfl, (by repeat (first | (with_reducible exact Below.refl _ _) | (with_reducible refine below_drewN' ?_ _) | (with_reducible refine Below.alloc ?_ (by simp <;> omega) _) | (with_reducible refine Below.setCell ?_ (by simp) _)))⟩
  · have HE := Lib.hid (show aiT t p h = listT [t, p, h] by rw [fits3 hok]; simp [aiT, hok])
    have hB : Below w.heap.size w (((w.alloc (.cells #[.int .i64 t, .int .i64 p, .int .i64 h] 32)).alloc (.cells #[.int .i64 t, .int .i64 p, .int .i64 h] 32)).alloc (.cells #[.int .i64 t, .int .i64 p, .int .i64 h] 2)) := (by repeat (first | (with_reducible exact Below.refl _ _) | (with_reducible refine below_drewN' ?_ _) | (with_reducible refine Below.alloc ?_ (by simp <;> omega) _) | (with_reducible refine Below.setCell ?_ (by simp) _)))
    have HB := Lib.hid hB
    have hrow : Row .i64 (((w.alloc (.cells #[.int .i64 t, .int .i64 p, .int .i64 h] 32)).alloc (.cells #[.int .i64 t, .int .i64 p, .int .i64 h] 32)).alloc (.cells #[.int .i64 t, .int .i64 p, .int .i64 h] 2)) (.slice (some ⟨w.heap.size + 1 + 1, 0, none⟩) 3 3) [t, p, h] := by
      have hr := row_alloc .i64 ((w.alloc (.cells #[.int .i64 t, .int .i64 p, .int .i64 h] 32)).alloc (.cells #[.int .i64 t, .int .i64 p, .int .i64 h] 32)) [t, p, h] 2 3
      rwa [show ((w.alloc (.cells #[.int .i64 t, .int .i64 p, .int .i64 h] 32)).alloc (.cells #[.int .i64 t, .int .i64 p, .int .i64 h] 32)).heap.size = w.heap.size + 1 + 1 by simp] at hr
    have HRW := Lib.hid hrow
    clear hB hrow
    go_enter Tryd.func21, Tryd.ntmps21
    go_wp2_with (first
      | (go_at_call 38; refine (iValidAir_any t p h _).mono ?_; rintro e w' ⟨rfl, rfl⟩)
      | (go_at_call 41; refine (iListText_any _ [t, p, h] _ HRW.out (by simp) (Pow.below HP.out HB.out) (by intro A n c e; cases e; exact Nat.le_refl _)).mono ?_; rintro e w1 ⟨rfl, hb1⟩))
    go_ret
    exact ⟨by rw [HE.out]; rfl, HB.out.trans (hb1.mono HB.out.size)⟩
end Go.Proofs.YtkldgmgjbboiaaaDoor
