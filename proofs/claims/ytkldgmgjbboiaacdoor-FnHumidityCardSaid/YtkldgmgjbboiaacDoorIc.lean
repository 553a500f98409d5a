/-
  Contracts of the model's draws of chapter 2 for dew points and humidities. Conditions: those that each theorem states.
-/
import Derived.Test.YtkldgmgjbboiaacDoorIb
namespace Go.Proofs.YtkldgmgjbboiaacDoor
open Go.RowKit
set_option linter.unusedVariables false

theorem l00From_any (a : Option Addr) (len cap : Nat) (w : World) :
    Calls Tryd.prog 45 #[.slice a len cap] w fun e w' => e = .returned (.pointer (some ⟨w.heap.size, 0, none⟩)) ∧ w.alloc (.cells #[.slice a len cap, .int .i64 0, .int .u64 0] 84) = w' := by
  go_enter Tryd.func45, Tryd.ntmps45
  go_wp2
  go_ret
  exact ⟨rfl, rfl⟩
theorem SrcB.new (w : World) (a : Option Addr) (len cap : Nat) : SrcB (w.alloc (.cells #[.slice a len cap, .int .i64 0, .int .u64 0] 84)) w.heap.size a len cap 0 0 := by
  unfold SrcB
  show (w.heap.push _)[w.heap.size]? = _
  simp
/-- Two numbers in their ranges. -/
def Two (l1 h1 l2 h2 : Int) (w : World) (e : Ending) (w' : World) : Prop := ∃ x y : Int, (l1 ≤ x ∧ x ≤ h1) ∧ (l2 ≤ y ∧ y ≤ h2) ∧ e = .returned (.tuple #[.int .i64 x, .int .i64 y]) ∧ Below w.heap.size w w'
def Three (l1 h1 l2 h2 l3 h3 : Int) (w : World) (e : Ending) (w' : World) : Prop := ∃ x y z : Int, (l1 ≤ x ∧ x ≤ h1) ∧ (l2 ≤ y ∧ y ≤ h2) ∧ (l3 ≤ z ∧ z ≤ h3) ∧ e = .returned (.tuple #[.int .i64 x, .int .i64 y, .int .i64 z]) ∧ Below w.heap.size w w'
set_option maxHeartbeats 1000000 in
theorem DrawDewPoint_any (a : Option Addr) (len cap : Nat) (w : World) (hy : BytB w.heap.size w a len) (hl : len ≤ 1048576) :
    Calls Tryd.prog 34 #[.slice a len cap] w (Two (-101) 601 (-1) 1001 w) := by
  have HY0 := Lib.hid hy
  have HS0 := Lib.hid (SrcB.new w a len cap)
  have HB0 := Lib.hid (show Below w.heap.size w (w.alloc (.cells #[.slice a len cap, .int .i64 0, .int .u64 0] 84)) from (Below.refl _ _).alloc (Nat.le_refl _) _)
  clear hy
  go_enter Tryd.func34, Tryd.ntmps34
  go_wp2_with (go_at_call 45; refine (l00From_any a len cap w).mono ?_; rintro e w' ⟨rfl, rfl⟩)
  go_wp2_with fail
  refine (l02DrawTemperature_any w.heap.size w.heap.size a len cap 0 0 0 (w.alloc (.cells #[.slice a len cap, .int .i64 0, .int .u64 0] 84)) HS0.out (Nat.le_refl _) (HY0.out.below HB0.out) hl (by omega) (by omega) (by omega)).mono ?_
  rintro e w1 ⟨x1, at1, seed1, hx1, ha1, hs1, rfl, hS1, hB1, hO1⟩
  have HS1 := Lib.hid hS1
  have HB1 := Lib.hid (HB0.out.trans hB1)
  clear hS1 hB1 hO1
  go_wp2_with fail
  refine (l02DrawHumidity_any w.heap.size w.heap.size a len cap at1 seed1 (0 + 4) w1 HS1.out (Nat.le_refl _) (HY0.out.below HB1.out) hl ha1 (by omega) hs1).mono ?_
  rintro e w2 ⟨x2, at2, seed2, hx2, ha2, hs2, rfl, hS2, hB2, hO2⟩
  have HS2 := Lib.hid hS2
  have HB2 := Lib.hid (HB1.out.trans hB2)
  clear hS2 hB2 hO2
  go_wp2
  go_ret2
  exact ⟨x1, x2, hx1, hx2, rfl, HB2.out⟩
set_option maxHeartbeats 2000000 in
theorem DrawHumidityFor_any (a : Option Addr) (len cap : Nat) (w : World) (hy : BytB w.heap.size w a len) (hl : len ≤ 1048576) :
    Calls Tryd.prog 38 #[.slice a len cap] w (Three (-101) 601 (-220) 601 49999 150001 w) := by
  have HY0 := Lib.hid hy
  have HS0 := Lib.hid (SrcB.new w a len cap)
  have HB0 := Lib.hid (show Below w.heap.size w (w.alloc (.cells #[.slice a len cap, .int .i64 0, .int .u64 0] 84)) from (Below.refl _ _).alloc (Nat.le_refl _) _)
  clear hy
  go_enter Tryd.func38, Tryd.ntmps38
  go_wp2_with (go_at_call 45; refine (l00From_any a len cap w).mono ?_; rintro e w' ⟨rfl, rfl⟩)
  go_wp2_with fail
  refine (l02DrawTemperature_any w.heap.size w.heap.size a len cap 0 0 0 (w.alloc (.cells #[.slice a len cap, .int .i64 0, .int .u64 0] 84)) HS0.out (Nat.le_refl _) (HY0.out.below HB0.out) hl (by omega) (by omega) (by omega)).mono ?_
  rintro e w1 ⟨x1, at1, seed1, hx1, ha1, hs1, rfl, hS1, hB1, hO1⟩
  have HS1 := Lib.hid hS1
  have HB1 := Lib.hid (HB0.out.trans hB1)
  clear hS1 hB1 hO1
  go_wp2_with fail
  refine (pick_any 120 (by omega) w.heap.size w.heap.size a len cap at1 seed1 (0 + 4) w1 HS1.out (Nat.le_refl _) (HY0.out.below HB1.out) hl ha1 (by omega) hs1).mono ?_
  rintro e w2 ⟨x2, at2, seed2, hx2, ha2, hs2, rfl, hS2, hB2, hO2⟩
  have HS2 := Lib.hid hS2
  have HB2 := Lib.hid (HB1.out.trans hB2)
  clear hS2 hB2 hO2
  go_wp2_with fail
  refine (one_any 8 (by omega) w.heap.size w.heap.size a len cap at2 seed2 (0 + 4 + 2) w2 HS2.out (Nat.le_refl _) (HY0.out.below HB2.out) hl ha2 (by omega) hs2).mono ?_
  rintro e w3 ⟨v, at3, seed3, ha3, hs3, rfl, hS3, hB3, hO3⟩
  have HS3 := Lib.hid hS3
  have HB3 := Lib.hid (HB2.out.trans hB3)
  clear hS3 hB3 hO3
  cases v
  · go_wp2_with fail
    refine (l02DrawPressure_any w.heap.size w.heap.size a len cap at3 seed3 (0 + 4 + 2 + 2) w3 HS3.out (Nat.le_refl _) (HY0.out.below HB3.out) hl ha3 (by omega) hs3).mono ?_
    rintro e w4 ⟨x4, at4, seed4, hx4, ha4, hs4, rfl, hS4, hB4, hO4⟩
    have HS4 := Lib.hid hS4
    have HB4 := Lib.hid (HB3.out.trans hB4)
    clear hS4 hB4 hO4
    go_wp2
    go_ret3
    exact ⟨x1, _, x4, hx1, ⟨by omega, by omega⟩, hx4, rfl, HB4.out⟩
  · go_wp2_with fail
    refine (l02DrawTemperature_any w.heap.size w.heap.size a len cap at3 seed3 (0 + 4 + 2 + 2) w3 HS3.out (Nat.le_refl _) (HY0.out.below HB3.out) hl ha3 (by omega) hs3).mono ?_
    rintro e w4 ⟨x4, at4, seed4, hx4, ha4, hs4, rfl, hS4, hB4, hO4⟩
    have HS4 := Lib.hid hS4
    have HB4 := Lib.hid (HB3.out.trans hB4)
    clear hS4 hB4 hO4
    go_wp2_with fail
    refine (l02DrawPressure_any w.heap.size w.heap.size a len cap at4 seed4 (0 + 4 + 2 + 2 + 4) w4 HS4.out (Nat.le_refl _) (HY0.out.below HB4.out) hl ha4 (by omega) hs4).mono ?_
    rintro e w5 ⟨x5, at5, seed5, hx5, ha5, hs5, rfl, hS5, hB5, hO5⟩
    have HS5 := Lib.hid hS5
    have HB5 := Lib.hid (HB4.out.trans hB5)
    clear hS5 hB5 hO5
    go_wp2
    go_ret3
    exact ⟨x1, x4, x5, hx1, ⟨by omega, by omega⟩, hx5, rfl, HB5.out⟩
end Go.Proofs.YtkldgmgjbboiaacDoor
