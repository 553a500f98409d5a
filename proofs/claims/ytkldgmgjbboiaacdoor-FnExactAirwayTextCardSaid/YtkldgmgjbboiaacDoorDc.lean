/-
  Contracts of chapter 3: resistances; the model's and the program's. Conditions: those that each theorem states.
-/
import Derived.Test.YtkldgmgjbboiaacDoorDb
namespace Go.Proofs.YtkldgmgjbboiaacDoor
open Go.RowKit
set_option linter.unusedVariables false

theorem szAirway_small (s : ByteArray) (f t l se fr sh : Int) (w : World) (hs : s.size ≤ 1048576) :
    Calls Tryd.prog 9 #[.agg #[.string s, .int .i64 f, .int .i64 t, .int .i64 l, .int .i64 se, .int .i64 fr, .int .i64 sh], .int .i64 1048576] w fun e w' => e = .returned (.int .i64 (1048576 - s.size)) ∧ Below w.heap.size w w' := by
  go_enter Tryd.func9, Tryd.ntmps9
  go_wp2
  go_ret
  exact ⟨rfl, below_box _ _⟩
theorem szAirway_big (s : ByteArray) (f t l se fr sh : Int) (w : World) (hs : 1048576 < s.size) (hm : s.size ≤ maxLen) :
    Calls Tryd.prog 9 #[.agg #[.string s, .int .i64 f, .int .i64 t, .int .i64 l, .int .i64 se, .int .i64 fr, .int .i64 sh], .int .i64 1048576] w fun e w' => e = .returned (.int .i64 (-1)) ∧ Below w.heap.size w w' := by
  unfold maxLen at hm
  go_enter Tryd.func9, Tryd.ntmps9
  go_wp2
  go_ret
  exact ⟨rfl, below_box _ _⟩
theorem toAirway_any (s : ByteArray) (f t l se fr sh : Int) (w : World) :
    Calls Tryd.prog 11 #[.agg #[.string s, .int .i64 f, .int .i64 t, .int .i64 l, .int .i64 se, .int .i64 fr, .int .i64 sh]] w fun e w' => e = .returned (.agg #[.string s, .int .i64 f, .int .i64 t, .int .i64 l, .int .i64 se, .int .i64 fr, .int .i64 sh]) ∧ Below w.heap.size w w' := by
  go_enter Tryd.func11, Tryd.ntmps11
  go_wp2
  refine bodyPost_ret (v := .agg #[.string s, .int .i64 f, .int .i64 t, .int .i64 l, .int .i64 se, .int .i64 fr, .int .i64 sh]) (by simp [results, Tryd.results11, go_sem]) rfl ⟨rfl, ?_⟩
  exact (by repeat (first | exact Below.refl _ _ | refine below_drewN' ?_ _ | refine Below.alloc ?_ (by simp <;> omega) _))

theorem mul_nn {p q A B : Int} (h1 : 0 ≤ p) (h2 : p ≤ A) (h3 : 0 ≤ q) (h4 : q ≤ B) : 0 ≤ p * q ∧ p * q ≤ A * B :=
  ⟨Int.mul_nonneg h1 h3, Int.mul_le_mul h2 h4 h3 (by omega)⟩
theorem root_bd {se : Int} (h1 : 50 ≤ se) (h2 : se ≤ 5000) : 0 ≤ rootR (se * 10000) ∧ rootR (se * 10000) ≤ 7071 := by
  refine ⟨rootR_nonneg _, ?_⟩
  apply Int.le_of_not_gt; intro hl
  have := (le_rootR (se * 10000) 7072 (by omega)).2 (by omega)
  omega
/-- The quotient of chapter 3, with a section. -/
def rawR (l fr sh se : Int) : Int := divR (fr * (l + sh) * rootR (se * 10000) * 400000) (se * se * se)
theorem raw_bds {l fr sh se : Int} (h1 : 1 ≤ l ∧ l ≤ 10000) (h2 : 1 ≤ fr ∧ fr ≤ 1000) (h3 : 0 ≤ sh ∧ sh ≤ 1000) (h4 : 50 ≤ se ∧ se ≤ 5000) :
    ((0 ≤ rootR (se * 10000) ∧ rootR (se * 10000) ≤ 7071) ∧ (0 ≤ fr * (l + sh) ∧ fr * (l + sh) ≤ 11000000)) ∧ (0 ≤ fr * (l + sh) * rootR (se * 10000) ∧ fr * (l + sh) * rootR (se * 10000) ≤ 77781000000) ∧
    (1 ≤ se * se ∧ se * se ≤ 25000000) ∧ (1 ≤ se * se * se ∧ se * se * se ≤ 125000000000) := by
  have r := root_bd h4.1 h4.2
  have a := mul_nn (p := fr) (q := l + sh) (A := 1000) (B := 11000) (by omega) (by omega) (by omega) (by omega)
  have b := mul_nn (p := fr * (l + sh)) (q := rootR (se * 10000)) (A := 11000000) (B := 7071) (by omega) (by omega) (by omega) (by omega)
  have c := mul_nn (p := se) (q := se) (A := 5000) (B := 5000) (by omega) (by omega) (by omega) (by omega)
  have c1 : 50 * 50 ≤ se * se := Int.mul_le_mul h4.1 h4.1 (by omega) (by omega)
  have d := mul_nn (p := se * se) (q := se) (A := 25000000) (B := 5000) (by omega) (by omega) (by omega) (by omega)
  have d1 : 2500 * 50 ≤ se * se * se := Int.mul_le_mul (by omega) h4.1 (by omega) (by omega)
  omega
theorem raw_nonneg {l fr sh se : Int} (h1 : 1 ≤ l ∧ l ≤ 10000) (h2 : 1 ≤ fr ∧ fr ≤ 1000) (h3 : 0 ≤ sh ∧ sh ≤ 1000) (h4 : 50 ≤ se ∧ se ≤ 5000) : 0 ≤ rawR l fr sh se ∧ rawR l fr sh se ≤ 31112400000000000 := by
  obtain ⟨⟨r, a⟩, b, c, d⟩ := raw_bds h1 h2 h3 h4
  unfold rawR
  have hb := divR_bd (fr * (l + sh) * rootR (se * 10000) * 400000) (se * se * se)
  rw [divR_pp _ _ (by omega) (by omega)] at hb ⊢
  refine ⟨Int.ediv_nonneg (by omega) (by omega), ?_⟩
  omega
def max1 (x : Int) : Int := if x < 1 then 1 else x

end Go.Proofs.YtkldgmgjbboiaacDoor
