/-
  Where the steps of walks begin; the program's. Conditions: those that each theorem states.
-/
import Derived.Test.YthbofhlfggkolaaDoorGf
import Derived.Test.YthbofhlfggkolaaDoorDa
namespace Go.Proofs.YthbofhlfggkolaaDoor
open Go.RowKit
set_option linter.unusedVariables false
set_option linter.unusedSimpArgs false

/-- Where a step begins. -/
def sfI (xs : List Aw) (z : Int) : Int := if 0 < z then (xs.getD (z - 1).toNat Aw.none).f else (xs.getD (-z - 1).toNat Aw.none).t
theorem step_aw {n : Nat} {z : Int} (h0 : z ≠ 0) (h1 : -(n : Int) ≤ z ∧ z ≤ n) : ∃ q : Nat, q < n ∧ absR z = (q : Int) + 1 ∧ ((0 < z ∧ z = (q : Int) + 1) ∨ (z < 0 ∧ z = -((q : Int) + 1))) := by
  have := absR_cases z
  refine ⟨(absR z - 1).toNat, by omega, by omega, ?_⟩
  rcases Int.lt_or_le 0 z with h | h
  · exact Or.inl ⟨h, by omega⟩
  · exact Or.inr ⟨by omega, by omega⟩
theorem sfI_pos {xs : List Aw} {q : Nat} (hq : q < xs.length) : sfI xs ((q : Int) + 1) = xs[q].f ∧ sfI xs (-((q : Int) + 1)) = xs[q].t := by
  unfold sfI
  refine ⟨?_, ?_⟩
  · rw [if_pos (by omega), show ((q : Int) + 1 - 1).toNat = q by omega, getD_of_lt hq]
  · rw [if_neg (by omega), show (-(-((q : Int) + 1)) - 1).toNat = q by omega, getD_of_lt hq]
theorem startOf_any (J : Int) (A : Option Addr) (cap : Nat) (xs : List Aw) (z : Int) (w : World) (hr : AwR w A xs) (hn : xs.length ≤ 24) (h0 : z ≠ 0) (h1 : -(xs.length : Int) ≤ z ∧ z ≤ xs.length) :
    Calls Tryd.prog 97 #[.agg #[.int .i64 J, .slice A xs.length cap], .int .i64 z] w fun e w' => e = .returned (.int .i64 (sfI xs z)) ∧ Below w.heap.size w w' := by
  have HB0 := Lib.hid (below_box w (.cells #[.int .i64 J, .slice A xs.length cap] 43))
  have HR := Lib.hid (hr.below HB0.out)
  obtain ⟨q, hq, -, hcase⟩ := step_aw h0 h1
  obtain ⟨g, off, rfl, hrg⟩ := HR.out q hq
  obtain ⟨⟨c0, c1, c2, c3⟩, c4, c5, c6⟩ := lay_row hrg
  obtain ⟨g', off', e', hrg'⟩ := hr q hq
  have hgb : g < w.heap.size := by
    obtain ⟨⟨d0, -⟩, -⟩ := lay_row hrg'
    injection e' with e'
    injection e' with e1 e2
    rw [e1]
    exact World.block_lt_of_cell? _ _ d0
  obtain ⟨⟨d0, d1, d2, d3⟩, d4, d5, d6⟩ := lay_row hrg'
  injection e' with e'
  injection e' with e1 e2
  subst e1 e2
  have hgn : ¬ (g = w.heap.size) := Nat.ne_of_lt hgb
  obtain ⟨HF1, HF2⟩ := sfI_pos hq
  have hqi : (q : Int) < (xs.length : Int) := by omega
  clear c0 c1 c2 c3 c4 c5 c6 d0 d3 d4 d5 d6 hrg hrg' hr h0 h1
  rcases hcase with ⟨hsg, hzq⟩ | ⟨hsg, hzq⟩
  · have HF := Lib.hid (show sfI xs z = xs[q].f by rw [hzq]; exact HF1)
    have hwm : IntKind.i64.wrap (z - 1) = (q : Int) := by rw [IntWalk.i64_in _ (by omega)]; omega
    have hzm : z - 1 = (q : Int) := by omega
    clear HF1 HF2 hzq
    generalize xs[q].f = f at *
    generalize xs[q].t = t at *
    go_enter Tryd.func97, Tryd.ntmps97
    go_wp2
    go_ret
    exact ⟨ret_int HF.out.symm, HB0.out⟩
  · have HF := Lib.hid (show sfI xs z = xs[q].t by rw [hzq]; exact HF2)
    have hz0 : ¬ 0 < z := by omega
    have hzd : decide (0 < z) = false := decide_eq_false hz0
    have hwn : IntKind.i64.wrap (-z) = -z := IntWalk.i64_in _ (by omega)
    have hwm : IntKind.i64.wrap (-z - 1) = (q : Int) := by rw [IntWalk.i64_in _ (by omega)]; omega
    have hzm : -z - 1 = (q : Int) := by omega
    clear HF1 HF2 hzq
    generalize xs[q].f = f at *
    generalize xs[q].t = t at *
    go_enter Tryd.func97, Tryd.ntmps97
    go_wp2
    go_ret
    exact ⟨ret_int HF.out.symm, HB0.out⟩
end Go.Proofs.YthbofhlfggkolaaDoor
