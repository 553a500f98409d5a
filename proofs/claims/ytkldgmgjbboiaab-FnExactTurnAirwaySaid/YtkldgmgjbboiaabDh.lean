/-
  Contracts of chapter 3: airways that are turned; the model's and the program's; airways held against each other. Conditions: those that each theorem states.
-/
import Derived.Test.YtkldgmgjbboiaabDf
namespace Go.Proofs.Ytkldgmgjbboiaab
open Go.RowKit
set_option linter.unusedVariables false

/-- What TurnAirway returns. -/
def tuS (s : ByteArray) (f t l se fr sh : Int) : ByteArray := if awOk s f t l se fr sh then s else ⟨#[]⟩
def tuN (s : ByteArray) (f t l se fr sh : Int) (x : Int) : Int := if awOk s f t l se fr sh then x else 0
def tuB (s : ByteArray) (f t l se fr sh : Int) : Int := if awOk s f t l se fr sh then 0 else 1
theorem ret_turn {a a' : ByteArray} {b c d e f g b' c' d' e' f' g' k k' : Int} (h0 : a = a') (h1 : b = b') (h2 : c = c') (h3 : d = d') (h4 : e = e') (h5 : f = f') (h6 : g = g') (h7 : k = k') :
    Ending.returned (.tuple #[.agg #[.string a, .int .i64 b, .int .i64 c, .int .i64 d, .int .i64 e, .int .i64 f, .int .i64 g], .int .i64 k]) = .returned (.tuple #[.agg #[.string a', .int .i64 b', .int .i64 c', .int .i64 d', .int .i64 e', .int .i64 f', .int .i64 g'], .int .i64 k']) := by
  subst h0 h1 h2 h3 h4 h5 h6 h7; rfl
theorem eqAirway_same (s : ByteArray) (f t l se fr sh : Int) (w : World) :
    Calls Try.prog 36 #[.agg #[.string s, .int .i64 f, .int .i64 t, .int .i64 l, .int .i64 se, .int .i64 fr, .int .i64 sh], .agg #[.string s, .int .i64 f, .int .i64 t, .int .i64 l, .int .i64 se, .int .i64 fr, .int .i64 sh]] w fun e w' => e = .returned (.bool true) ∧ Below w.heap.size w w' := by
  go_enter Try.func36, Try.ntmps36
  go_wp2
  go_ret
  exact ⟨rfl, (by repeat (first | (with_reducible exact Below.refl _ _) | (with_reducible refine below_drewN' ?_ _) | (with_reducible refine Below.alloc ?_ (by simp <;> omega) _) | (with_reducible refine Below.setCell ?_ (by simp) _)))⟩
theorem boxed2 (s : ByteArray) (f t l se fr sh : Int) (w : World) : AwAt ((w.alloc (.cells #[.string s, .int .i64 f, .int .i64 t, .int .i64 l, .int .i64 se, .int .i64 fr, .int .i64 sh] 26)).alloc (.cells #[.string ⟨#[]⟩, .int .i64 0, .int .i64 0, .int .i64 0, .int .i64 0, .int .i64 0, .int .i64 0] 26)) w.heap.size s f t l se fr sh := by unfold AwAt; simp
theorem sTurnAirway_any (s : ByteArray) (f t l se fr sh : Int) (w : World) (hs : s.size ≤ maxLen) :
    Calls Try.prog 34 #[.agg #[.string s, .int .i64 f, .int .i64 t, .int .i64 l, .int .i64 se, .int .i64 fr, .int .i64 sh]] w fun e w' => e = .returned (.tuple #[.agg #[.string (tuS s f t l se fr sh), .int .i64 (tuN s f t l se fr sh t), .int .i64 (tuN s f t l se fr sh f), .int .i64 (tuN s f t l se fr sh l), .int .i64 (tuN s f t l se fr sh se), .int .i64 (tuN s f t l se fr sh fr), .int .i64 (tuN s f t l se fr sh sh)], .int .i64 (tuB s f t l se fr sh)]) ∧ Below w.heap.size w w' := by
  cases hok : awOk s f t l se fr sh
  · have HE := Lib.hid (show tuS s f t l se fr sh = ⟨#[]⟩ ∧ (∀ x, tuN s f t l se fr sh x = 0) ∧ tuB s f t l se fr sh = 1 by simp [tuS, tuN, tuB, hok])
    go_enter Try.func34, Try.ntmps34
    go_wp2_with (go_at_call 39; refine (l03Ok_any w.heap.size s f t l se fr sh _ hs (boxed2 s f t l se fr sh w)).mono ?_; rintro e w1 ⟨rfl, n, rfl⟩)
    refine bodyPost_ret (v := .tuple #[.agg #[.string ⟨#[]⟩, .int .i64 0, .int .i64 0, .int .i64 0, .int .i64 0, .int .i64 0, .int .i64 0], .int .i64 1]) (by simp [results, Try.results34, go_sem]) rfl ⟨ret_turn HE.out.1.symm (HE.out.2.1 t).symm (HE.out.2.1 f).symm (HE.out.2.1 l).symm (HE.out.2.1 se).symm (HE.out.2.1 fr).symm (HE.out.2.1 sh).symm HE.out.2.2.symm, ?_⟩
    exact (by repeat (first | (with_reducible exact Below.refl _ _) | (with_reducible refine below_drewN' ?_ _) | (with_reducible refine Below.alloc ?_ (by simp <;> omega) _) | (with_reducible refine Below.setCell ?_ (by simp) _)))
  · have HE := Lib.hid (show tuS s f t l se fr sh = s ∧ (∀ x, tuN s f t l se fr sh x = x) ∧ tuB s f t l se fr sh = 0 by simp [tuS, tuN, tuB, hok])
    go_enter Try.func34, Try.ntmps34
    go_wp2_with (go_at_call 39; refine (l03Ok_any w.heap.size s f t l se fr sh _ hs (boxed2 s f t l se fr sh w)).mono ?_; rintro e w1 ⟨rfl, n, rfl⟩)
    refine bodyPost_ret (v := .tuple #[.agg #[.string s, .int .i64 t, .int .i64 f, .int .i64 l, .int .i64 se, .int .i64 fr, .int .i64 sh], .int .i64 0]) (by simp [results, Try.results34, go_sem]) rfl ⟨ret_turn HE.out.1.symm (HE.out.2.1 t).symm (HE.out.2.1 f).symm (HE.out.2.1 l).symm (HE.out.2.1 se).symm (HE.out.2.1 fr).symm (HE.out.2.1 sh).symm HE.out.2.2.symm, ?_⟩
    exact (by repeat (first | (with_reducible exact Below.refl _ _) | (with_reducible refine below_drewN' ?_ _) | (with_reducible refine Below.alloc ?_ (by simp <;> omega) _) | (with_reducible refine Below.setCell ?_ (by simp) _)))
theorem iTurnAirway_any (s : ByteArray) (f t l se fr sh : Int) (w : World) (hs : s.size ≤ maxLen) :
    Calls Try.prog 35 #[.agg #[.string s, .int .i64 f, .int .i64 t, .int .i64 l, .int .i64 se, .int .i64 fr, .int .i64 sh]] w fun e w' => e = .returned (.tuple #[.agg #[.string (tuS s f t l se fr sh), .int .i64 (tuN s f t l se fr sh t), .int .i64 (tuN s f t l se fr sh f), .int .i64 (tuN s f t l se fr sh l), .int .i64 (tuN s f t l se fr sh se), .int .i64 (tuN s f t l se fr sh fr), .int .i64 (tuN s f t l se fr sh sh)], .int .i64 (tuB s f t l se fr sh)]) ∧ Below w.heap.size w w' := by
  cases hok : awOk s f t l se fr sh
  · have HE := Lib.hid (show tuS s f t l se fr sh = ⟨#[]⟩ ∧ (∀ x, tuN s f t l se fr sh x = 0) ∧ tuB s f t l se fr sh = 1 by simp [tuS, tuN, tuB, hok])
    go_enter Try.func35, Try.ntmps35
    go_wp2_with fail
    refine (iValidAirway_ex s f t l se fr sh _ hs).mono ?_
    rintro e w1 ⟨rfl, rfl | rfl⟩
    all_goals
      go_wp2
      refine bodyPost_ret (v := .tuple #[.agg #[.string ⟨#[]⟩, .int .i64 0, .int .i64 0, .int .i64 0, .int .i64 0, .int .i64 0, .int .i64 0], .int .i64 1]) (by simp [results, Try.results35, go_sem]) rfl ⟨ret_turn HE.out.1.symm (HE.out.2.1 t).symm (HE.out.2.1 f).symm (HE.out.2.1 l).symm (HE.out.2.1 se).symm (HE.out.2.1 fr).symm (HE.out.2.1 sh).symm HE.out.2.2.symm, ?_⟩
      exact (by repeat (first | (with_reducible exact Below.refl _ _) | (with_reducible refine below_drewN' ?_ _) | (with_reducible refine Below.alloc ?_ (by simp <;> omega) _) | (with_reducible refine Below.setCell ?_ (by simp) _)))
  · have HE := Lib.hid (show tuS s f t l se fr sh = s ∧ (∀ x, tuN s f t l se fr sh x = x) ∧ tuB s f t l se fr sh = 0 by simp [tuS, tuN, tuB, hok])
    go_enter Try.func35, Try.ntmps35
    go_wp2_with fail
    refine (iValidAirway_ex s f t l se fr sh _ hs).mono ?_
    rintro e w1 ⟨rfl, rfl | rfl⟩
    all_goals
      go_wp2
      refine bodyPost_ret (v := .tuple #[.agg #[.string s, .int .i64 t, .int .i64 f, .int .i64 l, .int .i64 se, .int .i64 fr, .int .i64 sh], .int .i64 0]) (by simp [results, Try.results35, go_sem]) rfl ⟨ret_turn HE.out.1.symm (HE.out.2.1 t).symm (HE.out.2.1 f).symm (HE.out.2.1 l).symm (HE.out.2.1 se).symm (HE.out.2.1 fr).symm (HE.out.2.1 sh).symm HE.out.2.2.symm, ?_⟩
      exact (by repeat (first | (with_reducible exact Below.refl _ _) | (with_reducible refine below_drewN' ?_ _) | (with_reducible refine Below.alloc ?_ (by simp <;> omega) _) | (with_reducible refine Below.setCell ?_ (by simp) _)))
end Go.Proofs.Ytkldgmgjbboiaab
