/-
  Contracts of chapter 5: bounds and middles of surveys, resistances that fit; the model's and the program's; the laws' surveys. Conditions: those that each theorem states.
-/
import Derived.Test.YtbjfdhbgnklahaaDoorKc
namespace Go.Proofs.YtbjfdhbgnklahaaDoor
open Go.RowKit
set_option linter.unusedVariables false
set_option linter.unusedSimpArgs false

def mx1 (x : Int) : Int := if x < 1 then 1 else x
/-- What BoundsOf returns. -/
def bndA (s : ByteArray) (d de q qe : Int) : Int := if suOk s d de q qe then loR d de q qe else 0
def bndB (s : ByteArray) (d de q qe : Int) : Int := if suOk s d de q qe then hiR d de q qe else 0
def bndC (s : ByteArray) (d de q qe : Int) : Int := if suOk s d de q qe then 0 else 1
def mdA (s : ByteArray) (d de q qe : Int) : Int := if suOk s d de q qe then midR d q else 0
theorem ret_three {a b c a' b' c' : Int} (h : a = a') (k : b = b') (l : c = c') : Ending.returned (.tuple #[.int .i64 a, .int .i64 b, .int .i64 c]) = .returned (.tuple #[.int .i64 a', .int .i64 b', .int .i64 c']) := by rw [h, k, l]
/-- What FitsSurvey returns. -/
def fitR (s : ByteArray) (d de q qe : Int) (n : Int) : Bool := suOk s d de q qe && inB n (loR d de q qe) (hiR d de q qe)
theorem szSurvey_small (s : ByteArray) (d de q qe : Int) (w : World) (hs : s.size ≤ 1048576) :
    Calls Tryd.prog 5 #[.agg #[.string s, .int .i64 d, .int .i64 de, .int .i64 q, .int .i64 qe], .int .i64 1048576] w fun e w' => e = .returned (.int .i64 (1048576 - s.size)) ∧ Below w.heap.size w w' := by
  go_enter Tryd.func5, Tryd.ntmps5
  go_wp2
  go_ret
  exact ⟨rfl, below_box _ _⟩
theorem szSurvey_big (s : ByteArray) (d de q qe : Int) (w : World) (hs : 1048576 < s.size) (hm : s.size ≤ maxLen) :
    Calls Tryd.prog 5 #[.agg #[.string s, .int .i64 d, .int .i64 de, .int .i64 q, .int .i64 qe], .int .i64 1048576] w fun e w' => e = .returned (.int .i64 (-1)) ∧ Below w.heap.size w w' := by
  unfold maxLen at hm
  go_enter Tryd.func5, Tryd.ntmps5
  go_wp2
  go_ret
  exact ⟨rfl, below_box _ _⟩
theorem toSurvey_any (s : ByteArray) (d de q qe : Int) (w : World) :
    Calls Tryd.prog 7 #[.agg #[.string s, .int .i64 d, .int .i64 de, .int .i64 q, .int .i64 qe]] w fun e w' => e = .returned (.agg #[.string s, .int .i64 d, .int .i64 de, .int .i64 q, .int .i64 qe]) ∧ Below w.heap.size w w' := by
  go_enter Tryd.func7, Tryd.ntmps7
  go_wp2
  refine bodyPost_ret (v := .agg #[.string s, .int .i64 d, .int .i64 de, .int .i64 q, .int .i64 qe]) (by simp [results, Tryd.results7, go_sem]) rfl ⟨rfl, ?_⟩
  exact (by repeat (first | exact Below.refl _ _ | refine below_drewN' ?_ _ | refine Below.alloc ?_ (by simp <;> omega) _))
end Go.Proofs.YtbjfdhbgnklahaaDoor
