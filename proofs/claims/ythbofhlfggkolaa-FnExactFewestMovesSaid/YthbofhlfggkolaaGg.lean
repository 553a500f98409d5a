/-
  Contracts on mines that are held against each other: the laws'. Conditions: those that each theorem states.
-/
import Derived.Test.YthbofhlfggkolaaGe
namespace Go.Proofs.Ythbofhlfggkolaa
open Go.RowKit
set_option linter.unusedVariables false

theorem eqMine_same (J : Int) (A A' : Option Addr) (cap cap' : Nat) (xs : List Aw) (w : World) (hr : AwR w A xs) (hr' : AwR w A' xs) (hl : xs.length ≤ 1048576) :
    Calls Try.prog 15 #[.agg #[.int .i64 J, .slice A xs.length cap], .agg #[.int .i64 J, .slice A' xs.length cap']] w fun e w' => e = .returned (.bool true) ∧ Below w.heap.size w w' := by
  have hB : Below w.heap.size w ((w.alloc (.cells #[.int .i64 J, .slice A xs.length cap] 31)).alloc (.cells #[.int .i64 J, .slice A' xs.length cap'] 31)) := (by repeat (first | (with_reducible exact Below.refl _ _) | (with_reducible refine below_drewN' ?_ _) | (with_reducible refine Below.alloc ?_ (by simp <;> omega) _) | (with_reducible refine Below.setCell ?_ (by simp) _)))
  have HB := Lib.hid hB
  have HR := Lib.hid (hr.below hB)
  have HR' := Lib.hid (hr'.below hB)
  clear hr hr' hB
  go_enter Try.func15, Try.ntmps15
  go_wp2_with (first | (go_at_call 46; (with_reducible refine (eqAirwayS_same A A' cap cap' xs _ HR.out HR'.out hl).mono ?_); rintro e w1 ⟨rfl, hd⟩))
  go_ret
  exact ⟨rfl, HB.out.trans (hd.mono HB.out.size)⟩
end Go.Proofs.Ythbofhlfggkolaa
