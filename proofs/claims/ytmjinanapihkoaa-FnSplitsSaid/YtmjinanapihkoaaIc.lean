/-
  Contracts of the model's draws of chapter 2 for dew points and humidities. Conditions: those that each theorem states.
-/
import Derived.Test.YtmjinanapihkoaaIb
namespace Go.Proofs.Ytmjinanapihkoaa
open Go.RowKit
set_option linter.unusedVariables false

theorem l00From_any (a : Option Addr) (len cap : Nat) (w : World) :
    Calls Try.prog 60 #[.slice a len cap] w fun e w' => e = .returned (.pointer (some ⟨w.heap.size, 0, none⟩)) ∧ w.alloc (.cells #[.slice a len cap, .int .i64 0, .int .u64 0] 157) = w' := by
  go_enter Try.func60, Try.ntmps60
  go_wp2
  go_ret
  exact ⟨rfl, rfl⟩
theorem SrcB.new (w : World) (a : Option Addr) (len cap : Nat) : SrcB (w.alloc (.cells #[.slice a len cap, .int .i64 0, .int .u64 0] 157)) w.heap.size a len cap 0 0 := by
  unfold SrcB
  show (w.heap.push _)[w.heap.size]? = _
  simp
/-- Two numbers in their ranges. -/
def Two (l1 h1 l2 h2 : Int) (w : World) (e : Ending) (w' : World) : Prop := ∃ x y : Int, (l1 ≤ x ∧ x ≤ h1) ∧ (l2 ≤ y ∧ y ≤ h2) ∧ e = .returned (.tuple #[.int .i64 x, .int .i64 y]) ∧ Below w.heap.size w w'
def Three (l1 h1 l2 h2 l3 h3 : Int) (w : World) (e : Ending) (w' : World) : Prop := ∃ x y z : Int, (l1 ≤ x ∧ x ≤ h1) ∧ (l2 ≤ y ∧ y ≤ h2) ∧ (l3 ≤ z ∧ z ≤ h3) ∧ e = .returned (.tuple #[.int .i64 x, .int .i64 y, .int .i64 z]) ∧ Below w.heap.size w w'
end Go.Proofs.Ytmjinanapihkoaa
