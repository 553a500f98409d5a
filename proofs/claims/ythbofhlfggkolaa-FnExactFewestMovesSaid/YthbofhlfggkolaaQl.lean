/-
  Rows beside marked mines. Conditions: those that each theorem states.
-/
import Derived.Test.YthbofhlfggkolaaQb
import Derived.Test.YthbofhlfggkolaaMk
import Derived.Test.YthbofhlfggkolaaGg
namespace Go.Proofs.Ythbofhlfggkolaa
open Go.RowKit
set_option linter.unusedVariables false

theorem own_far {w w' : World} {B g : Nat} {v : Value} {xs : List Int} (h : OwnI w B v xs) (hne : ∀ k, v.ownBlock = some k → k ≠ g) (hg : w.grownBy w' (some g)) : OwnI w' B v xs := by
  refine h.kept hg ?_
  cases e : v.ownBlock with
  | none => exact Or.inl rfl
  | some k => exact Or.inr fun e2 => hne k e (by injection e2)
theorem blks_lt {w : World} {g : Nat} {t : TypeId} {cs : List Value} (h : BlkV w g t cs) : g < w.heap.size := h.lt
end Go.Proofs.Ythbofhlfggkolaa
