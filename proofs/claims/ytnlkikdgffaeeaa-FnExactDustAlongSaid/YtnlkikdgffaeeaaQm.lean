/-
  Rows and blocks that lie apart from what is written. Conditions: those that each theorem states.
-/
import Derived.Test.YtnlkikdgffaeeaaNh
import Derived.Test.YtnlkikdgffaeeaaGq
namespace Go.Proofs.Ytnlkikdgffaeeaa
open Go.RowKit
set_option linter.unusedVariables false

theorem own_far {w w' : World} {B g : Nat} {v : Value} {xs : List Int} (h : OwnI w B v xs) (hne : ∀ k, v.ownBlock = some k → k ≠ g) (hg : w.grownBy w' (some g)) : OwnI w' B v xs := by
  refine h.kept hg ?_
  cases e : v.ownBlock with
  | none => exact Or.inl rfl
  | some k => exact Or.inr fun e2 => hne k e (by injection e2)
theorem blks_lt {w : World} {g : Nat} {t : TypeId} {cs : List Value} (h : BlkV w g t cs) : g < w.heap.size := h.lt
theorem row_ofO {w : World} {B : Nat} {v : Value} {xs : List Int} (h : OwnI w B v xs) : Row .i64 w v xs := by
  rcases h.2 with ⟨rfl, h0⟩ | ⟨g, cap, cur, rfl, hr⟩
  · exact .inl ⟨List.eq_nil_of_length_eq_zero h0, rfl⟩
  · exact Row.of_own h
theorem blk_far {w w' : World} {g g' : Nat} {t : TypeId} {cs : List Value} (h : BlkV w g t cs) (hg : w.grownBy w' (some g')) (hne : g ≠ g') : BlkV w' g t cs := by
  obtain ⟨-, -, -, -, hb⟩ := hg
  exact (hb g h.lt (fun e => hne (by injection e))).trans h
end Go.Proofs.Ytnlkikdgffaeeaa
