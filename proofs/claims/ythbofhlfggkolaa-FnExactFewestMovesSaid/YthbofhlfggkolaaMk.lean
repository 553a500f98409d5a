/-
  Contracts of the laws' marks on mines: what is marked is the mine's own row alone. Conditions: those that each theorem states.
-/
import Derived.Test.YthbofhlfggkolaaGa
import Derived.Laws.BytesArg
import Derived.OwnWalk
import Derived.Maps.AppendAt
import Derived.Lib.Hide
namespace Go.Proofs.Ythbofhlfggkolaa
open Go.RowKit
set_option linter.unusedVariables false
set_option linter.unusedSimpArgs false

theorem grown_of {g : Nat} {w w' : World} (h : Below w.heap.size w w') : w.grownBy w' (some g) := ⟨h.os, h.tape, h.output, h.size, fun i hi _ => h.block i hi⟩
theorem grown_set (g i : Nat) (w : World) (v : Value) : w.grownBy (w.setCell ⟨g, i, none⟩ v) (some g) :=
  ⟨rfl, rfl, rfl, by simp, fun j hj hne => Below.heap_setCell w ⟨g, i, none⟩ v j (fun e => hne (by rw [e]))⟩
theorem addBig {x y : ByteArray} (h : x.size + y.size ≤ 1000000000) : Op.stringOp .add x y = pure (.string (x ++ y)) := by
  unfold Op.stringOp
  simp only []
  rw [if_neg (by simp [IntKind.max, IntKind.bits, IntKind.signed]; omega)]
/-- A text of at most m bytes is returned. -/
def TextIn (m : Nat) (w : World) (e : Ending) (w' : World) : Prop := ∃ s : ByteArray, s.size ≤ m ∧ e = .returned (.string s) ∧ Below w.heap.size w w'
theorem strOne (d : Int) : (strOfNums [d]).size = 1 := by unfold strOfNums; rfl
end Go.Proofs.Ythbofhlfggkolaa
