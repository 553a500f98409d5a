/-
  Contracts: whether numbers are flows that are not negative, or shares. Conditions: those that each theorem states.
-/
import Derived.Test.YtnlkikdgffaeeaaDoorDa
import Derived.Test.YtnlkikdgffaeeaaDoorSa
namespace Go.Proofs.YtnlkikdgffaeeaaDoor
open Go.RowKit
set_option linter.unusedVariables false
set_option linter.unusedSimpArgs false

theorem allR_pair (lo hi x y : Int) : allR lo hi [x, y] = (inB x lo hi && inB y lo hi) := by
  rw [Bool.eq_iff_iff, allR_iff, Bool.and_eq_true, inB_iff, inB_iff]
  simp
theorem within64_oneB (lo hi x : Int) (W : World) (T : TypeId) (b : Nat) (hb : b = W.heap.size) :
    Calls Tryd.prog 25 #[.int .i64 lo, .int .i64 hi, .slice (some ⟨b, 0, none⟩) 1 1] (W.alloc (.cells #[.int .i64 x] T)) fun e w' => e = .returned (.bool (inB x lo hi)) ∧ Below W.heap.size W w' :=
  (within64_one lo hi x W T b hb).mono fun _ _ ⟨a, h⟩ => ⟨a, h ▸ below_box _ _⟩
end Go.Proofs.YtnlkikdgffaeeaaDoor
