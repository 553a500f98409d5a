/-
  Contracts of chapter 4: the airways at a junction; the model's and the program's. Conditions: those that each theorem states.
-/
import Derived.Test.YthbofhlfggkolaaGf
import Derived.Test.YthbofhlfggkolaaNh
import Derived.Maps.AppendAt
import Derived.Maps.OwnSet
namespace Go.Proofs.Ythbofhlfggkolaa
open Go.RowKit
set_option linter.unusedVariables false
set_option linter.unusedSimpArgs false

/-- Whether an airway ends at a junction. -/
def endB (f t x : Int) : Bool := f == x || t == x
def atTo (xs : List Aw) (x : Int) : Nat → List Int
  | 0 => []
  | k + 1 => if endB (xs.getD k Aw.none).f (xs.getD k Aw.none).t x then atTo xs x k ++ [(k : Int)] else atTo xs x k
theorem atTo_len (xs : List Aw) (x : Int) : ∀ k, (atTo xs x k).length ≤ k
  | 0 => Nat.le_refl _
  | k + 1 => by
    have := atTo_len xs x k
    rw [atTo]
    split
    · rw [List.length_append]; simp; omega
    · omega
theorem atTo_yes {xs : List Aw} {x : Int} {k : Nat} (hk : k < xs.length) (h : endB xs[k].f xs[k].t x = true) : atTo xs x (k + 1) = atTo xs x k ++ [(k : Int)] := by rw [atTo, getD_of_lt hk, h]; rfl
theorem atTo_no {xs : List Aw} {x : Int} {k : Nat} (hk : k < xs.length) (h : endB xs[k].f xs[k].t x = false) : atTo xs x (k + 1) = atTo xs x k := by rw [atTo, getD_of_lt hk, h]; rfl
theorem ints_snoc (l : List Int) (x : Int) : intsV (l ++ [x]) = intsV l ++ [.int .i64 x] := by simp [intsV]
theorem zeroBool (w : World) : (zeroValue 4).run Try.prog w = .ok (.bool false) w := by kernel_rfl
theorem cellK1 {w w' : World} {a : Addr} {v : Value} (h : w.cell? a = some v) (hb : Below w.heap.size w w') : w'.cell? a = some v := (hb.cell (World.block_lt_of_cell? _ _ h)).trans h
theorem below_w {w0 w w' : World} (h : Below w0.heap.size w0 w) (h2 : Below w.heap.size w w') : Below w0.heap.size w0 w' := h.trans (h2.mono h.size)
end Go.Proofs.Ythbofhlfggkolaa
