/-
  Contracts of the laws' helpers on slices of int64 that a call made: held against each other, marked, and looked at again. Conditions: those that each theorem states.
-/
import Derived.Test.YtnlkikdgffaeeaaDoorSa
namespace Go.Proofs.YtnlkikdgffaeeaaDoor
open Go.RowKit
set_option linter.unusedVariables false
set_option linter.unusedSimpArgs false

/-- A row of numbers that a call made, in blocks from B on. -/
def OwnI (w : World) (B : Nat) (v : Value) (xs : List Int) : Prop := w.ownsRow B 2 1 v xs.length (intsV xs)
theorem RowW.of_ownI {w : World} {B : Nat} {v : Value} {xs : List Int} (h : OwnI w B v xs) : RowW .i64 w v xs := by
  rcases h.2 with ⟨rfl, h0⟩ | ⟨g, cap, cur, rfl, hr⟩
  · exact ⟨none, 0, by rw [h0], fun j hj => absurd hj (by omega)⟩
  · refine ⟨_, cap, rfl, fun j hj => ⟨g, 0, rfl, ?_⟩⟩
    have hh : w.ownsRow B 2 1 (.slice (some ⟨g, 0, none⟩) xs.length cap) xs.length (intsV xs) := h
    rw [Nat.zero_add, hh.cellAt j (by omega)]
    simp [intsV, List.getElem?_eq_getElem hj]
/-- The marks that are laid into a row. -/
def marks (k : Int) : Nat → List Int
  | 0 => []
  | n + 1 => marks k n ++ [k + n]
theorem marks_len (k : Int) : ∀ n, (marks k n).length = n
  | 0 => rfl
  | n + 1 => by simp [marks, marks_len k n]
theorem marks_get (k : Int) : ∀ (n j : Nat) (h : j < (marks k n).length), (marks k n)[j] = k + j
  | n + 1, j, h => by
    rw [marks_len] at h
    by_cases e : j < n
    · simp only [marks]
      rw [List.getElem_append_left (by rw [marks_len]; exact e)]
      exact marks_get k n j _
    · obtain rfl : j = n := by omega
      simp only [marks]
      rw [List.getElem_append_right (by rw [marks_len]; exact Nat.le_refl _)]
      simp [marks_len]
theorem marks_put {xs : List Int} {k : Int} {j : Nat} (hj : j < xs.length) : (intsV (marks k j ++ xs.drop j)).set j (.int .i64 (k + j)) = intsV (marks k (j + 1) ++ xs.drop (j + 1)) := by
  unfold intsV
  rw [← List.map_set, List.set_append_right _ _ (by rw [marks_len]; exact Nat.le_refl _), marks_len, Nat.sub_self, List.drop_eq_getElem_cons hj, List.set_cons_zero]
  simp [marks]
theorem OwnI.form {w : World} {B : Nat} {v : Value} {xs : List Int} (h : OwnI w B v xs) : ∃ A cap, v = .slice A xs.length cap := by
  rcases h.2 with ⟨rfl, h0⟩ | ⟨g, cap, cur, rfl, hr⟩
  · exact ⟨none, 0, by rw [h0]⟩
  · exact ⟨_, cap, rfl⟩
theorem OwnI.below {w w' : World} {B : Nat} {v : Value} {xs : List Int} (h : OwnI w B v xs) (hb : Below w.heap.size w w') : OwnI w' B v xs := own_below h hb
theorem OwnI.drewN {w : World} {B : Nat} {v : Value} {xs : List Int} (h : OwnI w B v xs) (n : Nat) : OwnI (w.drewN n) B v xs := h
/-- A row below what was made later stays when that is marked. -/
theorem OwnI.apart {w w' : World} {B B' : Nat} {v v' : Value} {xs ys : List Int} (h : OwnI w B v xs) (hB : ∀ k, v.ownBlock = some k → k < B') (h' : OwnI w B' v' ys) (hg : w.grownBy w' v'.ownBlock) : OwnI w' B v xs := by
  refine h.kept hg ?_
  cases e : v.ownBlock with
  | none => exact Or.inl rfl
  | some k =>
    refine Or.inr fun e2 => ?_
    have := hB k e
    have := (h'.lt k e2.symm).1
    omega
/-- A row that was made later stays when one below it is marked. -/
theorem OwnI.apart2 {w w' : World} {B : Nat} {v v' : Value} {xs : List Int} (h : OwnI w B v xs) (hB : ∀ k, v'.ownBlock = some k → k < B) (hg : w.grownBy w' v'.ownBlock) : OwnI w' B v xs := by
  refine h.kept hg ?_
  cases e : v.ownBlock with
  | none => exact Or.inl rfl
  | some k =>
    refine Or.inr fun e2 => ?_
    have := hB k e2.symm
    have := (h.lt k e).1
    omega
end Go.Proofs.YtnlkikdgffaeeaaDoor
