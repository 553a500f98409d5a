/-
  Contracts of chapter 9: the draughts of all airways; the model's and the program's. Conditions: those that each theorem states.
-/
import Derived.Test.YthbofhlfggkolaaDoorZc
namespace Go.Proofs.YthbofhlfggkolaaDoor
open Go.RowKit
set_option linter.unusedVariables false
set_option linter.unusedSimpArgs false

/-- A row that is filled from the left: the first k numbers are there, zeros behind. -/
def fillL (n : Nat) (f : Nat → Int) (k : Nat) : List Int := (List.range n).map (fun j => if j < k then f j else 0)
theorem fillL_len (n : Nat) (f : Nat → Int) (k : Nat) : (fillL n f k).length = n := by simp [fillL]
theorem fillL_zero (n : Nat) (f : Nat → Int) : fillL n f 0 = List.replicate n 0 := by
  apply List.ext_getElem (by simp [fillL])
  intro j h1 h2
  simp [fillL]
theorem fillL_full (n : Nat) (f : Nat → Int) : fillL n f n = (List.range n).map f := by
  apply List.ext_getElem (by simp [fillL])
  intro j h1 h2
  have : j < n := by simpa [fillL] using h1
  simp [fillL, this]
theorem fillL_put {n : Nat} (f : Nat → Int) {k : Nat} (h : k < n) : (intsV (fillL n f k)).set k (.int .i64 (f k)) = intsV (fillL n f (k + 1)) := by
  unfold intsV
  rw [← List.map_set]
  congr 1
  apply List.ext_getElem (by simp [fillL])
  intro j h1 h2
  have hj : j < n := by simpa [fillL] using h2
  simp only [List.getElem_set, fillL, List.getElem_map, List.getElem_range]
  by_cases e : k = j
  · subst e; rw [if_pos rfl, if_pos (by omega)]
  · rw [if_neg e]
    by_cases q : j < k
    · rw [if_pos q, if_pos (by omega)]
    · rw [if_neg q, if_neg (by omega)]
theorem fillL_at {n : Nat} (f : Nat → Int) {k : Nat} (h : k < n) : (intsV (fillL n f k))[k]? = some (.int .i64 0) := by
  simp [intsV, fillL, h]
theorem fillL_made (n : Nat) (f : Nat → Int) : (madeCells #[.int .i64 0] n).toList = intsV (fillL n f 0) := by
  rw [fillL_zero]
  simp [madeCells, intsV, Nat.mod_one, List.map_const']
theorem ret_vz {v : Value} {b b' : Int} (h : b = b') : Ending.returned (.tuple #[v, .int .i64 b]) = .returned (.tuple #[v, .int .i64 b']) := by rw [h]
theorem own_lez {w : World} {B B' : Nat} {v : Value} {xs : List Int} (h : OwnI w B v xs) (hb : B' ≤ B) : OwnI w B' v xs := by
  obtain ⟨hl, h⟩ := h
  refine ⟨hl, ?_⟩
  rcases h with h | ⟨g, cap, cur, e, hg, r⟩
  · exact .inl h
  · exact .inr ⟨g, cap, cur, e, Nat.le_trans hb hg, r⟩
theorem own_nilz (w : World) (B : Nat) : OwnI w B (.slice none 0 0) [] := World.ownsRow_nil _ _ _ _
end Go.Proofs.YthbofhlfggkolaaDoor
