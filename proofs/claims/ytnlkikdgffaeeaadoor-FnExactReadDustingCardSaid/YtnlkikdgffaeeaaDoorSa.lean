/-
  Contracts of the laws' helpers on slices of int64 (copies, comparisons). Conditions: those that each theorem states.
-/
import Derived.Test.YtnlkikdgffaeeaaDoorBa
import Derived.Laws.OwnMore
import Derived.Deep.AppendLies
import Derived.Deep.OwnRows
import Derived.OwnWalk
import Derived.WalkSmall
namespace Go.Proofs.YtnlkikdgffaeeaaDoor
open Go.RowKit
set_option linter.unusedVariables false

theorem info_i64 : (Tryd.prog.info? 2).map (fun i => (i.zero, i.size, i.bytes)) = some (some (.int .i64 0), 1, 8) := by kernel_rfl
theorem Row.cell {k : IntKind} {w : World} {xs : List Int} {A : Option Addr} {n cap : Nat} (h : Row k w (.slice A n cap) xs) {j : Nat} (hj : j < xs.length) :
    ∃ b off, A = some ⟨b, off, none⟩ ∧ n = xs.length ∧ w.cell? ⟨b, off + j, none⟩ = some (.int k (xs.getD j 0)) := by
  rcases h with ⟨rfl, _⟩ | ⟨b, off, c, e, hc⟩
  · simp at hj
  · injection e with e1 e2 e3
    subst e1 e2
    exact ⟨b, off, rfl, rfl, hc j hj⟩
theorem Row.below {k : IntKind} {w w' : World} {v : Value} {xs : List Int} (h : Row k w v xs) (hb : Below w.heap.size w w') : Row k w' v xs := by
  rcases h with h | ⟨b, off, c, rfl, hc⟩
  · exact Or.inl h
  · refine Or.inr ⟨b, off, c, rfl, fun j hj => ?_⟩
    have := hc j hj
    rw [hb.cell (p := ⟨b, off + j, none⟩) (World.block_lt_of_cell? (a := ⟨b, off + j, none⟩) _ this)]
    exact this
/-- As Row, but an empty slice may be any one. -/
def RowW (k : IntKind) (w : World) (v : Value) (xs : List Int) : Prop :=
  ∃ A cap, v = .slice A xs.length cap ∧ ∀ j, j < xs.length → ∃ b off, A = some ⟨b, off, none⟩ ∧ w.cell? ⟨b, off + j, none⟩ = some (.int k (xs.getD j 0))
theorem RowW.of_row {k : IntKind} {w : World} {v : Value} {xs : List Int} (h : Row k w v xs) : RowW k w v xs := by
  rcases h with ⟨rfl, rfl⟩ | ⟨b, off, c, rfl, hc⟩
  · exact ⟨none, 0, rfl, fun j hj => absurd hj (by simp)⟩
  · exact ⟨_, c, rfl, fun j hj => ⟨b, off, rfl, hc j hj⟩⟩
theorem RowW.cell {k : IntKind} {w : World} {xs : List Int} {A : Option Addr} {n cap : Nat} (h : RowW k w (.slice A n cap) xs) {j : Nat} (hj : j < xs.length) :
    ∃ b off, A = some ⟨b, off, none⟩ ∧ n = xs.length ∧ w.cell? ⟨b, off + j, none⟩ = some (.int k (xs.getD j 0)) := by
  obtain ⟨A', c', e, hc⟩ := h
  injection e with e1 e2 e3
  subst e1 e2 e3
  obtain ⟨b, off, e, h⟩ := hc j hj
  exact ⟨b, off, e, rfl, h⟩
theorem RowW.below {k : IntKind} {w w' : World} {v : Value} {xs : List Int} (h : RowW k w v xs) (hb : Below w.heap.size w w') : RowW k w' v xs := by
  obtain ⟨A, c, rfl, hc⟩ := h
  refine ⟨A, c, rfl, fun j hj => ?_⟩
  obtain ⟨b, off, e, h⟩ := hc j hj
  refine ⟨b, off, e, ?_⟩
  rw [hb.cell (p := ⟨b, off + j, none⟩) (World.block_lt_of_cell? (a := ⟨b, off + j, none⟩) _ h)]
  exact h
def intsV (l : List Int) : List Value := l.map (Value.int .i64)
theorem Row.of_own {w : World} {B g n cap : Nat} {xs : List Int} (h : w.ownsRow B 2 1 (.slice (some ⟨g, 0, none⟩) n cap) n (intsV xs)) : Row .i64 w (.slice (some ⟨g, 0, none⟩) n cap) xs := by
  have hl : n = xs.length := by have := h.1; simpa [intsV] using this.symm
  subst hl
  refine Or.inr ⟨g, 0, cap, rfl, fun j hj => ?_⟩
  rw [Nat.zero_add, h.cellAt j (by omega)]
  simp [intsV, List.getElem?_eq_getElem hj]
theorem take_set {xs : List Int} {k : Nat} (hk : k < xs.length) (z : Int) (hz : z = xs[k]) :
    (intsV (xs.take k ++ List.replicate (xs.length - k) 0)).set k (.int .i64 z) = intsV (xs.take (k + 1) ++ List.replicate (xs.length - (k + 1)) 0) := by
  subst hz
  unfold intsV
  rw [← List.map_set, List.set_append_right _ _ (by simp; omega), List.length_take, Nat.min_eq_left (by omega), Nat.sub_self]
  congr 1
  rw [show xs.length - k = (xs.length - (k + 1)) + 1 by omega, List.replicate_succ, List.set_cons_zero, List.take_succ_eq_append_getElem hk, List.append_assoc]
  rfl

theorem Row.form {k : IntKind} {w : World} {v : Value} {xs : List Int} (hv : Row k w v xs) : ∃ A cap, v = .slice A xs.length cap := by
  rcases hv with ⟨rfl, rfl⟩ | ⟨b, off, c, rfl, _⟩
  · exact ⟨_, _, rfl⟩
  · exact ⟨_, _, rfl⟩
/-- Whether a list has a text. -/
def fitsL (xs : List Int) : Bool := decide (∀ y ∈ xs, -1000000000000 ≤ y ∧ y ≤ 1000000000000) && decide (xs.length ≤ 64)
theorem own_below {w w' : World} {B e size n : Nat} {v : Value} {xs : List Value} (h : w.ownsRow B e size v n xs) (hb : Below w.heap.size w w') : w'.ownsRow B e size v n xs := by
  rcases h with ⟨h1, h2 | ⟨g, cap, cur, rfl, hg, hh, r⟩⟩
  · exact ⟨h1, Or.inl h2⟩
  · refine ⟨h1, Or.inr ⟨g, cap, cur, rfl, hg, ?_, r⟩⟩
    rw [hb.block g ?_]
    · exact hh
    · rcases Nat.lt_or_ge g w.heap.size with q | q
      · exact q
      · rw [Array.getElem?_eq_none q] at hh; cases hh
end Go.Proofs.YtnlkikdgffaeeaaDoor
