/-
  Contracts of lists of numbers that are read, chapter 1: the model's. Conditions: those that each theorem states.
-/
import Derived.Test.YtoojndohddellaaGreatDoorNe
import Derived.Test.YtoojndohddellaaGreatDoorSa
namespace Go.Proofs.YtoojndohddellaaGreatDoor
open Go.RowKit
set_option linter.unusedVariables false
set_option linter.unusedSimpArgs false

theorem ret_lp {v : Value} {b b' : Bool} (h : b = b') : Ending.returned (.tuple #[v, .bool b]) = .returned (.tuple #[v, .bool b']) := by rw [h]
def nums (ps : List ByteArray) : List Int := ps.map fun p => numV p.data.toList
theorem nums_snoc {ps : List ByteArray} {k : Nat} (h : k < ps.length) : nums (ps.take (k + 1)) = nums (ps.take k) ++ [numV ps[k].data.toList] := by
  unfold nums; rw [List.take_succ_eq_append_getElem h, List.map_append]; rfl
def items (ps : List ByteArray) : Bool := (ps.map (·.data.toList)).all itemB
theorem items_snoc {ps : List ByteArray} {k : Nat} (h : k < ps.length) : items (ps.take (k + 1)) = (items (ps.take k) && itemB ps[k].data.toList) := by
  unfold items; rw [List.take_succ_eq_append_getElem h, List.map_append, List.all_append]; simp
theorem own_str_cell {w wr : World} {B g n cap : Nat} {ps : List ByteArray} {B0 : Nat} (h : w.ownsRow B0 9 1 (.slice (some ⟨g, 0, none⟩) n cap) n (strsN ps)) (hn : n = ps.length) (hg : g < w.heap.size) (hb : Below w.heap.size w wr) {k : Nat} (hk : k < ps.length) :
    wr.cell? ⟨g, k, none⟩ = some (.string ps[k]) := by
  rw [hb.cell (p := ⟨g, k, none⟩) hg, h.cellAt k (by omega)]
  unfold strsN
  rw [List.getElem?_map, List.getElem?_eq_getElem hk]; rfl
theorem itemB_no {p : List UInt8} (h : numB p = false) : itemB p = false := by unfold itemB; rw [h, Bool.false_and]
theorem itemB_in {p : List UInt8} (h : numB p = true) : itemB p = inB (numV p) (-1000000000000) 1000000000000 := by unfold itemB inB; rw [h, Bool.true_and]
theorem get_list {ps : List ByteArray} {L : List (List UInt8)} (h : ps.map (·.data.toList) = L) {k : Nat} (hk : k < ps.length) : ∃ hk' : k < L.length, L[k] = ps[k].data.toList := by
  subst h
  exact ⟨by simpa using hk, by simp⟩
theorem nums_list {ps : List ByteArray} {L : List (List UInt8)} (h : ps.map (·.data.toList) = L) : nums ps = L.map numV := by
  subst h; unfold nums; rw [List.map_map]; rfl
theorem dash_eq {s : ByteArray} (h : s.data.toList = [45]) : s = ⟨#[45]⟩ := by
  cases s with | mk d => cases d with | mk l => simp at h; subst h; rfl
theorem own_base {w : World} {B B' : Nat} {e : TypeId} {size n : Nat} {v : Value} {xs : List Value} (h : w.ownsRow B' e size v n xs) (hb : B ≤ B') : w.ownsRow B e size v n xs := by
  refine ⟨h.1, ?_⟩
  rcases h.2 with h | ⟨g, cap, cur, h1, h2, h3⟩
  · exact .inl h
  · exact .inr ⟨g, cap, cur, h1, Nat.le_trans hb h2, h3⟩
end Go.Proofs.YtoojndohddellaaGreatDoor
