/-
  Slices of Ducts: the laws' sizes, copies, comparisons. Conditions: those that each theorem states.
-/
import Derived.Test.YtoojndohddellaaDoorMa
import Derived.Test.YtoojndohddellaaDoorGc
import Derived.Laws.Cover1
import Derived.Deep.RegionWith
namespace Go.Proofs.YtoojndohddellaaDoor
open Go.RowKit
set_option linter.unusedVariables false
set_option linter.unusedSimpArgs false

/-- What is left of a size behind texts. -/
def szGoDu (left : Int) : List Du → Int
  | [] => left
  | a :: r => if left - a.s.size < 0 then -1 else szGoDu (left - a.s.size) r
def szLDu (left : Int) (xs : List Du) : Int := if left - xs.length < 0 then -1 else szGoDu (left - xs.length) xs
theorem szGoDu_le : ∀ (xs : List Du) (left : Int), 0 ≤ left → -1 ≤ szGoDu left xs ∧ szGoDu left xs ≤ left
  | [], left, h => ⟨by simp only [szGoDu]; omega, Int.le_refl _⟩
  | a :: r, left, h => by
    simp only [szGoDu]
    split
    · omega
    · have := szGoDu_le r (left - a.s.size) (by omega); omega
theorem szLDu_le {left : Int} {xs : List Du} (h0 : 0 ≤ left) : -1 ≤ szLDu left xs ∧ szLDu left xs ≤ left := by
  unfold szLDu
  split
  · omega
  · have := szGoDu_le xs (left - xs.length) (by omega); omega
theorem szLDu_bd {left : Int} {xs : List Du} (h0 : 0 ≤ left) (h : 0 ≤ szLDu left xs) : (xs.length : Int) ≤ left ∧ ∀ a ∈ xs, (a.s.size : Int) ≤ left := by
  unfold szLDu at h
  split at h
  · omega
  · rename_i hl
    refine ⟨by omega, ?_⟩
    have key : ∀ (xs : List Du) (left : Int), 0 ≤ left → 0 ≤ szGoDu left xs → ∀ a ∈ xs, (a.s.size : Int) ≤ left := by
      intro xs
      induction xs with
      | nil => intro _ _ _ a ha; cases ha
      | cons x r ih =>
        intro left h0 h a ha
        simp only [szGoDu] at h
        split at h
        · omega
        · rcases List.mem_cons.1 ha with rfl | ha
          · omega
          · have := ih _ (by omega) h a ha; omega
    intro a ha
    have := key xs _ (by omega) h a ha
    omega
theorem szDuct_any (s : ByteArray) (l : Int) (j : Int) (lo : Int) (left : Int) (w : World) (hm : s.size ≤ maxLen) (h0 : 0 ≤ left ∧ left ≤ 1048576) :
    Calls Tryd.prog 5 #[.agg #[.string s, .int .i64 l, .int .i64 j, .int .i64 lo], .int .i64 left] w fun e w' => e = .returned (.int .i64 (if left - s.size < 0 then -1 else left - s.size)) ∧ Below w.heap.size w w' := by
  unfold maxLen at hm
  by_cases h : left - s.size < 0
  · rw [if_pos h]
    go_enter Tryd.func5, Tryd.ntmps5
    go_wp2
    go_ret
    exact ⟨rfl, below_box _ _⟩
  · rw [if_neg h]
    go_enter Tryd.func5, Tryd.ntmps5
    go_wp2
    go_ret
    exact ⟨rfl, below_box _ _⟩
theorem toDuct_any (s : ByteArray) (l : Int) (j : Int) (lo : Int) (w : World) :
    Calls Tryd.prog 7 #[.agg #[.string s, .int .i64 l, .int .i64 j, .int .i64 lo]] w fun e w' => e = .returned (.agg #[.string s, .int .i64 l, .int .i64 j, .int .i64 lo]) ∧ Below w.heap.size w w' := by
  go_enter Tryd.func7, Tryd.ntmps7
  go_wp2
  refine bodyPost_ret (v := .agg #[.string s, .int .i64 l, .int .i64 j, .int .i64 lo]) (by simp [results, Tryd.results7, go_sem]) rfl ⟨rfl, ?_⟩
  exact (by repeat (first | (with_reducible exact Below.refl _ _) | (with_reducible refine below_drewN' ?_ _) | (with_reducible refine Below.drew ?_) | (with_reducible refine Below.alloc ?_ (by simp <;> omega) _) | (with_reducible refine Below.setCell ?_ (by simp) _)))
theorem eqDuct_same (s : ByteArray) (l : Int) (j : Int) (lo : Int) (w : World) :
    Calls Tryd.prog 11 #[.agg #[.string s, .int .i64 l, .int .i64 j, .int .i64 lo], .agg #[.string s, .int .i64 l, .int .i64 j, .int .i64 lo]] w fun e w' => e = .returned (.bool true) ∧ Below w.heap.size w w' := by
  go_enter Tryd.func11, Tryd.ntmps11
  go_wp2
  go_ret
  exact ⟨rfl, (by repeat (first | (with_reducible exact Below.refl _ _) | (with_reducible refine below_drewN' ?_ _) | (with_reducible refine Below.alloc ?_ (by simp <;> omega) _) | (with_reducible refine Below.setCell ?_ (by simp) _)))⟩
theorem szDuct_small (s : ByteArray) (l : Int) (j : Int) (lo : Int) (w : World) (hs : s.size ≤ 1048576) :
    Calls Tryd.prog 5 #[.agg #[.string s, .int .i64 l, .int .i64 j, .int .i64 lo], .int .i64 1048576] w fun e w' => e = .returned (.int .i64 (1048576 - s.size)) ∧ Below w.heap.size w w' := by
  have h := szDuct_any s l j lo 1048576 w (by unfold maxLen; omega) (by omega)
  rwa [if_neg (by omega)] at h
theorem szDuct_big (s : ByteArray) (l : Int) (j : Int) (lo : Int) (w : World) (hs : 1048576 < s.size) (hm : s.size ≤ maxLen) :
    Calls Tryd.prog 5 #[.agg #[.string s, .int .i64 l, .int .i64 j, .int .i64 lo], .int .i64 1048576] w fun e w' => e = .returned (.int .i64 (-1)) ∧ Below w.heap.size w w' := by
  have h := szDuct_any s l j lo 1048576 w hm (by omega)
  rwa [if_pos (by omega)] at h
theorem info_du : (Tryd.prog.info? 26).map (fun i => (i.zero, i.size, decide (i.bytes ≤ 1000))) = some (some (.agg Du.none.cells.toArray), 4, true) := by kernel_rfl
theorem info_du2 : ∃ i0, Tryd.prog.info? 26 = some i0 ∧ i0.zero = some (.agg Du.none.cells.toArray) ∧ i0.size = 4 ∧ i0.bytes ≤ 1000 := by
  have h := info_du
  cases hi : Tryd.prog.info? 26 with
  | none => rw [hi] at h; cases h
  | some i =>
    rw [hi] at h
    simp only [Option.map_some, Option.some.injEq, Prod.mk.injEq, decide_eq_true_eq] at h
    exact ⟨i, rfl, h.1, h.2.1, h.2.2⟩
end Go.Proofs.YtoojndohddellaaDoor
