/-
  Slices of Doors: the laws' sizes, copies, comparisons. Conditions: those that each theorem states.
-/
import Derived.Test.YtddfhjolimkkmaaDoorJa
import Derived.Test.YtddfhjolimkkmaaDoorGc
import Derived.Laws.Cover1
import Derived.Deep.RegionWith
namespace Go.Proofs.YtddfhjolimkkmaaDoor
open Go.RowKit
set_option linter.unusedVariables false
set_option linter.unusedSimpArgs false

/-- What is left of a size behind texts. -/
def szGoDo (left : Int) : List Do → Int
  | [] => left
  | a :: r => if left - a.s.size < 0 then -1 else szGoDo (left - a.s.size) r
def szLDo (left : Int) (xs : List Do) : Int := if left - xs.length < 0 then -1 else szGoDo (left - xs.length) xs
theorem szGoDo_le : ∀ (xs : List Do) (left : Int), 0 ≤ left → -1 ≤ szGoDo left xs ∧ szGoDo left xs ≤ left
  | [], left, h => ⟨by simp only [szGoDo]; omega, Int.le_refl _⟩
  | a :: r, left, h => by
    simp only [szGoDo]
    split
    · omega
    · have := szGoDo_le r (left - a.s.size) (by omega); omega
theorem szLDo_le {left : Int} {xs : List Do} (h0 : 0 ≤ left) : -1 ≤ szLDo left xs ∧ szLDo left xs ≤ left := by
  unfold szLDo
  split
  · omega
  · have := szGoDo_le xs (left - xs.length) (by omega); omega
theorem szLDo_bd {left : Int} {xs : List Do} (h0 : 0 ≤ left) (h : 0 ≤ szLDo left xs) : (xs.length : Int) ≤ left ∧ ∀ a ∈ xs, (a.s.size : Int) ≤ left := by
  unfold szLDo at h
  split at h
  · omega
  · rename_i hl
    refine ⟨by omega, ?_⟩
    have key : ∀ (xs : List Do) (left : Int), 0 ≤ left → 0 ≤ szGoDo left xs → ∀ a ∈ xs, (a.s.size : Int) ≤ left := by
      intro xs
      induction xs with
      | nil => intro _ _ _ a ha; cases ha
      | cons x r ih =>
        intro left h0 h a ha
        simp only [szGoDo] at h
        split at h
        · omega
        · rcases List.mem_cons.1 ha with rfl | ha
          · omega
          · have := ih _ (by omega) h a ha; omega
    intro a ha
    have := key xs _ (by omega) h a ha
    omega
theorem szDoor_any (s : ByteArray) (a : Int) (op : Int) (sh : Int) (left : Int) (w : World) (hm : s.size ≤ maxLen) (h0 : 0 ≤ left ∧ left ≤ 1048576) :
    Calls Tryd.prog 5 #[.agg #[.string s, .int .i64 a, .int .i64 op, .int .i64 sh], .int .i64 left] w fun e w' => e = .returned (.int .i64 (if left - s.size < 0 then -1 else left - s.size)) ∧ Below w.heap.size w w' := by
  unfold maxLen at hm
  by_cases h : left - s.size < 0
  · rw [if_pos h]
    go_enter Tryd.func5, Tryd.ntmps5
    go_wp2
    go_ret
    exact ⟨rfl, below_box _ _⟩
  · rw [if_neg h]
    go_enter Tryd.func5, Tryd.ntmps5
    go_wp2
    go_ret
    exact ⟨rfl, below_box _ _⟩
theorem toDoor_any (s : ByteArray) (a : Int) (op : Int) (sh : Int) (w : World) :
    Calls Tryd.prog 7 #[.agg #[.string s, .int .i64 a, .int .i64 op, .int .i64 sh]] w fun e w' => e = .returned (.agg #[.string s, .int .i64 a, .int .i64 op, .int .i64 sh]) ∧ Below w.heap.size w w' := by
  go_enter Tryd.func7, Tryd.ntmps7
  go_wp2
  refine bodyPost_ret (v := .agg #[.string s, .int .i64 a, .int .i64 op, .int .i64 sh]) (by simp [results, Tryd.results7, go_sem]) rfl ⟨rfl, ?_⟩
  exact (by repeat (first | (with_reducible exact Below.refl _ _) | (with_reducible refine below_drewN' ?_ _) | (with_reducible refine Below.drew ?_) | (with_reducible refine Below.alloc ?_ (by simp <;> omega) _) | (with_reducible refine Below.setCell ?_ (by simp) _)))
theorem eqDoor_same (s : ByteArray) (a : Int) (op : Int) (sh : Int) (w : World) :
    Calls Tryd.prog 11 #[.agg #[.string s, .int .i64 a, .int .i64 op, .int .i64 sh], .agg #[.string s, .int .i64 a, .int .i64 op, .int .i64 sh]] w fun e w' => e = .returned (.bool true) ∧ Below w.heap.size w w' := by
  go_enter Tryd.func11, Tryd.ntmps11
  go_wp2
  go_ret
  exact ⟨rfl, (by repeat (first | (with_reducible exact Below.refl _ _) | (with_reducible refine below_drewN' ?_ _) | (with_reducible refine Below.alloc ?_ (by simp <;> omega) _) | (with_reducible refine Below.setCell ?_ (by simp) _)))⟩
theorem szDoor_small (s : ByteArray) (a : Int) (op : Int) (sh : Int) (w : World) (hs : s.size ≤ 1048576) :
    Calls Tryd.prog 5 #[.agg #[.string s, .int .i64 a, .int .i64 op, .int .i64 sh], .int .i64 1048576] w fun e w' => e = .returned (.int .i64 (1048576 - s.size)) ∧ Below w.heap.size w w' := by
  have h := szDoor_any s a op sh 1048576 w (by unfold maxLen; omega) (by omega)
  rwa [if_neg (by omega)] at h
theorem szDoor_big (s : ByteArray) (a : Int) (op : Int) (sh : Int) (w : World) (hs : 1048576 < s.size) (hm : s.size ≤ maxLen) :
    Calls Tryd.prog 5 #[.agg #[.string s, .int .i64 a, .int .i64 op, .int .i64 sh], .int .i64 1048576] w fun e w' => e = .returned (.int .i64 (-1)) ∧ Below w.heap.size w w' := by
  have h := szDoor_any s a op sh 1048576 w hm (by omega)
  rwa [if_pos (by omega)] at h
theorem info_do : (Tryd.prog.info? 26).map (fun i => (i.zero, i.size, decide (i.bytes ≤ 1000))) = some (some (.agg Do.none.cells.toArray), 4, true) := by kernel_rfl
theorem info_do2 : ∃ i0, Tryd.prog.info? 26 = some i0 ∧ i0.zero = some (.agg Do.none.cells.toArray) ∧ i0.size = 4 ∧ i0.bytes ≤ 1000 := by
  have h := info_do
  cases hi : Tryd.prog.info? 26 with
  | none => rw [hi] at h; cases h
  | some i =>
    rw [hi] at h
    simp only [Option.map_some, Option.some.injEq, Prod.mk.injEq, decide_eq_true_eq] at h
    exact ⟨i, rfl, h.1, h.2.1, h.2.2⟩
end Go.Proofs.YtddfhjolimkkmaaDoor
