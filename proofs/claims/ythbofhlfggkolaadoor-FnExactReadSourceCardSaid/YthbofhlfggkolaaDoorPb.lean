/-
  Slices of Sources: the laws' sizes, copies, comparisons. Conditions: those that each theorem states.
-/
import Derived.Test.YthbofhlfggkolaaDoorPa
import Derived.Test.YthbofhlfggkolaaDoorGc
import Derived.Laws.Cover1
import Derived.Deep.RegionWith
namespace Go.Proofs.YthbofhlfggkolaaDoor
open Go.RowKit
set_option linter.unusedVariables false
set_option linter.unusedSimpArgs false

/-- What is left of a size behind texts. -/
def szGoSo (left : Int) : List So → Int
  | [] => left
  | a :: r => if left - a.s.size < 0 then -1 else szGoSo (left - a.s.size) r
def szLSo (left : Int) (xs : List So) : Int := if left - xs.length < 0 then -1 else szGoSo (left - xs.length) xs
theorem szGoSo_le : ∀ (xs : List So) (left : Int), 0 ≤ left → -1 ≤ szGoSo left xs ∧ szGoSo left xs ≤ left
  | [], left, h => ⟨by simp only [szGoSo]; omega, Int.le_refl _⟩
  | a :: r, left, h => by
    simp only [szGoSo]
    split
    · omega
    · have := szGoSo_le r (left - a.s.size) (by omega); omega
theorem szLSo_le {left : Int} {xs : List So} (h0 : 0 ≤ left) : -1 ≤ szLSo left xs ∧ szLSo left xs ≤ left := by
  unfold szLSo
  split
  · omega
  · have := szGoSo_le xs (left - xs.length) (by omega); omega
theorem szLSo_bd {left : Int} {xs : List So} (h0 : 0 ≤ left) (h : 0 ≤ szLSo left xs) : (xs.length : Int) ≤ left ∧ ∀ a ∈ xs, (a.s.size : Int) ≤ left := by
  unfold szLSo at h
  split at h
  · omega
  · rename_i hl
    refine ⟨by omega, ?_⟩
    have key : ∀ (xs : List So) (left : Int), 0 ≤ left → 0 ≤ szGoSo left xs → ∀ a ∈ xs, (a.s.size : Int) ≤ left := by
      intro xs
      induction xs with
      | nil => intro _ _ _ a ha; cases ha
      | cons x r ih =>
        intro left h0 h a ha
        simp only [szGoSo] at h
        split at h
        · omega
        · rcases List.mem_cons.1 ha with rfl | ha
          · omega
          · have := ih _ (by omega) h a ha; omega
    intro a ha
    have := key xs _ (by omega) h a ha
    omega
theorem szSource_any (s : ByteArray) (a : Int) (r : Int) (left : Int) (w : World) (hm : s.size ≤ maxLen) (h0 : 0 ≤ left ∧ left ≤ 1048576) :
    Calls Tryd.prog 8 #[.agg #[.string s, .int .i64 a, .int .i64 r], .int .i64 left] w fun e w' => e = .returned (.int .i64 (if left - s.size < 0 then -1 else left - s.size)) ∧ Below w.heap.size w w' := by
  unfold maxLen at hm
  by_cases h : left - s.size < 0
  · rw [if_pos h]
    go_enter Tryd.func8, Tryd.ntmps8
    go_wp2
    go_ret
    exact ⟨rfl, below_box _ _⟩
  · rw [if_neg h]
    go_enter Tryd.func8, Tryd.ntmps8
    go_wp2
    go_ret
    exact ⟨rfl, below_box _ _⟩
theorem toSource_any (s : ByteArray) (a : Int) (r : Int) (w : World) :
    Calls Tryd.prog 10 #[.agg #[.string s, .int .i64 a, .int .i64 r]] w fun e w' => e = .returned (.agg #[.string s, .int .i64 a, .int .i64 r]) ∧ Below w.heap.size w w' := by
  go_enter Tryd.func10, Tryd.ntmps10
  go_wp2
  refine bodyPost_ret (v := .agg #[.string s, .int .i64 a, .int .i64 r]) (by simp [results, Tryd.results10, go_sem]) rfl ⟨rfl, ?_⟩
  exact (by repeat (first | (with_reducible exact Below.refl _ _) | (with_reducible refine below_drewN' ?_ _) | (with_reducible refine Below.drew ?_) | (with_reducible refine Below.alloc ?_ (by simp <;> omega) _) | (with_reducible refine Below.setCell ?_ (by simp) _)))
theorem eqSource_same (s : ByteArray) (a : Int) (r : Int) (w : World) :
    Calls Tryd.prog 14 #[.agg #[.string s, .int .i64 a, .int .i64 r], .agg #[.string s, .int .i64 a, .int .i64 r]] w fun e w' => e = .returned (.bool true) ∧ Below w.heap.size w w' := by
  go_enter Tryd.func14, Tryd.ntmps14
  go_wp2
  go_ret
  exact ⟨rfl, (by repeat (first | (with_reducible exact Below.refl _ _) | (with_reducible refine below_drewN' ?_ _) | (with_reducible refine Below.alloc ?_ (by simp <;> omega) _) | (with_reducible refine Below.setCell ?_ (by simp) _)))⟩
theorem szSource_small (s : ByteArray) (a : Int) (r : Int) (w : World) (hs : s.size ≤ 1048576) :
    Calls Tryd.prog 8 #[.agg #[.string s, .int .i64 a, .int .i64 r], .int .i64 1048576] w fun e w' => e = .returned (.int .i64 (1048576 - s.size)) ∧ Below w.heap.size w w' := by
  have h := szSource_any s a r 1048576 w (by unfold maxLen; omega) (by omega)
  rwa [if_neg (by omega)] at h
theorem szSource_big (s : ByteArray) (a : Int) (r : Int) (w : World) (hs : 1048576 < s.size) (hm : s.size ≤ maxLen) :
    Calls Tryd.prog 8 #[.agg #[.string s, .int .i64 a, .int .i64 r], .int .i64 1048576] w fun e w' => e = .returned (.int .i64 (-1)) ∧ Below w.heap.size w w' := by
  have h := szSource_any s a r 1048576 w hm (by omega)
  rwa [if_pos (by omega)] at h
theorem info_so : (Tryd.prog.info? 26).map (fun i => (i.zero, i.size, decide (i.bytes ≤ 1000))) = some (some (.agg So.none.cells.toArray), 3, true) := by kernel_rfl
theorem info_so2 : ∃ i0, Tryd.prog.info? 26 = some i0 ∧ i0.zero = some (.agg So.none.cells.toArray) ∧ i0.size = 3 ∧ i0.bytes ≤ 1000 := by
  have h := info_so
  cases hi : Tryd.prog.info? 26 with
  | none => rw [hi] at h; cases h
  | some i =>
    rw [hi] at h
    simp only [Option.map_some, Option.some.injEq, Prod.mk.injEq, decide_eq_true_eq] at h
    exact ⟨i, rfl, h.1, h.2.1, h.2.2⟩
end Go.Proofs.YthbofhlfggkolaaDoor
