/-
  Slices of Dustings: the laws' sizes, copies, comparisons. Conditions: those that each theorem states.
-/
import Derived.Test.YtnlkikdgffaeeaaDoorTka
import Derived.Test.YtnlkikdgffaeeaaDoorGq
import Derived.Laws.Cover1
import Derived.Deep.RegionWith
namespace Go.Proofs.YtnlkikdgffaeeaaDoor
open Go.RowKit
set_option linter.unusedVariables false
set_option linter.unusedSimpArgs false

/-- What is left of a size. -/
def szLTk (left : Int) (xs : List Tk) : Int := if left - xs.length < 0 then -1 else left - xs.length
theorem szLTk_le {left : Int} {xs : List Tk} (h0 : 0 ≤ left) : -1 ≤ szLTk left xs ∧ szLTk left xs ≤ left := by
  unfold szLTk
  split <;> omega
theorem szLTk_bd {left : Int} {xs : List Tk} (h0 : 0 ≤ left) (h : 0 ≤ szLTk left xs) : (xs.length : Int) ≤ left ∧ True := by
  unfold szLTk at h
  split at h
  · omega
  · exact ⟨by omega, trivial⟩
theorem toDusting_any (aw : Int) (fr : Int) (un : Int) (du : Int) (w : World) :
    Calls Tryd.prog 6 #[.agg #[.int .i64 aw, .int .i64 fr, .int .i64 un, .int .i64 du]] w fun e w' => e = .returned (.agg #[.int .i64 aw, .int .i64 fr, .int .i64 un, .int .i64 du]) ∧ Below w.heap.size w w' := by
  go_enter Tryd.func6, Tryd.ntmps6
  go_wp2
  refine bodyPost_ret (v := .agg #[.int .i64 aw, .int .i64 fr, .int .i64 un, .int .i64 du]) (by simp [results, Tryd.results6, go_sem]) rfl ⟨rfl, ?_⟩
  exact (by repeat (first | (with_reducible exact Below.refl _ _) | (with_reducible refine below_drewN' ?_ _) | (with_reducible refine Below.drew ?_) | (with_reducible refine Below.alloc ?_ (by simp <;> omega) _) | (with_reducible refine Below.setCell ?_ (by simp) _)))
theorem eqDusting_same (aw : Int) (fr : Int) (un : Int) (du : Int) (w : World) :
    Calls Tryd.prog 10 #[.agg #[.int .i64 aw, .int .i64 fr, .int .i64 un, .int .i64 du], .agg #[.int .i64 aw, .int .i64 fr, .int .i64 un, .int .i64 du]] w fun e w' => e = .returned (.bool true) ∧ Below w.heap.size w w' := by
  go_enter Tryd.func10, Tryd.ntmps10
  go_wp2
  go_ret
  exact ⟨rfl, (by repeat (first | (with_reducible exact Below.refl _ _) | (with_reducible refine below_drewN' ?_ _) | (with_reducible refine Below.alloc ?_ (by simp <;> omega) _) | (with_reducible refine Below.setCell ?_ (by simp) _)))⟩
theorem info_tk : (Tryd.prog.info? 25).map (fun i => (i.zero, i.size, decide (i.bytes ≤ 1000))) = some (some (.agg Tk.none.cells.toArray), 4, true) := by kernel_rfl
theorem info_tk2 : ∃ i0, Tryd.prog.info? 25 = some i0 ∧ i0.zero = some (.agg Tk.none.cells.toArray) ∧ i0.size = 4 ∧ i0.bytes ≤ 1000 := by
  have h := info_tk
  cases hi : Tryd.prog.info? 25 with
  | none => rw [hi] at h; cases h
  | some i =>
    rw [hi] at h
    simp only [Option.map_some, Option.some.injEq, Prod.mk.injEq, decide_eq_true_eq] at h
    exact ⟨i, rfl, h.1, h.2.1, h.2.2⟩
end Go.Proofs.YtnlkikdgffaeeaaDoor
