/-
  Contracts of chapter 9: levels and temperatures of a mine; the model's and the program's. Conditions: those that each theorem states.
-/
import Derived.Test.YthbofhlfggkolaaDoorWa
import Derived.Test.YthbofhlfggkolaaDoorZa
import Derived.Test.YthbofhlfggkolaaDoorRg
namespace Go.Proofs.YthbofhlfggkolaaDoor
open Go.RowKit
set_option linter.unusedVariables false
set_option linter.unusedSimpArgs false

/-- A level for each junction. -/
def lvOk (J : Int) (lv : List Int) : Bool := decide ((lv.length : Int) = J) && allR (-3000) 3000 lv
theorem lvOk_iff {J : Int} {lv : List Int} : lvOk J lv = true ↔ (lv.length : Int) = J ∧ ∀ y ∈ lv, -3000 ≤ y ∧ y ≤ 3000 := by
  simp [lvOk, allR_iff]
/-- The code of a mine and levels; of a mine, levels and temperatures. -/
def rlB (J : Int) (xs : List Aw) (lv : List Int) : Int := if mineOk J xs then (if lvOk J lv then 0 else 7) else 1
def askC (J : Int) (xs : List Aw) (lv tp : List Int) : Int := if mineOk J xs then (if lvOk J lv && flOk (-300) 600 xs.length tp then 0 else 7) else 1
theorem rlB_ok {J : Int} {xs : List Aw} {lv : List Int} (h : rlB J xs lv = 0) : mineOk J xs = true ∧ lvOk J lv = true := by
  unfold rlB at h
  cases h1 : mineOk J xs <;> cases h2 : lvOk J lv <;> simp [h1, h2] at h ⊢
theorem askC_ok {J : Int} {xs : List Aw} {lv tp : List Int} (h : askC J xs lv tp = 0) : mineOk J xs = true ∧ lvOk J lv = true ∧ flOk (-300) 600 xs.length tp = true := by
  unfold askC at h
  cases h1 : mineOk J xs <;> cases h2 : lvOk J lv <;> cases h3 : flOk (-300) 600 xs.length tp <;> simp [h1, h2, h3] at h ⊢
/-- How far an airway rises. -/
def riR (xs : List Aw) (lv : List Int) (k : Nat) : Int := lv.getD (xs.getD k Aw.none).t.toNat 0 - lv.getD (xs.getD k Aw.none).f.toNat 0
/-- The draught of an airway. -/
def draR (xs : List Aw) (lv tp : List Int) (k : Nat) : Int := colR (riR xs lv k) (tp.getD k 0)
theorem lv_bd {J : Int} {lv : List Int} (h : lvOk J lv = true) (j : Nat) : -3000 ≤ lv.getD j 0 ∧ lv.getD j 0 ≤ 3000 := by
  by_cases hj : j < lv.length
  · rw [show lv.getD j 0 = lv[j] by simp [List.getD, hj]]; exact (lvOk_iff.1 h).2 _ (List.getElem_mem hj)
  · rw [show lv.getD j 0 = 0 by simp [List.getD, hj]]; omega
theorem riR_bd {J : Int} {xs : List Aw} {lv : List Int} (h : lvOk J lv = true) (k : Nat) : -6000 ≤ riR xs lv k ∧ riR xs lv k ≤ 6000 := by
  have a := lv_bd h (xs.getD k Aw.none).t.toNat
  have b := lv_bd h (xs.getD k Aw.none).f.toNat
  unfold riR
  omega
theorem tp_bd {n : Nat} {tp : List Int} (h : flOk (-300) 600 n tp = true) {k : Nat} (hk : k < n) : -300 ≤ tp.getD k 0 ∧ tp.getD k 0 ≤ 600 := by
  obtain ⟨a, b⟩ := flOk_iff.1 h
  rw [show tp.getD k 0 = tp[k] by simp [List.getD, show k < tp.length by omega]]
  exact b _ (List.getElem_mem _)
end Go.Proofs.YthbofhlfggkolaaDoor
