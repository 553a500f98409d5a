/-
  Contracts of chapter 9: rises and draughts of airways; the model's and the program's. Conditions: those that each theorem states.
-/
import Derived.Test.YthbofhlfggkolaaDoorZb
import Derived.Test.YthbofhlfggkolaaDoorZr
namespace Go.Proofs.YthbofhlfggkolaaDoor
open Go.RowKit
set_option linter.unusedVariables false
set_option linter.unusedSimpArgs false

def draT (xs : List Aw) (lv tp : List Int) (k : Nat) : List Int := (List.range k).map (draR xs lv tp)
theorem draT_snoc (xs : List Aw) (lv tp : List Int) (k : Nat) : draT xs lv tp (k + 1) = draT xs lv tp k ++ [draR xs lv tp k] := by
  simp [draT, List.range_succ]
theorem draT_len (xs : List Aw) (lv tp : List Int) (k : Nat) : (draT xs lv tp k).length = k := by simp [draT]
def drR (J : Int) (xs : List Aw) (lv tp : List Int) : List Int := if askC J xs lv tp = 0 then draT xs lv tp xs.length else []
theorem drR_len (J : Int) (xs : List Aw) (lv tp : List Int) : (drR J xs lv tp).length ≤ xs.length := by unfold drR; split <;> simp [draT]
/-- The ends of an airway of a mine whose levels are right. -/
theorem ends_nat {J : Int} {xs : List Aw} {lv : List Int} (hok : mineOk J xs = true) (hlv : lvOk J lv = true) {k : Nat} (hk : k < xs.length) : ∃ fn tn : Nat, xs[k].f = fn ∧ xs[k].t = tn ∧ fn < lv.length ∧ tn < lv.length := by
  have h := ends_in hok hk
  have h2 := (lvOk_iff.1 hlv).1
  exact ⟨xs[k].f.toNat, xs[k].t.toNat, by omega, by omega, by omega, by omega⟩
theorem riR_eq {xs : List Aw} {lv : List Int} {k fn tn : Nat} (hk : k < xs.length) (hf : xs[k].f = fn) (ht : xs[k].t = tn) : riR xs lv k = lv.getD tn 0 - lv.getD fn 0 := by
  unfold riR
  rw [getD_of_lt hk, hf, ht]
  simp
end Go.Proofs.YthbofhlfggkolaaDoor
