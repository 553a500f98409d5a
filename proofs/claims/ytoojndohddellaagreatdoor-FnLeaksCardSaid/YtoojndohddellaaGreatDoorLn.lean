/-
  Texts of a Duct that are read: plain mathematics, and the model's contract. Conditions: those that each theorem states.
-/
import Derived.Test.YtoojndohddellaaGreatDoorNl
import Derived.Test.YtoojndohddellaaGreatDoorNf
import Derived.Test.YtoojndohddellaaGreatDoorRg
import Derived.Test.YtoojndohddellaaGreatDoorLa
import Derived.Test.YtoojndohddellaaGreatDoorNh
namespace Go.Proofs.YtoojndohddellaaGreatDoor
open Go.RowKit
set_option linter.unusedVariables false
set_option linter.unusedSimpArgs false

/-- Whether a text is that of a Duct, and its name and its numbers (empty, 0 if it is not). -/
def ctRd (d : List UInt8) : Bool := listB (cutN d) && ((listV (cutN d)).length == 3 && duOk (cutA d) ((listV (cutN d)).getD 0 0) ((listV (cutN d)).getD 1 0) ((listV (cutN d)).getD 2 0))
def ctS (d : List UInt8) : ByteArray := if ctRd d then cutA d else ⟨#[]⟩
def ctV (d : List UInt8) (i : Nat) : Int := if ctRd d then (listV (cutN d)).getD i 0 else 0
theorem ct_cases (x : List UInt8) : (ctRd x = false ∧ ctS x = ⟨#[]⟩ ∧ (∀ i, ctV x i = 0) ∧ (listB (cutN x) = false ∨ (listB (cutN x) = true ∧ (listV (cutN x)).length ≠ 3) ∨ ∃ l j lo, listB (cutN x) = true ∧ listV (cutN x) = [l, j, lo] ∧ duOk (cutA x) l j lo = false ∧ ∀ y ∈ [l, j, lo], -1000000000000 ≤ y ∧ y ≤ 1000000000000)) ∨
    (∃ l j lo, listB (cutN x) = true ∧ listV (cutN x) = [l, j, lo] ∧ duOk (cutA x) l j lo = true ∧ (∀ y ∈ [l, j, lo], -1000000000000 ≤ y ∧ y ≤ 1000000000000) ∧ ctRd x = true ∧ ctS x = cutA x ∧ ctV x 0 = l ∧ ctV x 1 = j ∧ ctV x 2 = lo) := by
  have no : ctRd x = false → ctS x = ⟨#[]⟩ ∧ ∀ i, ctV x i = 0 := fun h => ⟨by simp [ctS, h], fun i => by simp [ctV, h]⟩
  have bd := listV_bd (l := cutN x)
  cases hb : listB (cutN x)
  · have h : ctRd x = false := by simp [ctRd, hb]
    exact .inl ⟨h, (no h).1, (no h).2, .inl rfl⟩
  · by_cases hl : (listV (cutN x)).length = 3
    · obtain ⟨l, j, lo, hx⟩ : ∃ l j lo, listV (cutN x) = [l, j, lo] := by
        match listV (cutN x), hl with
        | [l, j, lo], _ => exact ⟨l, j, lo, rfl⟩
      rw [hx] at bd
      cases ho : duOk (cutA x) l j lo
      · have h : ctRd x = false := by simp [ctRd, hb, hx, ho]
        exact .inl ⟨h, (no h).1, (no h).2, .inr (.inr ⟨_, _, _, rfl, hx, ho, bd⟩)⟩
      · have h : ctRd x = true := by simp [ctRd, hb, hx, ho]
        exact .inr ⟨_, _, _, rfl, hx, ho, bd, h, by simp [ctS, h], by simp [ctV, h, hx], by simp [ctV, h, hx], by simp [ctV, h, hx]⟩
    · have h : ctRd x = false := by simp [ctRd, hb, hl]
      exact .inl ⟨h, (no h).1, (no h).2, .inr (.inl ⟨rfl, hl⟩)⟩
theorem ct_same {s s' : ByteArray} {l j lo l' j' lo' : Int} {b b' : Bool} (e : s = s') (e0 : l = l') (e1 : j = j') (e2 : lo = lo') (k : b = b') : Ending.returned (.tuple #[.agg #[.string s, .int .i64 l, .int .i64 j, .int .i64 lo], .bool b]) = .returned (.tuple #[.agg #[.string s', .int .i64 l', .int .i64 j', .int .i64 lo'], .bool b']) := by subst e e0 e1 e2 k; rfl
theorem ct_same1 {s s' : ByteArray} {l j lo l' j' lo' : Int} (e : s = s') (e0 : l = l') (e1 : j = j') (e2 : lo = lo') : Ending.returned (.agg #[.string s, .int .i64 l, .int .i64 j, .int .i64 lo]) = .returned (.agg #[.string s', .int .i64 l', .int .i64 j', .int .i64 lo']) := by subst e e0 e1 e2; rfl
theorem ctkeep {w w' : World} {g : Nat} {l j lo : Int} (hS : w.cell? ⟨g, 0, none⟩ = some (.int .i64 l) ∧ w.cell? ⟨g, 1, none⟩ = some (.int .i64 j) ∧ w.cell? ⟨g, 2, none⟩ = some (.int .i64 lo)) (hb : Below w.heap.size w w') : w'.cell? ⟨g, 0, none⟩ = some (.int .i64 l) ∧ w'.cell? ⟨g, 1, none⟩ = some (.int .i64 j) ∧ w'.cell? ⟨g, 2, none⟩ = some (.int .i64 lo) :=
  ⟨cellK hS.1 hb, cellK hS.2.1 hb, cellK hS.2.2 hb⟩
theorem ctkeepS {w w' : World} {g gs : Nat} {v : Value} {l j lo : Int} (hS : w.cell? ⟨gs, 0, none⟩ = some v ∧ w.cell? ⟨g, 0, none⟩ = some (.int .i64 l) ∧ w.cell? ⟨g, 1, none⟩ = some (.int .i64 j) ∧ w.cell? ⟨g, 2, none⟩ = some (.int .i64 lo)) (hb : Below w.heap.size w w') : w'.cell? ⟨gs, 0, none⟩ = some v ∧ w'.cell? ⟨g, 0, none⟩ = some (.int .i64 l) ∧ w'.cell? ⟨g, 1, none⟩ = some (.int .i64 j) ∧ w'.cell? ⟨g, 2, none⟩ = some (.int .i64 lo) := ⟨cellK hS.1 hb, ctkeep hS.2 hb⟩
theorem cutA_max (s : ByteArray) (hs : s.size ≤ 1048576) : (cutA s.data.toList).size ≤ maxLen := by
  have h1 := cutA_size s.data.toList
  have e : s.data.toList.length = s.size := by simp
  simp only [maxLen]
  omega
end Go.Proofs.YtoojndohddellaaGreatDoor
