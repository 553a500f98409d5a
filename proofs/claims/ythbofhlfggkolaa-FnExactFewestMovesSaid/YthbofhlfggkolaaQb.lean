/-
  Contracts of AirwaysAt: the program's and the model's. Conditions: those that each theorem states.
-/
import Derived.Test.YthbofhlfggkolaaQa
namespace Go.Proofs.Ythbofhlfggkolaa
open Go.RowKit
set_option linter.unusedVariables false
set_option linter.unusedSimpArgs false

theorem own_le {w : World} {B B' : Nat} {v : Value} {xs : List Int} (h : OwnI w B v xs) (hb : B' ≤ B) : OwnI w B' v xs :=
  ⟨h.1, h.2.elim Or.inl (fun ⟨g, cap, cur, hv, hg, r⟩ => Or.inr ⟨g, cap, cur, hv, Nat.le_trans hb hg, r⟩)⟩
theorem own_nil (w : World) (B : Nat) : OwnI w B (.slice none 0 0) [] := World.ownsRow_nil _ _ _ _
/-- What AirwaysAt returns. -/
def atR (J : Int) (xs : List Aw) (x : Int) : List Int := if mineOk J xs && inB x 0 (J - 1) then atTo xs x xs.length else []
def atB (J : Int) (xs : List Aw) (x : Int) : Int := if mineOk J xs then (if inB x 0 (J - 1) then 0 else 2) else 1
theorem ret_v2 {v : Value} {b b' : Int} (h : b = b') : Ending.returned (.tuple #[v, .int .i64 b]) = .returned (.tuple #[v, .int .i64 b']) := by rw [h]
theorem atR_len (J : Int) (xs : List Aw) (x : Int) : (atR J xs x).length ≤ xs.length := by
  unfold atR; split
  · exact atTo_len _ _ _
  · simp
end Go.Proofs.Ythbofhlfggkolaa
