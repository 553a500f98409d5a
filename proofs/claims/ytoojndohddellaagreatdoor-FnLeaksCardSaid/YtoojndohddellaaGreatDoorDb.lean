/-
  Contracts of chapter 3: airways: whether they are valid; the model's and the program's. Conditions: those that each theorem states.
-/
import Derived.Test.YtoojndohddellaaGreatDoorDa
namespace Go.Proofs.YtoojndohddellaaGreatDoor
open Go.RowKit
set_option linter.unusedVariables false
set_option linter.unusedSimpArgs false

/-- A valid airway. -/
def awOk (s : ByteArray) (f t l se fr sh : Int) : Bool := isNm s && !(decide (f = t)) && inB f 0 15 && inB t 0 15 && inB l 1 10000 && inB se 50 5000 && inB fr 1 1000 && inB sh 0 1000
theorem awOk_bd {s : ByteArray} {f t l se fr sh : Int} (h : awOk s f t l se fr sh = true) : (isNm s = true ∧ f ≠ t) ∧ ((0 ≤ f ∧ f ≤ 15) ∧ (0 ≤ t ∧ t ≤ 15)) ∧ (1 ≤ l ∧ l ≤ 10000) ∧ (50 ≤ se ∧ se ≤ 5000) ∧ (1 ≤ fr ∧ fr ≤ 1000) ∧ (0 ≤ sh ∧ sh ≤ 1000) := by
  simp only [awOk, Bool.and_eq_true, inB_iff, Bool.not_eq_true', decide_eq_false_iff_not] at h
  obtain ⟨⟨⟨⟨⟨⟨⟨a, b⟩, c⟩, d⟩, e⟩, f⟩, g⟩, i⟩ := h
  exact ⟨⟨a, b⟩, ⟨c, d⟩, e, f, g, i⟩
/-- The cells of an airway at the head of a block. -/
def AwAt (w : World) (b : Nat) (s : ByteArray) (f t l se fr sh : Int) : Prop :=
  (w.cell? ⟨b, 0, none⟩ = some (.string s) ∧ w.cell? ⟨b, 1, none⟩ = some (.int .i64 f) ∧ w.cell? ⟨b, 2, none⟩ = some (.int .i64 t) ∧ w.cell? ⟨b, 3, none⟩ = some (.int .i64 l)) ∧
  w.cell? ⟨b, 4, none⟩ = some (.int .i64 se) ∧ w.cell? ⟨b, 5, none⟩ = some (.int .i64 fr) ∧ w.cell? ⟨b, 6, none⟩ = some (.int .i64 sh)
theorem quiet_lft {P : Program} {f : FuncId} {args : Array Value} {w : World} {n : Nat} {v : Value}
    (h : Calls P f args (w.drewN n) fun e w' => e = .returned v ∧ w.drewN n = w') : Calls P f args (w.drewN n) fun e w'' => e = .returned v ∧ ∃ m, w'' = w.drewN m :=
  h.mono fun _ _ ⟨he, hm⟩ => ⟨he, n, hm.symm⟩
end Go.Proofs.YtoojndohddellaaGreatDoor
