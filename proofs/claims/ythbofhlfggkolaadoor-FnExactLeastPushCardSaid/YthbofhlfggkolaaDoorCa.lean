/-
  Contracts of chapter 2: limits, densities, flows of mass, felt temperatures; the model's and the program's. Conditions: those that each theorem states.
-/
import Derived.Test.YthbofhlfggkolaaDoorBb
namespace Go.Proofs.YthbofhlfggkolaaDoor
open Go.RowKit
set_option linter.unusedVariables false
set_option linter.unusedSimpArgs false

theorem ret_two {a b c d : Int} (h : a = c) (k : b = d) : Ending.returned (.tuple #[.int .i64 a, .int .i64 b]) = .returned (.tuple #[.int .i64 c, .int .i64 d]) := by rw [h, k]
theorem below_drewN' {B : Nat} {a w : World} (h : Below B a w) (n : Nat) : Below B a (w.drewN n) := ⟨h.os, h.tape, h.output, h.size, h.block⟩
theorem bcell {W w1 : World} (hb : Below W.heap.size W w1) : (∀ b o, b < W.heap.size → w1.cell? ⟨b, o, none⟩ = W.cell? ⟨b, o, none⟩) ∧ (∀ b o, b < W.heap.size → w1.frozen? ⟨b, o, none⟩ = W.frozen? ⟨b, o, none⟩) :=
  ⟨fun b o h => hb.cell (p := ⟨b, o, none⟩) h, fun b o h => hb.frozen (p := ⟨b, o, none⟩) h⟩
theorem below_box (w : World) (o : Obj) : Below w.heap.size w (w.alloc o) := (Below.refl _ _).alloc (Nat.le_refl _) o
theorem grown_below {a b : World} (h : a = b) : Below a.heap.size a b := h ▸ Below.refl _ _
/-- Valid air. -/
def airOk (t p h : Int) : Bool := inB t (-100) 600 && inB p 50000 150000 && inB h 0 1000
theorem airOk_iff {t p h : Int} : airOk t p h = true ↔ ((-100 ≤ t ∧ t ≤ 600) ∧ (50000 ≤ p ∧ p ≤ 150000)) ∧ (0 ≤ h ∧ h ≤ 1000) := by
  simp only [airOk, Bool.and_eq_true, inB_iff]
end Go.Proofs.YthbofhlfggkolaaDoor
