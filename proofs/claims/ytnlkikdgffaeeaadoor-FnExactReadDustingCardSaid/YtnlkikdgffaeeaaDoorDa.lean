/-
  Contracts of chapter 3: valid airways, resistances, drops, speeds, times; the model's and the program's. Conditions: those that each theorem states.
-/
import Derived.Test.YtnlkikdgffaeeaaDoorBc
namespace Go.Proofs.YtnlkikdgffaeeaaDoor
open Go.RowKit
set_option linter.unusedVariables false
set_option linter.unusedSimpArgs false

theorem ret_two {a b c d : Int} (h : a = c) (k : b = d) : Ending.returned (.tuple #[.int .i64 a, .int .i64 b]) = .returned (.tuple #[.int .i64 c, .int .i64 d]) := by rw [h, k]
theorem below_drewN' {B : Nat} {a w : World} (h : Below B a w) (n : Nat) : Below B a (w.drewN n) := ⟨h.os, h.tape, h.output, h.size, h.block⟩
theorem bcell {W w1 : World} (hb : Below W.heap.size W w1) : (∀ b o, b < W.heap.size → w1.cell? ⟨b, o, none⟩ = W.cell? ⟨b, o, none⟩) ∧ (∀ b o, b < W.heap.size → w1.frozen? ⟨b, o, none⟩ = W.frozen? ⟨b, o, none⟩) :=
  ⟨fun b o h => hb.cell (p := ⟨b, o, none⟩) h, fun b o h => hb.frozen (p := ⟨b, o, none⟩) h⟩
theorem below_box (w : World) (o : Obj) : Below w.heap.size w (w.alloc o) := (Below.refl _ _).alloc (Nat.le_refl _) o
theorem below_one (w : World) (o : Obj) : Below w.heap.size w (w.alloc o) := (Below.refl _ _).alloc (Nat.le_refl _) o
/-- The absolute value. -/
def absR (n : Int) : Int := if n < 0 then -n else n
theorem absR_nonneg (n : Int) : 0 ≤ absR n := by unfold absR; split <;> omega
theorem absR_cases (n : Int) : (0 ≤ n ∧ absR n = n) ∨ (n < 0 ∧ absR n = -n) := by unfold absR; split <;> omega
/-- The drop of pressure of a flow q with a resistance r. -/
def dropR (r q : Int) : Int := divR (r * q * absR q) 10000000000
theorem drop_bd {r q : Int} (h1 : 1 ≤ r) (h2 : r ≤ 1000000) (h3 : -100000 ≤ q) (h4 : q ≤ 100000) :
    (-100000000000 ≤ r * q ∧ r * q ≤ 100000000000) ∧ (-10000000000000000 ≤ r * q * absR q ∧ r * q * absR q ≤ 10000000000000000) := by
  have a := mul_bd r q 1000000 100000 (by omega) h2 (by omega) h4
  have hc := absR_cases q
  have b := mul_bd (r * q) (absR q) 100000000000 100000 (by omega) (by omega) (by omega) (by omega)
  omega
/-- What DropOf returns. -/
def dropA (r q : Int) : Int := if inB r 1 1000000 && inB q (-100000) 100000 then dropR r q else 0
def dropB (r q : Int) : Int := if inB r 1 1000000 && inB q (-100000) 100000 then 0 else 2
/-- What AirPower returns. -/
def powA (r q : Int) : Int := if inB r 1 1000000 && inB q (-100000) 100000 then divR (dropR r (absR q) * absR q) 100 else 0
def powB (r q : Int) : Int := if inB r 1 1000000 && inB q (-100000) 100000 then 0 else 2
theorem pow_bd {r q : Int} (h1 : 1 ≤ r) (h2 : r ≤ 1000000) (h3 : -100000 ≤ q) (h4 : q ≤ 100000) :
    (0 ≤ absR q ∧ absR q ≤ 100000) ∧ (-2305843009213693952 ≤ dropR r (absR q) * absR q ∧ dropR r (absR q) * absR q ≤ 2305843009213693952) := by
  have hc := absR_cases q
  have hb := drop_bd (q := absR q) h1 h2 (by omega) (by omega)
  have hd : -10000000 ≤ dropR r (absR q) ∧ dropR r (absR q) ≤ 10000000 := by
    unfold dropR
    have h0 : 0 ≤ r * absR q * absR (absR q) := Int.mul_nonneg (Int.mul_nonneg (by omega) (absR_nonneg q)) (absR_nonneg _)
    rw [divR_pp _ _ h0 (by omega)]
    omega
  have := mul_bd (dropR r (absR q)) (absR q) 10000000 100000 (by omega) (by omega) (by omega) (by omega)
  omega
end Go.Proofs.YtnlkikdgffaeeaaDoor
