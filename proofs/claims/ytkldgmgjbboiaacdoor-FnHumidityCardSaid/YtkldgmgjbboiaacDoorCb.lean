/-
  Contracts of chapter 2: densities, flows of mass, felt temperatures, the model's and the program's. Conditions: those that each theorem states.
-/
import Derived.Test.YtkldgmgjbboiaacDoorCa
import Derived.Test.YtkldgmgjbboiaacDoorBc
namespace Go.Proofs.YtkldgmgjbboiaacDoor
open Go.RowKit
set_option linter.unusedVariables false

/-- The density of dry air. -/
def densR (t p : Int) : Int := divR (4000000 * p) (57410 * (5463 + 2 * t))
/-- What DensityOf returns. -/
def densA (t p : Int) : Int := if airOk t p 0 then densR t p else 0
def densB (t p : Int) : Int := if airOk t p 0 then 0 else 2
theorem airOk0 {t p : Int} : airOk t p 0 = (inB t (-100) 600 && inB p 50000 150000) := by simp [airOk, inB]
/-- What MassFlow, SameMass and FeltTemperature return. -/
def massA (q d : Int) : Int := if inB q (-100000) 100000 && inB d 1 5000 then divR (q * d) 100 else 0
def massB (q d : Int) : Int := if inB q (-100000) 100000 && inB d 1 5000 then 0 else 2
def sameA (q d c : Int) : Int := if inB q (-100000) 100000 && inB d 1 5000 && inB c 1 5000 then divR (q * d) c else 0
def sameB (q d c : Int) : Int := if inB q (-100000) 100000 && inB d 1 5000 && inB c 1 5000 then 0 else 2
/-- The cooling by a speed. -/
def coolR (v : Int) : Int := if 50 < v / 10 then 50 else v / 10
theorem cool1 {v : Int} (h : 50 ≤ v / 10) : coolR v = 50 := by unfold coolR; split <;> omega
theorem cool2 {v : Int} (h : v / 10 ≤ 50) : coolR v = v / 10 := by unfold coolR; split <;> omega
def feltA (d u v : Int) : Int := if inB d (-100) 600 && inB u (-100) 600 && inB v 0 2000 then (if d < u then 0 else divR (7 * u + 3 * d) 10 - coolR v) else 0
def feltB (d u v : Int) : Int := if inB d (-100) 600 && inB u (-100) 600 && inB v 0 2000 then (if d < u then 6 else 0) else 2
end Go.Proofs.YtkldgmgjbboiaacDoor
