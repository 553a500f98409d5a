/-
  Contracts of chapter 2: saturations, the model's and the program's. Conditions: those that each theorem states.
-/
import Derived.Test.YtkldgmgjbboiaacDoorCb
import Derived.Deep.QuietTactic
import Derived.Lib.LaidTab
import Derived.IntWalk
namespace Go.Proofs.YtkldgmgjbboiaacDoor
open Go.RowKit
set_option linter.unusedVariables false

def satTab : List Int := [286, 421, 611, 872, 1228, 1705, 2339, 3169, 4246, 5628, 7384, 9593, 12350, 15760, 19940]
theorem quiet_dr {P : Program} {f : FuncId} {args : Array Value} {w : World} {n : Nat} {v : Value}
    (h : Calls P f args (w.drewN n) fun e w' => e = .returned v ∧ ∃ m, w' = (w.drewN n).drewN m) : Calls P f args (w.drewN n) fun e w'' => e = .returned v ∧ ∃ m, w'' = w.drewN m :=
  h.mono fun _ _ ⟨he, m, hm⟩ => ⟨he, n + m, by rw [hm, World.drewN_drewN]⟩
theorem quiet_lft {P : Program} {f : FuncId} {args : Array Value} {w : World} {n : Nat} {v : Value}
    (h : Calls P f args (w.drewN n) fun e w' => e = .returned v ∧ w.drewN n = w') : Calls P f args (w.drewN n) fun e w'' => e = .returned v ∧ ∃ m, w'' = w.drewN m :=
  h.mono fun _ _ ⟨he, hm⟩ => ⟨he, n, hm.symm⟩
def tabAt (k : Nat) : Int := satTab.getD k 0
theorem tabAt_bd (k : Nat) : 0 ≤ tabAt k ∧ tabAt k ≤ 19940 := by
  by_cases h : k < 15
  · have : ∀ j, j < 15 → 0 ≤ tabAt j ∧ tabAt j ≤ 19940 := by decide
    exact this k h
  · unfold tabAt; rw [List.getD_eq_getElem?_getD, List.getElem?_eq_none (by simp [satTab]; omega)]; simp
/-- The place of a temperature in the table. -/
def satK (t : Int) : Nat := if 13 < (t + 100) / 50 then 13 else ((t + 100) / 50).toNat
/-- The saturation. -/
def satR (t : Int) : Int := lineR (-100 + 50 * (satK t : Int)) (tabAt (satK t)) (-100 + 50 * (satK t : Int) + 50) (tabAt (satK t + 1)) t
theorem satK_le (t : Int) : satK t ≤ 13 := by unfold satK; split <;> omega
theorem satR_of (t : Int) (k : Nat) (h1 : -100 ≤ t) (h2 : t ≤ 600) (hk : k ≤ 13) (ha : k = 0 ∨ -100 + 50 * (k : Int) < t) (hb : k = 13 ∨ t ≤ -50 + 50 * (k : Int)) :
    lineR (-100 + 50 * (k : Int)) (tabAt k) (-100 + 50 * (k : Int) + 50) (tabAt (k + 1)) t = satR t := by
  unfold satR
  by_cases e : satK t = k
  · rw [e]
  · have : t = -50 + 50 * (k : Int) ∧ satK t = k + 1 := by
      have hs : satK t = (if 13 < (t + 100) / 50 then 13 else ((t + 100) / 50).toNat) := rfl
      split at hs <;> omega
    rw [this.2, lineR_1 (by omega) (by omega), lineR_0 (Or.inl (by omega))]
theorem satR_bd (t : Int) (h1 : -100 ≤ t) (h2 : t ≤ 600) : 0 ≤ satR t ∧ satR t ≤ 19940 := by
  have : ∀ n : Nat, n < 701 → 0 ≤ satR ((n : Int) - 100) ∧ satR ((n : Int) - 100) ≤ 19940 := by decide +kernel
  have := this (t + 100).toNat (by omega)
  rwa [show (((t + 100).toNat : Nat) : Int) - 100 = t by omega] at this
/-- The saturation grows with the temperature. -/
theorem satR_mono (t : Int) (h1 : -100 ≤ t) (h2 : t < 600) : satR t ≤ satR (t + 1) := by
  have : ∀ n : Nat, n < 700 → satR ((n : Int) - 100) ≤ satR ((n : Int) - 99) := by decide +kernel
  have := this (t + 100).toNat (by omega)
  rwa [show (((t + 100).toNat : Nat) : Int) - 100 = t by omega, show (((t + 100).toNat : Nat) : Int) - 99 = t + 1 by omega] at this

/-- The program's table of saturations lies where it was laid. -/
def Sat (w : World) : Prop := ∀ k, k < 15 → w.cell? ⟨0, k, none⟩ = some (.int .i64 (tabAt k))
theorem Sat.below {w w' : World} (h : Sat w) (hb : Below w.heap.size w w') : Sat w' := fun k hk => by
  have h0 := h k hk
  rw [← h0]
  exact hb.cell (World.block_lt_of_cell? _ _ h0)
theorem saturationAt_any (t : Int) (w : World) (hw : Sat w) (h1 : -100 ≤ t) (h2 : t ≤ 600) :
    Calls Tryd.prog 64 #[.int .i64 t] w fun e w' => e = .returned (.int .i64 (satR t)) ∧ ∃ n, w' = w.drewN n := by
  by_cases hle : (t + 100) / 50 ≤ 13
  · have hK : satK t = ((t + 100) / 50).toNat := by unfold satK; split <;> omega
    have c0 := hw (satK t) (by omega)
    have c1 := hw (satK t + 1) (by omega)
    have b0 := tabAt_bd (satK t)
    have b1 := tabAt_bd (satK t + 1)
    have HE := Lib.hid (show satR t = lineR (-100 + 50 * (satK t : Int)) (tabAt (satK t)) (-100 + 50 * (satK t : Int) + 50) (tabAt (satK t + 1)) t from rfl)
    have hq : (t + 100) / 50 = (satK t : Int) := by omega
    generalize satK t = k at *
    generalize tabAt k = y0 at *
    generalize tabAt (k + 1) = y1 at *
    clear hw hK
    have hk : k ≤ 13 := by omega
    have HQ := Lib.hid hq
    clear hq
    go_enter Tryd.func64, Tryd.ntmps64
    go_wp2
    simp only [HQ.out]
    have e3 : 0 ≤ (k : Int) + 1 := by omega
    have e4 : (k : Int) < 15 := by omega
    have e5 : (k : Int) + 1 < 15 := by omega
    have e6 : ((k : Int) + 1).toNat = k + 1 := by omega
    have e1 : IntKind.i64.wrap (-100 + (k : Int) * 50 + 50) = -100 + (k : Int) * 50 + 50 := IntWalk.i64_in _ (by omega)
    have e2 : IntKind.i64.wrap ((k : Int) + 1) = (k : Int) + 1 := IntWalk.i64_in _ (by omega)
    have HB1 : B9 (-100 + (k : Int) * 50) := ⟨by omega, by omega⟩
    have HB2 : B9 (-100 + (k : Int) * 50 + 50) := ⟨by omega, by omega⟩
    have HB3 : B9 y0 := ⟨by omega, by omega⟩
    have HB4 : B9 y1 := ⟨by omega, by omega⟩
    have HB5 : I64 t := ⟨by omega, by omega⟩
    go_quiet ((go_at_call 51; exact quiet_dr (onLine_any _ _ _ _ _ _ HB1 HB3 HB2 HB4 HB5)))
    clear e1 e2 e3 e4 e5 e6
    go_wp2
    go_ret
    exact ⟨ret_int (by rw [HE.out, Int.mul_comm 50 (k : Int)]), _, rfl⟩
  · obtain rfl : t = 600 := by omega
    have c0 := hw 13 (by omega)
    have c1 := hw 14 (by omega)
    have HE := Lib.hid (show satR 600 = lineR 550 15760 600 19940 600 by decide)
    have k0 : tabAt 13 = 15760 := by decide
    have k1 : tabAt 14 = 19940 := by decide
    rw [k0] at c0; rw [k1] at c1
    clear hw hle k0 k1
    go_enter Tryd.func64, Tryd.ntmps64
    go_wp2
    go_quiet ((go_at_call 51; exact quiet_dr (onLine_any _ _ _ _ _ _ ⟨by omega, by omega⟩ ⟨by omega, by omega⟩ ⟨by omega, by omega⟩ ⟨by omega, by omega⟩ ⟨by omega, by omega⟩)))
    go_wp2
    go_ret
    exact ⟨ret_int HE.out.symm, _, rfl⟩
theorem tab_cell (w : World) (T : TypeId) (k : Nat) (hk : k < 15) : (w.alloc (.cells #[.int .i64 286, .int .i64 421, .int .i64 611, .int .i64 872, .int .i64 1228, .int .i64 1705, .int .i64 2339, .int .i64 3169, .int .i64 4246, .int .i64 5628, .int .i64 7384, .int .i64 9593, .int .i64 12350, .int .i64 15760, .int .i64 19940] T)).cell? ⟨w.heap.size, k, none⟩ = some (.int .i64 (tabAt k)) := by
  rw [World.cell?_alloc_new]
  have : ∀ j, j < 15 → (#[.int .i64 286, .int .i64 421, .int .i64 611, .int .i64 872, .int .i64 1228, .int .i64 1705, .int .i64 2339, .int .i64 3169, .int .i64 4246, .int .i64 5628, .int .i64 7384, .int .i64 9593, .int .i64 12350, .int .i64 15760, .int .i64 19940] : Array Value)[j]? = some (.int .i64 (tabAt j)) := by
    intro j hj
    match j, hj with
    | 0, _ | 1, _ | 2, _ | 3, _ | 4, _ | 5, _ | 6, _ | 7, _ | 8, _ | 9, _ | 10, _ | 11, _ | 12, _ | 13, _ | 14, _ => rfl
  exact this k hk
end Go.Proofs.YtkldgmgjbboiaacDoor
