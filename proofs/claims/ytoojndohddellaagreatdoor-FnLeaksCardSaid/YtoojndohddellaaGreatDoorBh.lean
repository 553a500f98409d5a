/-
  Contracts of the decimal form of chapter 1. Conditions: those that each theorem states.
-/
import Derived.Test.YtoojndohddellaaGreatDoorBa
import Derived.Lib.ItoaNum
import Derived.Laws.OwnMore
import Derived.Laws.BytesArg
import Derived.Deep.AppendLies
import Derived.OwnWalk
namespace Go.Proofs.YtoojndohddellaaGreatDoor
open Go.RowKit
set_option linter.unusedVariables false

def revD (u : Nat) : List UInt8 := if h : u = 0 then [] else UInt8.ofNat (48 + u % 10) :: revD (u / 10)
termination_by u
decreasing_by omega
theorem revD_zero : revD 0 = [] := by rw [revD]; simp
theorem revD_pos {u : Nat} (h : u ≠ 0) : revD u = UInt8.ofNat (48 + u % 10) :: revD (u / 10) := by rw [revD, dif_neg h]
theorem revD_len : ∀ (k u : Nat), u < 10 ^ k → (revD u).length ≤ k
  | 0, u, h => by simp at h; subst h; simp [revD_zero]
  | k + 1, u, h => by
    by_cases e : u = 0
    · subst e; simp [revD_zero]
    · rw [revD_pos e, List.length_cons]
      have := revD_len k (u / 10) (by rw [Nat.pow_succ] at h; omega)
      omega
theorem dec_rev : ∀ u : Nat, u ≠ 0 → Lib.decDigits u = (revD u).reverse := by
  intro u
  induction u using Nat.strongRecOn with
  | _ u ih =>
    intro h
    rw [Lib.decDigits, revD_pos h]
    by_cases hu : u < 10
    · rw [dif_pos hu, show u / 10 = 0 by omega, revD_zero, Nat.mod_eq_of_lt hu]; rfl
    · rw [dif_neg hu, ih (u / 10) (by omega) (by omega), List.reverse_cons]
def bytesV (l : List UInt8) : List Value := l.map fun b => Value.int .u8 (b.toNat : Int)
theorem bytesV_len (l : List UInt8) : (bytesV l).length = l.length := by simp [bytesV]
theorem info_u8 : (Tryz.prog.info? 5).map (fun i => (i.zero, i.size, i.bytes)) = some (some (.int .u8 0), 1, 1) := by kernel_rfl

theorem lenD {U : Nat} (hU : (U : Int) ≤ 9223372036854775808) : (revD U).length ≤ 19 := revD_len 19 U (by omega)
def DecR (U B : Nat) (sg : Int) (W : World) (a m : Value) (wr : World) : Prop :=
  ∃ (u : Nat) (ds : List UInt8), Hid (ds ++ revD u = revD U) ∧ u ≤ U ∧ m = .int .i64 (sg * (u : Int)) ∧ wr.ownsRow B 5 1 a ds.length (bytesV ds) ∧ Below B W wr
def OutR (L : List UInt8) (B B2 : Nat) (W W2 : World) (a b : Value) (i : Value) (wr : World) : Prop :=
  ∃ j : Nat, j ≤ L.length ∧ i = .int .i64 ((j : Int) - 1) ∧ wr.ownsRow B2 5 1 b (L.length - j) (bytesV (L.drop j).reverse) ∧ Below B W wr ∧ Below B2 W2 wr ∧ B2 ≤ wr.heap.size
theorem strOf (L : List UInt8) : strOfNums (L.map fun b => (b.toNat : Int)) = ⟨L.toArray⟩ := by
  unfold strOfNums
  congr 1
  rw [← Array.toList_inj]; simp [Function.comp_def]
theorem u8_dig (u : Nat) : Value.int .u8 (48 + (u : Int) % 10) = .int .u8 ((UInt8.ofNat (48 + u % 10)).toNat : Int) := by
  congr 1
  rw [UInt8.toNat_ofNat']
  omega
theorem step_dec {U u : Nat} {ds : List UInt8} (h : ds ++ revD u = revD U) (hu : u ≠ 0) : (ds ++ [UInt8.ofNat (48 + u % 10)]) ++ revD (u / 10) = revD U := by
  rw [← h, revD_pos hu]; simp
theorem len_dec {U u : Nat} {ds : List UInt8} (h : ds ++ revD u = revD U) (hU : (U : Int) ≤ 9223372036854775808) : ds.length ≤ 19 := by
  have := lenD hU; rw [← h] at this; simp at this; omega

end Go.Proofs.YtoojndohddellaaGreatDoor
