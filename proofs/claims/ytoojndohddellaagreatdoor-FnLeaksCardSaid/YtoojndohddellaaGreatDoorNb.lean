/-
  Contracts of the reading of numbers of chapter 1: the model's. Conditions: those that each theorem states.
-/
import Derived.Test.YtoojndohddellaaGreatDoorBe
import Derived.Test.YtoojndohddellaaGreatDoorNa
namespace Go.Proofs.YtoojndohddellaaGreatDoor
open Go.RowKit
set_option linter.unusedVariables false
set_option linter.unusedSimpArgs false

theorem byteAt_get {s : ByteArray} {l : List UInt8} (hl : s.data.toList = l) {k : Nat} (h : k < l.length) : byteAt s k = (l[k].toNat : Int) := by
  unfold byteAt
  rw [hl, List.getD_eq_getElem?_getD, List.getElem?_eq_getElem h]
  rfl
theorem size_of_list' {s : ByteArray} {l : List UInt8} (hl : s.data.toList = l) : s.size = l.length := by rw [← hl]; simp
theorem ret_pair {a a' : Int} {b b' : Bool} (h : a = a') (h2 : b = b') : Ending.returned (.tuple #[.int .i64 a, .bool b]) = .returned (.tuple #[.int .i64 a', .bool b']) := by rw [h, h2]
theorem num_no {l : List UInt8} (h : numOf l = none) : numV l = 0 ∧ numB l = false := by unfold numV numB; rw [h]; exact ⟨rfl, rfl⟩
theorem num_yes {l : List UInt8} {v : Int} (h : numOf l = some v) : numV l = v ∧ numB l = true := by unfold numV numB; rw [h]; exact ⟨rfl, rfl⟩
theorem mag_bad {l : List UInt8} {k : Nat} (hk : k < l.length) (h : isDg l[k] = false) : magOf l = none := by
  unfold magOf
  rw [if_neg]
  rintro ⟨_, _, h2⟩
  rw [List.all_eq_true] at h2
  rw [h2 _ (List.getElem_mem hk)] at h
  cases h
theorem dg_in (c : UInt8) : inB (c.toNat : Int) 48 57 = isDg c := by
  rw [Bool.eq_iff_iff, inB_iff, isDg_iff]; omega
theorem all_snoc {l : List UInt8} {k : Nat} (hk : k < l.length) (h : (l.take k).all isDg = true) (hd : isDg l[k] = true) : (l.take (k + 1)).all isDg = true := by
  rw [List.take_succ_eq_append_getElem hk, List.all_append, h]; simp [hd]
theorem val_snoc {l : List UInt8} {k : Nat} (hk : k < l.length) (hd : isDg l[k] = true) : (valD 0 (l.take (k + 1)) : Int) = 10 * (valD 0 (l.take k) : Int) + ((l[k].toNat : Int) - 48) := by
  rw [List.take_succ_eq_append_getElem hk, valD_snoc, dgv_eq]
  rw [isDg_iff] at hd
  omega
theorem val_bd {l : List UInt8} (k : Nat) (hk : k < l.length) (h18 : l.length ≤ 18) (h : (l.take k).all isDg = true) : (valD 0 (l.take k) : Int) < 100000000000000000 := by
  have hv := valD_lt (l.take k) 0 h
  rw [Nat.zero_add, Nat.one_mul] at hv
  have hp : 10 ^ (l.take k).length ≤ 10 ^ 17 := Nat.pow_le_pow_right (by omega) (by rw [List.length_take]; omega)
  rw [show (10 : Nat) ^ 17 = 100000000000000000 from rfl] at hp
  omega

end Go.Proofs.YtoojndohddellaaGreatDoor
