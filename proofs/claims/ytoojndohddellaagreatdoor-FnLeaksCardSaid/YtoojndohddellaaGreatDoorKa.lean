/-
  Contracts of chapter 5: loops of drops and flows at junctions; the model's and the program's. Conditions: those that each theorem states.
-/
import Derived.Test.YtoojndohddellaaGreatDoorNh
import Derived.Laws.CopyOwn
namespace Go.Proofs.YtoojndohddellaaGreatDoor
open Go.RowKit
set_option linter.unusedVariables false
set_option linter.unusedSimpArgs false

theorem mem_getD {xs : List Int} {k : Nat} (h : k < xs.length) : xs[k] ∈ xs := List.getElem_mem h
theorem sum_snoc {xs : List Int} {k : Nat} (h : k < xs.length) : (xs.take (k + 1)).sum = (xs.take k).sum + xs[k] := by
  rw [List.take_succ_eq_append_getElem h, List.sum_append]; simp
theorem sum_bd : ∀ xs : List Int, (∀ y ∈ xs, -100000 ≤ y ∧ y ≤ 100000) → -100000 * (xs.length : Int) ≤ xs.sum ∧ xs.sum ≤ 100000 * (xs.length : Int)
  | [], _ => by simp
  | x :: t, h => by
    have h1 := sum_bd t (fun y hy => h y (List.mem_cons_of_mem _ hy))
    have h2 := h x List.mem_cons_self
    rw [List.sum_cons, List.length_cons]
    omega
theorem sum_take {xs : List Int} (h : ∀ y ∈ xs, -100000 ≤ y ∧ y ≤ 100000) (hl : xs.length ≤ 64) (k : Nat) : -6400000 ≤ (xs.take k).sum ∧ (xs.take k).sum ≤ 6400000 := by
  have h1 := sum_bd (xs.take k) (fun y hy => h y (List.mem_of_mem_take hy))
  have h2 : (xs.take k).length ≤ 64 := by rw [List.length_take]; omega
  omega
theorem sum_all {xs : List Int} (h : ∀ y ∈ xs, -100000 ≤ y ∧ y ≤ 100000) (hl : xs.length ≤ 64) : -6400000 ≤ xs.sum ∧ xs.sum ≤ 6400000 := by
  have := sum_take h hl xs.length
  rwa [List.take_length] at this
theorem sumOf_any (v : Value) (xs : List Int) (w : World) (hv : RowW .i64 w v xs) (hr : ∀ y ∈ xs, -100000 ≤ y ∧ y ≤ 100000) (hl : xs.length ≤ 64) :
    Calls Tryz.prog 38 #[v] w fun e w' => e = .returned (.int .i64 xs.sum) ∧ w = w' := by
  obtain ⟨A, cap, rfl, _⟩ := id hv
  have HV := Lib.hid hv
  have HR := Lib.hid hr
  clear hv hr
  go_enter Tryz.func38, Tryz.ntmps38
  go_wp2
  go_loop [3, 8] (fun t i => ∃ k : Nat, k ≤ xs.length ∧ i = .int .i64 k ∧ t = .int .i64 ((xs.take k).sum)) (fun _ i => xs.length - (intOf i).toNat)
  case atStart => exact ⟨0, Nat.zero_le _, rfl, rfl⟩
  case round =>
    obtain ⟨k, hk, rfl, rfl⟩ := hrel
    by_cases hlt : k < xs.length
    · obtain ⟨b, off, rfl, -, hc⟩ := RowW.cell HV.out hlt
      rw [show xs.getD k 0 = xs[k] by simp [List.getD, hlt]] at hc
      have hb1 := sum_take HR.out hl k
      have hb2 := HR.out _ (mem_getD hlt)
      have HS := Lib.hid (sum_snoc hlt)
      obtain ⟨b1, b2⟩ := hb1
      obtain ⟨b3, b4⟩ := hb2
      obtain ⟨s, hs⟩ : ∃ s, (xs.take k).sum = s := ⟨_, rfl⟩
      rw [hs] at b1 b2 HS ⊢
      clear hs
      generalize xs[k] = z at *
      go_wp2
      go_round
      case rel => exact ⟨k + 1, by omega, by go_num, by rw [HS.out]⟩
      case measure => simp [intOf]; omega
    · obtain rfl : k = xs.length := by omega
      rw [List.take_length]
      go_wp2
      go_ret
      exact ⟨rfl, rfl⟩
/-- Drops of a loop. -/
def dropsL (xs : List Int) : Bool := decide (∀ y ∈ xs, -10000 ≤ y ∧ y ≤ 10000) && decide (xs.length ≤ 64)
theorem dropsL_iff {xs : List Int} : dropsL xs = true ↔ (∀ y ∈ xs, -10000 ≤ y ∧ y ≤ 10000) ∧ xs.length ≤ 64 := by simp [dropsL]
theorem dropsL_bd {xs : List Int} (h : dropsL xs = true) : (∀ y ∈ xs, -100000 ≤ y ∧ y ≤ 100000) ∧ xs.length ≤ 64 :=
  ⟨fun y hy => by have := (dropsL_iff.1 h).1 y hy; omega, (dropsL_iff.1 h).2⟩
theorem dropsL_all (xs : List Int) : dropsL xs = (decide (xs.length ≤ 64) && allR (-10000) 10000 xs) := by
  rw [Bool.eq_iff_iff, dropsL_iff, Bool.and_eq_true, allR_iff, decide_eq_true_eq, and_comm]
theorem ret_ii {a b c d : Int} (h : a = c) (k : b = d) : Ending.returned (.tuple #[.int .i64 a, .int .i64 b]) = .returned (.tuple #[.int .i64 c, .int .i64 d]) := by rw [h, k]
/-- What LoopError returns. -/
def loopA (xs : List Int) : Int := if dropsL xs then xs.sum else 0
def loopB (xs : List Int) : Int := if dropsL xs then 0 else 2
/-- Flows of a junction. -/
def flowsL (xs : List Int) : Bool := allR 0 100000 xs
theorem flowsL_bd {xs : List Int} (h : flowsL xs = true) : ∀ y ∈ xs, -100000 ≤ y ∧ y ≤ 100000 := fun y hy => by have := allR_iff.1 h y hy; omega
theorem flowsL_bad {xs : List Int} {k : Nat} (h : k < xs.length) (hn : ¬ (0 ≤ xs[k] ∧ xs[k] ≤ 100000)) : flowsL xs = false := allR_not (fun hh => hn (hh _ (List.getElem_mem h)))
theorem flowsL_good {xs : List Int} (h : ∀ j (h : j < xs.length), 0 ≤ xs[j] ∧ xs[j] ≤ 100000) : flowsL xs = true := allR_iff.2 fun y hy => by obtain ⟨j, hj, rfl⟩ := List.mem_iff_getElem.1 hy; exact h j hj
def junA (xs ys : List Int) : Int := if flowsL xs && flowsL ys then (if xs.length ≤ 64 ∧ ys.length ≤ 64 then xs.sum - ys.sum else 0) else 0
def junB (xs ys : List Int) : Int := if flowsL xs && flowsL ys then (if xs.length ≤ 64 ∧ ys.length ≤ 64 then 0 else 5) else 2
end Go.Proofs.YtoojndohddellaaGreatDoor
