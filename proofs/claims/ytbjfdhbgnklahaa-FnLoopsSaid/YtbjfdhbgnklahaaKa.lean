/-
  Contracts of chapter 5: loops of drops and flows at junctions; the model's and the program's. Conditions: those that each theorem states.
-/
import Derived.Test.YtbjfdhbgnklahaaNh
import Derived.Laws.CopyOwn
namespace Go.Proofs.Ytbjfdhbgnklahaa
open Go.RowKit
set_option linter.unusedVariables false
set_option linter.unusedSimpArgs false

theorem mem_getD {xs : List Int} {k : Nat} (h : k < xs.length) : xs[k] ∈ xs := List.getElem_mem h
theorem sum_snoc {xs : List Int} {k : Nat} (h : k < xs.length) : (xs.take (k + 1)).sum = (xs.take k).sum + xs[k] := by
  rw [List.take_succ_eq_append_getElem h, List.sum_append]; simp
theorem sum_bd : ∀ xs : List Int, (∀ y ∈ xs, -100000 ≤ y ∧ y ≤ 100000) → -100000 * (xs.length : Int) ≤ xs.sum ∧ xs.sum ≤ 100000 * (xs.length : Int)
  | [], _ => by simp
  | x :: t, h => by
    have h1 := sum_bd t (fun y hy => h y (List.mem_cons_of_mem _ hy))
    have h2 := h x List.mem_cons_self
    rw [List.sum_cons, List.length_cons]
    omega
theorem sum_take {xs : List Int} (h : ∀ y ∈ xs, -100000 ≤ y ∧ y ≤ 100000) (hl : xs.length ≤ 64) (k : Nat) : -6400000 ≤ (xs.take k).sum ∧ (xs.take k).sum ≤ 6400000 := by
  have h1 := sum_bd (xs.take k) (fun y hy => h y (List.mem_of_mem_take hy))
  have h2 : (xs.take k).length ≤ 64 := by rw [List.length_take]; omega
  omega
theorem sum_all {xs : List Int} (h : ∀ y ∈ xs, -100000 ≤ y ∧ y ≤ 100000) (hl : xs.length ≤ 64) : -6400000 ≤ xs.sum ∧ xs.sum ≤ 6400000 := by
  have := sum_take h hl xs.length
  rwa [List.take_length] at this
theorem l05Sum_any (v : Value) (xs : List Int) (w : World) (hv : RowW .i64 w v xs) (hr : ∀ y ∈ xs, -100000 ≤ y ∧ y ≤ 100000) (hl : xs.length ≤ 64) :
    Calls Try.prog 53 #[v] w fun e w' => e = .returned (.int .i64 xs.sum) ∧ w = w' := by
  obtain ⟨A, cap, rfl, _⟩ := id hv
  have HV := Lib.hid hv
  have HR := Lib.hid hr
  clear hv hr
  go_enter Try.func53, Try.ntmps53
  go_wp2
  go_loop [3, 4] (fun t i => ∃ k : Nat, k ≤ xs.length ∧ i = .int .i64 k ∧ t = .int .i64 ((xs.take k).sum)) (fun _ i => xs.length - (intOf i).toNat)
  case atStart => exact ⟨0, Nat.zero_le _, rfl, rfl⟩
  case round =>
    obtain ⟨k, hk, rfl, rfl⟩ := hrel
    by_cases hlt : k < xs.length
    · obtain ⟨b, off, rfl, -, hc⟩ := RowW.cell HV.out hlt
      rw [show xs.getD k 0 = xs[k] by simp [List.getD, hlt]] at hc
      have hb1 := sum_take HR.out hl k
      have hb2 := HR.out _ (mem_getD hlt)
      have HS := Lib.hid (sum_snoc hlt)
      obtain ⟨b1, b2⟩ := hb1
      obtain ⟨b3, b4⟩ := hb2
      obtain ⟨s, hs⟩ : ∃ s, (xs.take k).sum = s := ⟨_, rfl⟩
      rw [hs] at b1 b2 HS ⊢
      clear hs
      generalize xs[k] = z at *
      go_wp2
      go_round
      case rel => exact ⟨k + 1, by omega, by go_num, by rw [HS.out]⟩
      case measure => simp [intOf]; omega
    · obtain rfl : k = xs.length := by omega
      rw [List.take_length]
      go_wp2
      go_ret
      exact ⟨rfl, rfl⟩
theorem sumOf_any (v : Value) (xs : List Int) (w : World) (hv : RowW .i64 w v xs) (hr : ∀ y ∈ xs, -100000 ≤ y ∧ y ≤ 100000) (hl : xs.length ≤ 64) :
    Calls Try.prog 55 #[v] w fun e w' => e = .returned (.int .i64 xs.sum) ∧ w = w' := by
  obtain ⟨A, cap, rfl, _⟩ := id hv
  have HV := Lib.hid hv
  have HR := Lib.hid hr
  clear hv hr
  go_enter Try.func55, Try.ntmps55
  go_wp2
  go_loop [3, 8] (fun t i => ∃ k : Nat, k ≤ xs.length ∧ i = .int .i64 k ∧ t = .int .i64 ((xs.take k).sum)) (fun _ i => xs.length - (intOf i).toNat)
  case atStart => exact ⟨0, Nat.zero_le _, rfl, rfl⟩
  case round =>
    obtain ⟨k, hk, rfl, rfl⟩ := hrel
    by_cases hlt : k < xs.length
    · obtain ⟨b, off, rfl, -, hc⟩ := RowW.cell HV.out hlt
      rw [show xs.getD k 0 = xs[k] by simp [List.getD, hlt]] at hc
      have hb1 := sum_take HR.out hl k
      have hb2 := HR.out _ (mem_getD hlt)
      have HS := Lib.hid (sum_snoc hlt)
      obtain ⟨b1, b2⟩ := hb1
      obtain ⟨b3, b4⟩ := hb2
      obtain ⟨s, hs⟩ : ∃ s, (xs.take k).sum = s := ⟨_, rfl⟩
      rw [hs] at b1 b2 HS ⊢
      clear hs
      generalize xs[k] = z at *
      go_wp2
      go_round
      case rel => exact ⟨k + 1, by omega, by go_num, by rw [HS.out]⟩
      case measure => simp [intOf]; omega
    · obtain rfl : k = xs.length := by omega
      rw [List.take_length]
      go_wp2
      go_ret
      exact ⟨rfl, rfl⟩
/-- Drops of a loop. -/
def dropsL (xs : List Int) : Bool := decide (∀ y ∈ xs, -10000 ≤ y ∧ y ≤ 10000) && decide (xs.length ≤ 64)
theorem dropsL_iff {xs : List Int} : dropsL xs = true ↔ (∀ y ∈ xs, -10000 ≤ y ∧ y ≤ 10000) ∧ xs.length ≤ 64 := by simp [dropsL]
theorem dropsL_bd {xs : List Int} (h : dropsL xs = true) : (∀ y ∈ xs, -100000 ≤ y ∧ y ≤ 100000) ∧ xs.length ≤ 64 :=
  ⟨fun y hy => by have := (dropsL_iff.1 h).1 y hy; omega, (dropsL_iff.1 h).2⟩
theorem dropsL_all (xs : List Int) : dropsL xs = (decide (xs.length ≤ 64) && allR (-10000) 10000 xs) := by
  rw [Bool.eq_iff_iff, dropsL_iff, Bool.and_eq_true, allR_iff, decide_eq_true_eq, and_comm]
theorem l05Drops_any (v : Value) (xs : List Int) (w : World) (hv : RowW .i64 w v xs) (hl : xs.length ≤ 4000000000000000000) :
    Calls Try.prog 52 #[v] w fun e w' => e = .returned (.bool (dropsL xs)) ∧ w = w' := by
  obtain ⟨A, cap, rfl, _⟩ := id hv
  have HV := Lib.hid hv
  clear hv
  go_enter Try.func52, Try.ntmps52
  go_wp2
  go_loop [3] (fun i => ∃ k : Nat, k ≤ xs.length ∧ Hid (∀ j (h : j < xs.length), j < k → -10000 ≤ xs[j] ∧ xs[j] ≤ 10000) ∧ i = .int .i64 k) (fun i => xs.length - (intOf i).toNat)
  case atStart => exact ⟨0, by omega, Lib.hid (fun j _ h => absurd h (by omega)), rfl⟩
  case round =>
    obtain ⟨k, hk, HA, rfl⟩ := hrel
    by_cases hlt : k < xs.length
    · obtain ⟨b, off, rfl, _, hc⟩ := RowW.cell HV.out hlt
      rw [show xs.getD k 0 = xs[k] by simp [List.getD, hlt]] at hc
      by_cases hin : -10000 ≤ xs[k] ∧ xs[k] ≤ 10000
      · have hi := inB_true hin.1 hin.2
        have HR := Lib.hid hin
        clear hin
        go_wp2_with (go_at_call 50; refine (l00In_any _ _ _ _).mono ?_; rintro e w' ⟨rfl, rfl⟩)
        go_round
        case rel => exact ⟨k + 1, by omega, Lib.hid (fun j h hj => by
          rcases Nat.lt_or_ge j k with q | q
          · exact HA.out j h q
          · obtain rfl : j = k := by omega
            exact HR.out), by go_num⟩
        case measure => simp [intOf]; omega
      · have hi := inB_false hin
        have HR := Lib.hid (show dropsL xs = false by
          unfold dropsL
          rw [decide_eq_false (fun hh => hin (hh _ (List.getElem_mem hlt))), Bool.false_and])
        clear hin
        go_wp2_with (go_at_call 50; refine (l00In_any _ _ _ _).mono ?_; rintro e w' ⟨rfl, rfl⟩)
        go_ret
        exact ⟨ret_bool HR.out.symm, rfl⟩
    · obtain rfl : k = xs.length := by omega
      have HR := Lib.hid (show dropsL xs = decide (xs.length ≤ 64) by
        unfold dropsL
        rw [decide_eq_true (fun y hy => by obtain ⟨j, h, rfl⟩ := List.mem_iff_getElem.1 hy; exact HA.out j h h), Bool.true_and])
      by_cases h64 : xs.length ≤ 64
      · have t1 : (xs.length : Int) ≤ 64 := by omega
        go_wp2
        go_ret
        exact ⟨ret_bool (by rw [HR.out, decide_eq_true h64]), rfl⟩
      · have t1 : ¬ (xs.length : Int) ≤ 64 := by omega
        have t2 : decide ((xs.length : Int) ≤ 64) = false := decide_eq_false t1
        go_wp2
        go_ret
        exact ⟨ret_bool (by rw [HR.out, decide_eq_false h64]), rfl⟩
theorem areDrops_any (v : Value) (xs : List Int) (w : World) (hv : Row .i64 w v xs) (hl : xs.length ≤ 4000000000000000000) :
    Calls Try.prog 54 #[v] w fun e w' => e = .returned (.bool (dropsL xs)) ∧ w = w' := by
  obtain ⟨A, cap, rfl⟩ := hv.form
  have HV := Lib.hid hv
  clear hv
  by_cases h64 : xs.length ≤ 64
  · have HE := Lib.hid (show dropsL xs = allR (-10000) 10000 xs by rw [dropsL_all, decide_eq_true h64, Bool.true_and])
    have t1 : (xs.length : Int) ≤ 64 := by omega
    go_enter Try.func54, Try.ntmps54
    go_wp2_with (go_at_call 42; refine (within64_any _ _ _ xs _ HV.out hl).mono ?_; rintro e w' ⟨rfl, rfl⟩)
    go_ret
    exact ⟨ret_bool HE.out.symm, rfl⟩
  · have HE := Lib.hid (show dropsL xs = false by rw [dropsL_all, decide_eq_false h64, Bool.false_and])
    have t1 : ¬ (xs.length : Int) ≤ 64 := by omega
    have t2 : decide ((xs.length : Int) ≤ 64) = false := decide_eq_false t1
    go_enter Try.func54, Try.ntmps54
    go_wp2
    go_ret
    exact ⟨ret_bool HE.out.symm, rfl⟩
theorem ret_ii {a b c d : Int} (h : a = c) (k : b = d) : Ending.returned (.tuple #[.int .i64 a, .int .i64 b]) = .returned (.tuple #[.int .i64 c, .int .i64 d]) := by rw [h, k]
/-- What LoopError returns. -/
def loopA (xs : List Int) : Int := if dropsL xs then xs.sum else 0
def loopB (xs : List Int) : Int := if dropsL xs then 0 else 2
theorem sLoopError_any (v : Value) (xs : List Int) (w : World) (hv : Row .i64 w v xs) (hl : xs.length ≤ 1048576) :
    Calls Try.prog 22 #[v] w fun e w' => e = .returned (.tuple #[.int .i64 (loopA xs), .int .i64 (loopB xs)]) ∧ w = w' := by
  have HV := Lib.hid hv
  clear hv
  cases hd : dropsL xs
  · have HE := Lib.hid (show loopA xs = 0 ∧ loopB xs = 2 by simp [loopA, loopB, hd])
    go_enter Try.func22, Try.ntmps22
    go_wp2_with (first
      | (go_at_call 52; refine (l05Drops_any _ xs _ (RowW.of_row HV.out) (by omega)).mono ?_; rintro e w' ⟨rfl, rfl⟩)
      | (go_at_call 53; refine (l05Sum_any _ xs _ (RowW.of_row HV.out) HB.out.1 HB.out.2).mono ?_; rintro e w' ⟨rfl, rfl⟩))
    go_ret2
    exact ⟨ret_ii HE.out.1.symm HE.out.2.symm, rfl⟩
  · have HE := Lib.hid (show loopA xs = xs.sum ∧ loopB xs = 0 by simp [loopA, loopB, hd])
    have HB := Lib.hid (dropsL_bd hd)
    go_enter Try.func22, Try.ntmps22
    go_wp2_with (first
      | (go_at_call 52; refine (l05Drops_any _ xs _ (RowW.of_row HV.out) (by omega)).mono ?_; rintro e w' ⟨rfl, rfl⟩)
      | (go_at_call 53; refine (l05Sum_any _ xs _ (RowW.of_row HV.out) HB.out.1 HB.out.2).mono ?_; rintro e w' ⟨rfl, rfl⟩))
    go_ret2
    exact ⟨ret_ii HE.out.1.symm HE.out.2.symm, rfl⟩
theorem iLoopError_any (v : Value) (xs : List Int) (w : World) (hv : Row .i64 w v xs) (hl : xs.length ≤ 1048576) :
    Calls Try.prog 24 #[v] w fun e w' => e = .returned (.tuple #[.int .i64 (loopA xs), .int .i64 (loopB xs)]) ∧ w = w' := by
  have HV := Lib.hid hv
  clear hv
  cases hd : dropsL xs
  · have HE := Lib.hid (show loopA xs = 0 ∧ loopB xs = 2 by simp [loopA, loopB, hd])
    go_enter Try.func24, Try.ntmps24
    go_wp2_with (first
      | (go_at_call 54; refine (areDrops_any _ xs _ HV.out (by omega)).mono ?_; rintro e w' ⟨rfl, rfl⟩)
      | (go_at_call 55; refine (sumOf_any _ xs _ (RowW.of_row HV.out) HB.out.1 HB.out.2).mono ?_; rintro e w' ⟨rfl, rfl⟩))
    go_ret2
    exact ⟨ret_ii HE.out.1.symm HE.out.2.symm, rfl⟩
  · have HE := Lib.hid (show loopA xs = xs.sum ∧ loopB xs = 0 by simp [loopA, loopB, hd])
    have HB := Lib.hid (dropsL_bd hd)
    go_enter Try.func24, Try.ntmps24
    go_wp2_with (first
      | (go_at_call 54; refine (areDrops_any _ xs _ HV.out (by omega)).mono ?_; rintro e w' ⟨rfl, rfl⟩)
      | (go_at_call 55; refine (sumOf_any _ xs _ (RowW.of_row HV.out) HB.out.1 HB.out.2).mono ?_; rintro e w' ⟨rfl, rfl⟩))
    go_ret2
    exact ⟨ret_ii HE.out.1.symm HE.out.2.symm, rfl⟩
/-- Flows of a junction. -/
def flowsL (xs : List Int) : Bool := allR 0 100000 xs
theorem flowsL_bd {xs : List Int} (h : flowsL xs = true) : ∀ y ∈ xs, -100000 ≤ y ∧ y ≤ 100000 := fun y hy => by have := allR_iff.1 h y hy; omega
theorem flowsL_bad {xs : List Int} {k : Nat} (h : k < xs.length) (hn : ¬ (0 ≤ xs[k] ∧ xs[k] ≤ 100000)) : flowsL xs = false := allR_not (fun hh => hn (hh _ (List.getElem_mem h)))
theorem flowsL_good {xs : List Int} (h : ∀ j (h : j < xs.length), 0 ≤ xs[j] ∧ xs[j] ≤ 100000) : flowsL xs = true := allR_iff.2 fun y hy => by obtain ⟨j, hj, rfl⟩ := List.mem_iff_getElem.1 hy; exact h j hj
def junA (xs ys : List Int) : Int := if flowsL xs && flowsL ys then (if xs.length ≤ 64 ∧ ys.length ≤ 64 then xs.sum - ys.sum else 0) else 0
def junB (xs ys : List Int) : Int := if flowsL xs && flowsL ys then (if xs.length ≤ 64 ∧ ys.length ≤ 64 then 0 else 5) else 2
set_option maxHeartbeats 1000000 in
theorem sJunctionError_any (v u : Value) (xs ys : List Int) (w : World) (hv : Row .i64 w v xs) (hu : Row .i64 w u ys) (hl : xs.length ≤ 1048576) (hl2 : ys.length ≤ 1048576) :
    Calls Try.prog 30 #[v, u] w fun e w' => e = .returned (.tuple #[.int .i64 (junA xs ys), .int .i64 (junB xs ys)]) ∧ w = w' := by
  obtain ⟨A, cap, rfl⟩ := hv.form
  obtain ⟨A2, cap2, rfl⟩ := hu.form
  have HV := Lib.hid (And.intro hv hu)
  clear hv hu
  go_enter Try.func30, Try.ntmps30
  go_wp2
  go_loop [6] (fun i => ∃ k : Nat, k ≤ xs.length ∧ Hid (∀ j (h : j < xs.length), j < k → 0 ≤ xs[j] ∧ xs[j] ≤ 100000) ∧ i = .int .i64 k) (fun i => xs.length - (intOf i).toNat)
  case atStart => exact ⟨0, by omega, Lib.hid (fun j _ h => absurd h (by omega)), rfl⟩
  case round =>
    obtain ⟨k1, hk1, HA1, rfl⟩ := hrel
    by_cases hlt : k1 < xs.length
    · obtain ⟨b, off, rfl, _, hc⟩ := Row.cell HV.out.1 hlt
      rw [show xs.getD k1 0 = xs[k1] by simp [List.getD, hlt]] at hc
      by_cases hin : 0 ≤ xs[k1] ∧ xs[k1] ≤ 100000
      · have hi := inB_true hin.1 hin.2
        have HR := Lib.hid hin
        clear hin
        go_wp2_with (go_at_call 50; refine (l00In_any _ _ _ _).mono ?_; rintro e w' ⟨rfl, rfl⟩)
        go_round
        case rel => exact ⟨k1 + 1, by omega, Lib.hid (fun j h hj => by
          rcases Nat.lt_or_ge j k1 with q | q
          · exact HA1.out j h q
          · obtain rfl : j = k1 := by omega
            exact HR.out), by go_num⟩
        case measure => simp [intOf]; omega
      · have hi := inB_false hin
        have HE := Lib.hid (show junA xs ys = 0 ∧ junB xs ys = 2 by simp [junA, junB, flowsL_bad hlt hin])
        clear hin
        go_wp2_with (go_at_call 50; refine (l00In_any _ _ _ _).mono ?_; rintro e w' ⟨rfl, rfl⟩)
        go_ret2
        exact ⟨ret_ii HE.out.1.symm HE.out.2.symm, rfl⟩
    · obtain rfl : k1 = xs.length := by omega
      have HX := Lib.hid (flowsL_good (fun j h => HA1.out j h h))
      go_wp2
      go_loop [7] (fun i => ∃ k : Nat, k ≤ ys.length ∧ Hid (∀ j (h : j < ys.length), j < k → 0 ≤ ys[j] ∧ ys[j] ≤ 100000) ∧ i = .int .i64 k) (fun i => ys.length - (intOf i).toNat)
      case atStart => exact ⟨0, by omega, Lib.hid (fun j _ h => absurd h (by omega)), rfl⟩
      case round =>
        obtain ⟨k2, hk2, HA2, rfl⟩ := hrel
        by_cases hlt : k2 < ys.length
        · obtain ⟨b, off, rfl, _, hc⟩ := Row.cell HV.out.2 hlt
          rw [show ys.getD k2 0 = ys[k2] by simp [List.getD, hlt]] at hc
          by_cases hin : 0 ≤ ys[k2] ∧ ys[k2] ≤ 100000
          · have hi := inB_true hin.1 hin.2
            have HR := Lib.hid hin
            clear hin
            go_wp2_with (go_at_call 50; refine (l00In_any _ _ _ _).mono ?_; rintro e w' ⟨rfl, rfl⟩)
            go_round
            case rel => exact ⟨k2 + 1, by omega, Lib.hid (fun j h hj => by
              rcases Nat.lt_or_ge j k2 with q | q
              · exact HA2.out j h q
              · obtain rfl : j = k2 := by omega
                exact HR.out), by go_num⟩
            case measure => simp [intOf]; omega
          · have hi := inB_false hin
            have HE := Lib.hid (show junA xs ys = 0 ∧ junB xs ys = 2 by simp [junA, junB, flowsL_bad hlt hin, HX.out])
            clear hin
            go_wp2_with (go_at_call 50; refine (l00In_any _ _ _ _).mono ?_; rintro e w' ⟨rfl, rfl⟩)
            go_ret2
            exact ⟨ret_ii HE.out.1.symm HE.out.2.symm, rfl⟩
        · obtain rfl : k2 = ys.length := by omega
          have HY := Lib.hid (flowsL_good (fun j h => HA2.out j h h))
          by_cases l1 : xs.length ≤ 64
          · have t1 : ¬ (64 : Int) < (xs.length : Int) := by omega
            have t2 : decide ((64 : Int) < (xs.length : Int)) = false := decide_eq_false t1
            by_cases l2 : ys.length ≤ 64
            · have t3 : ¬ (64 : Int) < (ys.length : Int) := by omega
              have t4 : decide ((64 : Int) < (ys.length : Int)) = false := decide_eq_false t3
              have HE := Lib.hid (show junA xs ys = xs.sum - ys.sum ∧ junB xs ys = 0 by simp [junA, junB, HX.out, HY.out, l1, l2])
              have q1 := sum_all (flowsL_bd HX.out) l1
              have q2 := sum_all (flowsL_bd HY.out) l2
              obtain ⟨q3, q4⟩ := q1
              obtain ⟨q5, q6⟩ := q2
              go_wp2_with (first
          | (go_at_call 53; (with_reducible refine (l05Sum_any _ xs _ (RowW.of_row HV.out.1) (flowsL_bd HX.out) l1).mono ?_); rintro e w' ⟨rfl, rfl⟩)
          | (go_at_call 53; (with_reducible refine (l05Sum_any _ ys _ (RowW.of_row HV.out.2) (flowsL_bd HY.out) l2).mono ?_); rintro e w' ⟨rfl, rfl⟩))
              go_ret2
              exact ⟨ret_ii HE.out.1.symm HE.out.2.symm, rfl⟩
            · have t3 : (64 : Int) < (ys.length : Int) := by omega
              have HE := Lib.hid (show junA xs ys = 0 ∧ junB xs ys = 5 by simp [junA, junB, HX.out, HY.out, l2])
              go_wp2
              go_ret2
              exact ⟨ret_ii HE.out.1.symm HE.out.2.symm, rfl⟩
          · have t1 : (64 : Int) < (xs.length : Int) := by omega
            have HE := Lib.hid (show junA xs ys = 0 ∧ junB xs ys = 5 by simp [junA, junB, HX.out, HY.out, l1])
            go_wp2
            go_ret2
            exact ⟨ret_ii HE.out.1.symm HE.out.2.symm, rfl⟩
set_option maxHeartbeats 1000000 in
theorem iJunctionError_any (v u : Value) (xs ys : List Int) (w : World) (hv : Row .i64 w v xs) (hu : Row .i64 w u ys) (hl : xs.length ≤ 1048576) (hl2 : ys.length ≤ 1048576) :
    Calls Try.prog 31 #[v, u] w fun e w' => e = .returned (.tuple #[.int .i64 (junA xs ys), .int .i64 (junB xs ys)]) ∧ w = w' := by
  obtain ⟨A, cap, rfl⟩ := hv.form
  obtain ⟨A2, cap2, rfl⟩ := hu.form
  have HV := Lib.hid (And.intro hv hu)
  clear hv hu
  have HL := Lib.hid (And.intro (show xs.length ≤ 4000000000000000000 by omega) (show ys.length ≤ 4000000000000000000 by omega))
  clear hl hl2
  have HF := Lib.hid (And.intro (show allR 0 100000 xs = flowsL xs from rfl) (show allR 0 100000 ys = flowsL ys from rfl))
  cases hx : flowsL xs
  · have hx2 := HF.out.1.trans hx
    have HE := Lib.hid (show junA xs ys = 0 ∧ junB xs ys = 2 by simp [junA, junB, hx])
    go_enter Try.func31, Try.ntmps31
    go_wp2_with (go_at_call 42; refine (within64_any _ _ _ xs _ HV.out.1 HL.out.1).mono ?_; rintro e w' ⟨rfl, rfl⟩)
    go_ret2
    exact ⟨ret_ii HE.out.1.symm HE.out.2.symm, rfl⟩
  · have hx2 := HF.out.1.trans hx
    have HX := Lib.hid hx
    cases hy : flowsL ys
    · have hy2 := HF.out.2.trans hy
      have HE := Lib.hid (show junA xs ys = 0 ∧ junB xs ys = 2 by simp [junA, junB, hy])
      go_enter Try.func31, Try.ntmps31
      go_wp2_with (first
      | (go_at_call 42; (with_reducible refine (within64_any _ _ _ xs _ HV.out.1 HL.out.1).mono ?_); rintro e w' ⟨rfl, rfl⟩)
      | (go_at_call 42; (with_reducible refine (within64_any _ _ _ ys _ HV.out.2 HL.out.2).mono ?_); rintro e w' ⟨rfl, rfl⟩))
      go_ret2
      exact ⟨ret_ii HE.out.1.symm HE.out.2.symm, rfl⟩
    · have hy2 := HF.out.2.trans hy
      have HY := Lib.hid hy
      by_cases l12 : xs.length ≤ 64 ∧ ys.length ≤ 64
      · obtain ⟨l1, l2⟩ := l12
        have HE := Lib.hid (show junA xs ys = xs.sum - ys.sum ∧ junB xs ys = 0 by simp [junA, junB, HX.out, HY.out, l1, l2])
        have q1 := sum_all (flowsL_bd HX.out) l1
        have q2 := sum_all (flowsL_bd HY.out) l2
        obtain ⟨q3, q4⟩ := q1
        obtain ⟨q5, q6⟩ := q2
        have HLL := Lib.hid (And.intro l1 l2)
        have t1 : (xs.length : Int) ≤ 64 := by omega
        have t2 : (ys.length : Int) ≤ 64 := by omega
        clear l1 l2
        go_enter Try.func31, Try.ntmps31
        go_wp2_with (first
      | (go_at_call 42; (with_reducible refine (within64_any _ _ _ xs _ HV.out.1 HL.out.1).mono ?_); rintro e w' ⟨rfl, rfl⟩)
      | (go_at_call 42; (with_reducible refine (within64_any _ _ _ ys _ HV.out.2 HL.out.2).mono ?_); rintro e w' ⟨rfl, rfl⟩)
      | (go_at_call 55; (with_reducible refine (sumOf_any _ xs _ (RowW.of_row HV.out.1) (flowsL_bd HX.out) HLL.out.1).mono ?_); rintro e w' ⟨rfl, rfl⟩)
      | (go_at_call 55; (with_reducible refine (sumOf_any _ ys _ (RowW.of_row HV.out.2) (flowsL_bd HY.out) HLL.out.2).mono ?_); rintro e w' ⟨rfl, rfl⟩))
        all_goals first
          | (exfalso; omega)
          | (go_ret2; exact ⟨ret_ii HE.out.1.symm HE.out.2.symm, rfl⟩)
      · have HE := Lib.hid (show junA xs ys = 0 ∧ junB xs ys = 5 by simp [junA, junB, HX.out, HY.out]; omega)
        have HN := Lib.hid (show 64 < (xs.length : Int) ∨ 64 < (ys.length : Int) by omega)
        clear l12
        rcases HN.out with t3 | t3
        all_goals
          go_enter Try.func31, Try.ntmps31
          go_wp2_with (first
      | (go_at_call 42; (with_reducible refine (within64_any _ _ _ xs _ HV.out.1 HL.out.1).mono ?_); rintro e w' ⟨rfl, rfl⟩)
      | (go_at_call 42; (with_reducible refine (within64_any _ _ _ ys _ HV.out.2 HL.out.2).mono ?_); rintro e w' ⟨rfl, rfl⟩)
      | (go_at_call 55; (with_reducible refine (sumOf_any _ xs _ (RowW.of_row HV.out.1) (flowsL_bd HX.out) HLL.out.1).mono ?_); rintro e w' ⟨rfl, rfl⟩)
      | (go_at_call 55; (with_reducible refine (sumOf_any _ ys _ (RowW.of_row HV.out.2) (flowsL_bd HY.out) HLL.out.2).mono ?_); rintro e w' ⟨rfl, rfl⟩))
          all_goals first
            | (exfalso; omega)
            | (go_ret2; exact ⟨ret_ii HE.out.1.symm HE.out.2.symm, rfl⟩)
end Go.Proofs.Ytbjfdhbgnklahaa
