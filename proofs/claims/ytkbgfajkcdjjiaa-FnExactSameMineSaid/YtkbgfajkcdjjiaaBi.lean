/-
  Contracts of the generic least, greatest and within at int and byte. Conditions: those that each theorem states.
-/
import Derived.Test.YtkbgfajkcdjjiaaBa
namespace Go.Proofs.Ytkbgfajkcdjjiaa
open Go.RowKit
set_option linter.unusedVariables false

theorem leastN_any (x : Int) (v : Value) (xs : List Int) (w : World) (hv : Row .i64 w v xs) (hl : xs.length ≤ 4000000000000000000) :
    Calls Try.prog 116 #[.int .i64 x, v] w fun e w' => e = .returned (.int .i64 (leastOf x xs)) ∧ w = w' := by
  rcases hv with ⟨rfl, rfl⟩ | ⟨b, off, cap, rfl, hc⟩
  · go_enter Try.func116, Try.ntmps116
    go_wp2
    go_rounds 1
    go_ret
    exact ⟨rfl, rfl⟩
  · have HC := Lib.hid hc; clear hc
    go_enter Try.func116, Try.ntmps116
    go_wp2
    go_loop [0, 9] (fun t i => ∃ k : Nat, k ≤ xs.length ∧ i = .int .i64 k ∧ t = .int .i64 (leastOf x (xs.take k))) (fun _ i => xs.length - (intOf i).toNat)
    case atStart => exact ⟨0, Nat.zero_le _, rfl, rfl⟩
    case round =>
      obtain ⟨k, hk, rfl, rfl⟩ := hrel
      by_cases hlt : k < xs.length
      · have hcell := HC.out k hlt
        go_wp2
        go_round
        case rel => exact ⟨k + 1, by omega, by go_num, by rw [leastOf_snoc x xs k hlt]⟩
        case measure => simp [intOf]; omega
      · go_wp2
        go_ret
        exact ⟨ret_int (by rw [List.take_of_length_le (by omega)]), rfl⟩

theorem greatestN_any (x : Int) (v : Value) (xs : List Int) (w : World) (hv : Row .i64 w v xs) (hl : xs.length ≤ 4000000000000000000) :
    Calls Try.prog 117 #[.int .i64 x, v] w fun e w' => e = .returned (.int .i64 (greatestOf x xs)) ∧ w = w' := by
  rcases hv with ⟨rfl, rfl⟩ | ⟨b, off, cap, rfl, hc⟩
  · go_enter Try.func117, Try.ntmps117
    go_wp2
    go_rounds 1
    go_ret
    exact ⟨rfl, rfl⟩
  · have HC := Lib.hid hc; clear hc
    go_enter Try.func117, Try.ntmps117
    go_wp2
    go_loop [0, 9] (fun t i => ∃ k : Nat, k ≤ xs.length ∧ i = .int .i64 k ∧ t = .int .i64 (greatestOf x (xs.take k))) (fun _ i => xs.length - (intOf i).toNat)
    case atStart => exact ⟨0, Nat.zero_le _, rfl, rfl⟩
    case round =>
      obtain ⟨k, hk, rfl, rfl⟩ := hrel
      by_cases hlt : k < xs.length
      · have hcell := HC.out k hlt
        go_wp2
        go_round
        case rel => exact ⟨k + 1, by omega, by go_num, by rw [greatestOf_snoc x xs k hlt]⟩
        case measure => simp [intOf]; omega
      · go_wp2
        go_ret
        exact ⟨ret_int (by rw [List.take_of_length_le (by omega)]), rfl⟩

theorem withinN_any (lo hi x : Int) (v : Value) (xs : List Int) (w : World) (hv : Row .i64 w v xs) (hl : xs.length ≤ 4000000000000000000) :
    Calls Try.prog 101 #[.int .i64 lo, .int .i64 hi, .int .i64 x, v] w fun e w' => e = .returned (.bool (allIn lo hi x xs)) ∧ w = w' := by
  by_cases h1 : lo ≤ leastOf x xs
  · by_cases h2 : greatestOf x xs ≤ hi
    all_goals
      go_enter Try.func101, Try.ntmps101
      go_wp2_with (first
        | (go_at_call 116; refine (leastN_any x v xs _ hv hl).mono ?_; rintro e w' ⟨rfl, rfl⟩)
        | (go_at_call 117; refine (greatestN_any x v xs _ hv hl).mono ?_; rintro e w' ⟨rfl, rfl⟩))
      go_ret
      exact ⟨ret_bool (by simp only [allIn, h1, decide_true, Bool.true_and]; try (first | rfl | exact (decide_eq_true (by omega)).symm | exact (decide_eq_false (by omega)).symm)), rfl⟩
  · go_enter Try.func101, Try.ntmps101
    go_wp2_with (first
      | (go_at_call 116; refine (leastN_any x v xs _ hv hl).mono ?_; rintro e w' ⟨rfl, rfl⟩)
      | (go_at_call 117; refine (greatestN_any x v xs _ hv hl).mono ?_; rintro e w' ⟨rfl, rfl⟩))
    go_ret
    exact ⟨ret_bool (by simp only [allIn, decide_eq_false (show ¬ lo ≤ leastOf x xs by omega), Bool.false_and]), rfl⟩

theorem withinN_one (lo hi x : Int) (w : World) :
    Calls Try.prog 101 #[.int .i64 lo, .int .i64 hi, .int .i64 x, .slice none 0 0] w fun e w' => e = .returned (.bool (inB x lo hi)) ∧ w = w' := by
  have h := withinN_any lo hi x (.slice none 0 0) [] w (Or.inl ⟨rfl, rfl⟩) (by simp)
  rwa [allIn_nil] at h

theorem least8_any (x : Int) (v : Value) (xs : List Int) (w : World) (hv : Row .u8 w v xs) (hl : xs.length ≤ 4000000000000000000) :
    Calls Try.prog 118 #[.int .u8 x, v] w fun e w' => e = .returned (.int .u8 (leastOf x xs)) ∧ w = w' := by
  rcases hv with ⟨rfl, rfl⟩ | ⟨b, off, cap, rfl, hc⟩
  · go_enter Try.func118, Try.ntmps118
    go_wp2
    go_rounds 1
    go_ret
    exact ⟨rfl, rfl⟩
  · have HC := Lib.hid hc; clear hc
    go_enter Try.func118, Try.ntmps118
    go_wp2
    go_loop [0, 9] (fun t i => ∃ k : Nat, k ≤ xs.length ∧ i = .int .i64 k ∧ t = .int .u8 (leastOf x (xs.take k))) (fun _ i => xs.length - (intOf i).toNat)
    case atStart => exact ⟨0, Nat.zero_le _, rfl, rfl⟩
    case round =>
      obtain ⟨k, hk, rfl, rfl⟩ := hrel
      by_cases hlt : k < xs.length
      · have hcell := HC.out k hlt
        go_wp2
        go_round
        case rel => exact ⟨k + 1, by omega, by go_num, by rw [leastOf_snoc x xs k hlt]⟩
        case measure => simp [intOf]; omega
      · go_wp2
        go_ret
        exact ⟨ret_int (by rw [List.take_of_length_le (by omega)]), rfl⟩

theorem greatest8_any (x : Int) (v : Value) (xs : List Int) (w : World) (hv : Row .u8 w v xs) (hl : xs.length ≤ 4000000000000000000) :
    Calls Try.prog 119 #[.int .u8 x, v] w fun e w' => e = .returned (.int .u8 (greatestOf x xs)) ∧ w = w' := by
  rcases hv with ⟨rfl, rfl⟩ | ⟨b, off, cap, rfl, hc⟩
  · go_enter Try.func119, Try.ntmps119
    go_wp2
    go_rounds 1
    go_ret
    exact ⟨rfl, rfl⟩
  · have HC := Lib.hid hc; clear hc
    go_enter Try.func119, Try.ntmps119
    go_wp2
    go_loop [0, 9] (fun t i => ∃ k : Nat, k ≤ xs.length ∧ i = .int .i64 k ∧ t = .int .u8 (greatestOf x (xs.take k))) (fun _ i => xs.length - (intOf i).toNat)
    case atStart => exact ⟨0, Nat.zero_le _, rfl, rfl⟩
    case round =>
      obtain ⟨k, hk, rfl, rfl⟩ := hrel
      by_cases hlt : k < xs.length
      · have hcell := HC.out k hlt
        go_wp2
        go_round
        case rel => exact ⟨k + 1, by omega, by go_num, by rw [greatestOf_snoc x xs k hlt]⟩
        case measure => simp [intOf]; omega
      · go_wp2
        go_ret
        exact ⟨ret_int (by rw [List.take_of_length_le (by omega)]), rfl⟩

theorem within8_any (lo hi x : Int) (v : Value) (xs : List Int) (w : World) (hv : Row .u8 w v xs) (hl : xs.length ≤ 4000000000000000000) :
    Calls Try.prog 102 #[.int .u8 lo, .int .u8 hi, .int .u8 x, v] w fun e w' => e = .returned (.bool (allIn lo hi x xs)) ∧ w = w' := by
  by_cases h1 : lo ≤ leastOf x xs
  · by_cases h2 : greatestOf x xs ≤ hi
    all_goals
      go_enter Try.func102, Try.ntmps102
      go_wp2_with (first
        | (go_at_call 118; refine (least8_any x v xs _ hv hl).mono ?_; rintro e w' ⟨rfl, rfl⟩)
        | (go_at_call 119; refine (greatest8_any x v xs _ hv hl).mono ?_; rintro e w' ⟨rfl, rfl⟩))
      go_ret
      exact ⟨ret_bool (by simp only [allIn, h1, decide_true, Bool.true_and]; try (first | rfl | exact (decide_eq_true (by omega)).symm | exact (decide_eq_false (by omega)).symm)), rfl⟩
  · go_enter Try.func102, Try.ntmps102
    go_wp2_with (first
      | (go_at_call 118; refine (least8_any x v xs _ hv hl).mono ?_; rintro e w' ⟨rfl, rfl⟩)
      | (go_at_call 119; refine (greatest8_any x v xs _ hv hl).mono ?_; rintro e w' ⟨rfl, rfl⟩))
    go_ret
    exact ⟨ret_bool (by simp only [allIn, decide_eq_false (show ¬ lo ≤ leastOf x xs by omega), Bool.false_and]), rfl⟩

theorem within8_one (lo hi x : Int) (w : World) :
    Calls Try.prog 102 #[.int .u8 lo, .int .u8 hi, .int .u8 x, .slice none 0 0] w fun e w' => e = .returned (.bool (inB x lo hi)) ∧ w = w' := by
  have h := within8_any lo hi x (.slice none 0 0) [] w (Or.inl ⟨rfl, rfl⟩) (by simp)
  rwa [allIn_nil] at h

end Go.Proofs.Ytkbgfajkcdjjiaa
