/-
  Contracts of the generic least, greatest and within at int and byte. Conditions: those that each theorem states.
-/
import Derived.Test.YthbofhlfggkolaaBa
namespace Go.Proofs.Ythbofhlfggkolaa
open Go.RowKit
set_option linter.unusedVariables false

theorem leastN_any (x : Int) (v : Value) (xs : List Int) (w : World) (hv : Row .i64 w v xs) (hl : xs.length ≤ 4000000000000000000) :
    Calls Try.prog 102 #[.int .i64 x, v] w fun e w' => e = .returned (.int .i64 (leastOf x xs)) ∧ w = w' := by
  rcases hv with ⟨rfl, rfl⟩ | ⟨b, off, cap, rfl, hc⟩
  · go_enter Try.func102, Try.ntmps102
    go_wp2
    go_rounds 1
    go_ret
    exact ⟨rfl, rfl⟩
  · have HC := Lib.hid hc; clear hc
    go_enter Try.func102, Try.ntmps102
    go_wp2
    go_loop [0, 9] (fun t i => ∃ k : Nat, k ≤ xs.length ∧ i = .int .i64 k ∧ t = .int .i64 (leastOf x (xs.take k))) (fun _ i => xs.length - (intOf i).toNat)
    case atStart => exact ⟨0, Nat.zero_le _, rfl, rfl⟩
    case round =>
      obtain ⟨k, hk, rfl, rfl⟩ := hrel
      by_cases hlt : k < xs.length
      · have hcell := HC.out k hlt
        go_wp2
        go_round
        case rel => exact ⟨k + 1, by omega, by go_num, by rw [leastOf_snoc x xs k hlt]⟩
        case measure => simp [intOf]; omega
      · go_wp2
        go_ret
        exact ⟨ret_int (by rw [List.take_of_length_le (by omega)]), rfl⟩

theorem greatestN_any (x : Int) (v : Value) (xs : List Int) (w : World) (hv : Row .i64 w v xs) (hl : xs.length ≤ 4000000000000000000) :
    Calls Try.prog 103 #[.int .i64 x, v] w fun e w' => e = .returned (.int .i64 (greatestOf x xs)) ∧ w = w' := by
  rcases hv with ⟨rfl, rfl⟩ | ⟨b, off, cap, rfl, hc⟩
  · go_enter Try.func103, Try.ntmps103
    go_wp2
    go_rounds 1
    go_ret
    exact ⟨rfl, rfl⟩
  · have HC := Lib.hid hc; clear hc
    go_enter Try.func103, Try.ntmps103
    go_wp2
    go_loop [0, 9] (fun t i => ∃ k : Nat, k ≤ xs.length ∧ i = .int .i64 k ∧ t = .int .i64 (greatestOf x (xs.take k))) (fun _ i => xs.length - (intOf i).toNat)
    case atStart => exact ⟨0, Nat.zero_le _, rfl, rfl⟩
    case round =>
      obtain ⟨k, hk, rfl, rfl⟩ := hrel
      by_cases hlt : k < xs.length
      · have hcell := HC.out k hlt
        go_wp2
        go_round
        case rel => exact ⟨k + 1, by omega, by go_num, by rw [greatestOf_snoc x xs k hlt]⟩
        case measure => simp [intOf]; omega
      · go_wp2
        go_ret
        exact ⟨ret_int (by rw [List.take_of_length_le (by omega)]), rfl⟩

theorem withinN_any (lo hi : Int) (v : Value) (xs : List Int) (w : World) (hv : Row .i64 w v xs) (hl : xs.length ≤ 4000000000000000000) :
    Calls Try.prog 95 #[.int .i64 lo, .int .i64 hi, v] w fun e w' => e = .returned (.bool (allR lo hi xs)) ∧ w = w' := by
  have HL := Lib.hid (leastN_any lo v xs w hv hl)
  have HG := Lib.hid (greatestN_any hi v xs w hv hl)
  rw [show allR lo hi xs = (decide (leastOf lo xs = lo) && decide (greatestOf hi xs = hi)) from rfl]
  clear hv hl
  generalize leastOf lo xs = a at *
  generalize greatestOf hi xs = b at *
  by_cases h1 : a = lo
  · subst h1
    by_cases h2 : b = hi
    · subst h2
      go_enter Try.func95, Try.ntmps95
      go_wp2_with (first
        | (go_at_call 102; refine HL.out.mono ?_; rintro e w' ⟨rfl, rfl⟩)
        | (go_at_call 103; refine HG.out.mono ?_; rintro e w' ⟨rfl, rfl⟩))
      go_ret
      exact ⟨ret_bool (by simp), rfl⟩
    · have h3 : (b == hi) = false := beq_false_of_ne h2
      go_enter Try.func95, Try.ntmps95
      go_wp2_with (first
        | (go_at_call 102; refine HL.out.mono ?_; rintro e w' ⟨rfl, rfl⟩)
        | (go_at_call 103; refine HG.out.mono ?_; rintro e w' ⟨rfl, rfl⟩))
      go_ret
      exact ⟨ret_bool (by first | (simp [h2]; done) | simp [h3]), rfl⟩
  · have h3 : (a == lo) = false := beq_false_of_ne h1
    go_enter Try.func95, Try.ntmps95
    go_wp2_with (first
        | (go_at_call 102; refine HL.out.mono ?_; rintro e w' ⟨rfl, rfl⟩)
        | (go_at_call 103; refine HG.out.mono ?_; rintro e w' ⟨rfl, rfl⟩))
    go_ret
    exact ⟨ret_bool (by first | (simp [h1]; done) | simp [h3]), rfl⟩

/-- within at a number that lies in a block of its own. -/
theorem withinN_one (lo hi x : Int) (W : World) (T : TypeId) (b : Nat) (hb : b = W.heap.size) :
    Calls Try.prog 95 #[.int .i64 lo, .int .i64 hi, .slice (some ⟨b, 0, none⟩) 1 1] (W.alloc (.cells #[.int .i64 x] T)) fun e w' => e = .returned (.bool (inB x lo hi)) ∧ W.alloc (.cells #[.int .i64 x] T) = w' := by
  have h := withinN_any lo hi (.slice (some ⟨b, 0, none⟩) 1 1) [x] _ (row_here .i64 W [x] T b 1 1 hb rfl) (by simp)
  rwa [allR_one] at h
theorem withinN_two (lo hi x y : Int) (W : World) (T : TypeId) (b : Nat) (hb : b = W.heap.size) :
    Calls Try.prog 95 #[.int .i64 lo, .int .i64 hi, .slice (some ⟨b, 0, none⟩) 2 2] (W.alloc (.cells #[.int .i64 x, .int .i64 y] T)) fun e w' => e = .returned (.bool (allR lo hi [x, y])) ∧ W.alloc (.cells #[.int .i64 x, .int .i64 y] T) = w' := by
  have h := withinN_any lo hi (.slice (some ⟨b, 0, none⟩) 2 2) [x, y] _ (row_here .i64 W [x, y] T b 2 2 hb rfl) (by simp)
  exact h

theorem least8_any (x : Int) (v : Value) (xs : List Int) (w : World) (hv : Row .u8 w v xs) (hl : xs.length ≤ 4000000000000000000) :
    Calls Try.prog 104 #[.int .u8 x, v] w fun e w' => e = .returned (.int .u8 (leastOf x xs)) ∧ w = w' := by
  rcases hv with ⟨rfl, rfl⟩ | ⟨b, off, cap, rfl, hc⟩
  · go_enter Try.func104, Try.ntmps104
    go_wp2
    go_rounds 1
    go_ret
    exact ⟨rfl, rfl⟩
  · have HC := Lib.hid hc; clear hc
    go_enter Try.func104, Try.ntmps104
    go_wp2
    go_loop [0, 9] (fun t i => ∃ k : Nat, k ≤ xs.length ∧ i = .int .i64 k ∧ t = .int .u8 (leastOf x (xs.take k))) (fun _ i => xs.length - (intOf i).toNat)
    case atStart => exact ⟨0, Nat.zero_le _, rfl, rfl⟩
    case round =>
      obtain ⟨k, hk, rfl, rfl⟩ := hrel
      by_cases hlt : k < xs.length
      · have hcell := HC.out k hlt
        go_wp2
        go_round
        case rel => exact ⟨k + 1, by omega, by go_num, by rw [leastOf_snoc x xs k hlt]⟩
        case measure => simp [intOf]; omega
      · go_wp2
        go_ret
        exact ⟨ret_int (by rw [List.take_of_length_le (by omega)]), rfl⟩

theorem greatest8_any (x : Int) (v : Value) (xs : List Int) (w : World) (hv : Row .u8 w v xs) (hl : xs.length ≤ 4000000000000000000) :
    Calls Try.prog 105 #[.int .u8 x, v] w fun e w' => e = .returned (.int .u8 (greatestOf x xs)) ∧ w = w' := by
  rcases hv with ⟨rfl, rfl⟩ | ⟨b, off, cap, rfl, hc⟩
  · go_enter Try.func105, Try.ntmps105
    go_wp2
    go_rounds 1
    go_ret
    exact ⟨rfl, rfl⟩
  · have HC := Lib.hid hc; clear hc
    go_enter Try.func105, Try.ntmps105
    go_wp2
    go_loop [0, 9] (fun t i => ∃ k : Nat, k ≤ xs.length ∧ i = .int .i64 k ∧ t = .int .u8 (greatestOf x (xs.take k))) (fun _ i => xs.length - (intOf i).toNat)
    case atStart => exact ⟨0, Nat.zero_le _, rfl, rfl⟩
    case round =>
      obtain ⟨k, hk, rfl, rfl⟩ := hrel
      by_cases hlt : k < xs.length
      · have hcell := HC.out k hlt
        go_wp2
        go_round
        case rel => exact ⟨k + 1, by omega, by go_num, by rw [greatestOf_snoc x xs k hlt]⟩
        case measure => simp [intOf]; omega
      · go_wp2
        go_ret
        exact ⟨ret_int (by rw [List.take_of_length_le (by omega)]), rfl⟩

theorem within8_any (lo hi : Int) (v : Value) (xs : List Int) (w : World) (hv : Row .u8 w v xs) (hl : xs.length ≤ 4000000000000000000) :
    Calls Try.prog 96 #[.int .u8 lo, .int .u8 hi, v] w fun e w' => e = .returned (.bool (allR lo hi xs)) ∧ w = w' := by
  have HL := Lib.hid (least8_any lo v xs w hv hl)
  have HG := Lib.hid (greatest8_any hi v xs w hv hl)
  rw [show allR lo hi xs = (decide (leastOf lo xs = lo) && decide (greatestOf hi xs = hi)) from rfl]
  clear hv hl
  generalize leastOf lo xs = a at *
  generalize greatestOf hi xs = b at *
  by_cases h1 : a = lo
  · subst h1
    by_cases h2 : b = hi
    · subst h2
      go_enter Try.func96, Try.ntmps96
      go_wp2_with (first
        | (go_at_call 104; refine HL.out.mono ?_; rintro e w' ⟨rfl, rfl⟩)
        | (go_at_call 105; refine HG.out.mono ?_; rintro e w' ⟨rfl, rfl⟩))
      go_ret
      exact ⟨ret_bool (by simp), rfl⟩
    · have h3 : (b == hi) = false := beq_false_of_ne h2
      go_enter Try.func96, Try.ntmps96
      go_wp2_with (first
        | (go_at_call 104; refine HL.out.mono ?_; rintro e w' ⟨rfl, rfl⟩)
        | (go_at_call 105; refine HG.out.mono ?_; rintro e w' ⟨rfl, rfl⟩))
      go_ret
      exact ⟨ret_bool (by first | (simp [h2]; done) | simp [h3]), rfl⟩
  · have h3 : (a == lo) = false := beq_false_of_ne h1
    go_enter Try.func96, Try.ntmps96
    go_wp2_with (first
        | (go_at_call 104; refine HL.out.mono ?_; rintro e w' ⟨rfl, rfl⟩)
        | (go_at_call 105; refine HG.out.mono ?_; rintro e w' ⟨rfl, rfl⟩))
    go_ret
    exact ⟨ret_bool (by first | (simp [h1]; done) | simp [h3]), rfl⟩

/-- within at a number that lies in a block of its own. -/
theorem within8_one (lo hi x : Int) (W : World) (T : TypeId) (b : Nat) (hb : b = W.heap.size) :
    Calls Try.prog 96 #[.int .u8 lo, .int .u8 hi, .slice (some ⟨b, 0, none⟩) 1 1] (W.alloc (.cells #[.int .u8 x] T)) fun e w' => e = .returned (.bool (inB x lo hi)) ∧ W.alloc (.cells #[.int .u8 x] T) = w' := by
  have h := within8_any lo hi (.slice (some ⟨b, 0, none⟩) 1 1) [x] _ (row_here .u8 W [x] T b 1 1 hb rfl) (by simp)
  rwa [allR_one] at h
theorem within8_two (lo hi x y : Int) (W : World) (T : TypeId) (b : Nat) (hb : b = W.heap.size) :
    Calls Try.prog 96 #[.int .u8 lo, .int .u8 hi, .slice (some ⟨b, 0, none⟩) 2 2] (W.alloc (.cells #[.int .u8 x, .int .u8 y] T)) fun e w' => e = .returned (.bool (allR lo hi [x, y])) ∧ W.alloc (.cells #[.int .u8 x, .int .u8 y] T) = w' := by
  have h := within8_any lo hi (.slice (some ⟨b, 0, none⟩) 2 2) [x, y] _ (row_here .u8 W [x, y] T b 2 2 hb rfl) (by simp)
  exact h

end Go.Proofs.Ythbofhlfggkolaa
