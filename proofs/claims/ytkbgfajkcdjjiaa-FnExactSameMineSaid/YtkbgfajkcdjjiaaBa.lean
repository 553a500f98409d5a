/-
  Contracts of the small functions of chapter 1 that compute with numbers alone, and of the generic least, greatest and within. Conditions: those that each theorem states.
-/
import Derived.Test.YtkbgfajkcdjjiaaRows
import Derived.WalkKit
import Derived.ProofKit
import Derived.OpenShut
import Derived.LoopTactic
import Derived.Below
import Derived.Lib.Hide
import Derived.Handy
import Derived.BigQuiet
import Derived.Deep.QuietTactic
import Derived.WalkLawsBesides
import Derived.WalkSpells
namespace Go.Proofs.Ytkbgfajkcdjjiaa
open Go.RowKit
set_option linter.unusedVariables false

theorem ret_int {k : IntKind} {a b : Int} (h : a = b) : Ending.returned (.int k a) = .returned (.int k b) := by rw [h]
theorem ret_bool {a b : Bool} (h : a = b) : Ending.returned (.bool a) = .returned (.bool b) := by rw [h]

theorem grown_trans {a b c : World} (h : Grown a b) (k : Grown b c) : Grown a c := ⟨World.keptBut_trans h.1 k.1, fun x => (k.2.1 x).trans (h.2.1 x), Nat.le_trans h.2.2 k.2.2⟩

def inB (a lo hi : Int) : Bool := decide (lo ≤ a) && decide (a ≤ hi)
theorem inB_true {a lo hi : Int} (h1 : lo ≤ a) (h2 : a ≤ hi) : inB a lo hi = true := by simp [inB, h1, h2]
theorem inB_false {a lo hi : Int} (h : ¬ (lo ≤ a ∧ a ≤ hi)) : inB a lo hi = false := by
  simp only [inB, Bool.and_eq_false_iff, decide_eq_false_iff_not]; omega
theorem inB_iff {a lo hi : Int} : inB a lo hi = true ↔ lo ≤ a ∧ a ≤ hi := by simp [inB]

theorem l00In_any (a lo hi : Int) (w : World) :
    Calls Try.prog 83 #[.int .i64 a, .int .i64 lo, .int .i64 hi] w fun e w' => e = .returned (.bool (inB a lo hi)) ∧ w = w' := by
  by_cases h1 : lo ≤ a
  · by_cases h2 : a ≤ hi
    · rw [inB_true h1 h2]
      go_enter Try.func83, Try.ntmps83
      go_wp2
      go_ret
      exact ⟨rfl, rfl⟩
    · rw [inB_false (by omega)]
      go_enter Try.func83, Try.ntmps83
      go_wp2
      go_ret
      exact ⟨rfl, rfl⟩
  · rw [inB_false (by omega)]
    go_enter Try.func83, Try.ntmps83
    go_wp2
    go_ret
    exact ⟨rfl, rfl⟩

/-- A slice value that reads as the numbers xs. -/
def Row (k : IntKind) (w : World) (v : Value) (xs : List Int) : Prop :=
  (xs = [] ∧ v = .slice none 0 0) ∨ ∃ b off cap, v = .slice (some ⟨b, off, none⟩) xs.length cap ∧ ∀ j, j < xs.length → w.cell? ⟨b, off + j, none⟩ = some (.int k (xs.getD j 0))

def min2 (a b : Int) : Int := if b < a then b else a
def max2 (a b : Int) : Int := if a < b then b else a
def leastOf (x : Int) (xs : List Int) : Int := xs.foldl min2 x
def greatestOf (x : Int) (xs : List Int) : Int := xs.foldl max2 x
theorem leastOf_snoc (x : Int) (xs : List Int) (k : Nat) (h : k < xs.length) : leastOf x (xs.take (k + 1)) = if xs[k] < leastOf x (xs.take k) then xs[k] else leastOf x (xs.take k) := by
  unfold leastOf; rw [List.take_add_one, List.foldl_append]; simp [List.getElem?_eq_getElem h, min2]
theorem greatestOf_snoc (x : Int) (xs : List Int) (k : Nat) (h : k < xs.length) : greatestOf x (xs.take (k + 1)) = if greatestOf x (xs.take k) < xs[k] then xs[k] else greatestOf x (xs.take k) := by
  unfold greatestOf; rw [List.take_add_one, List.foldl_append]; simp [List.getElem?_eq_getElem h, max2]
theorem le_leastOf {lo x : Int} {xs : List Int} : lo ≤ leastOf x xs ↔ lo ≤ x ∧ ∀ y ∈ xs, lo ≤ y := by
  unfold leastOf
  induction xs generalizing x with
  | nil => simp
  | cons y ys ih => rw [List.foldl_cons, ih]; simp only [min2, List.mem_cons, forall_eq_or_imp]; split <;> constructor <;> rintro ⟨a, b⟩ <;> first | exact ⟨by omega, by omega, b⟩ | exact ⟨by omega, b.2⟩
theorem greatestOf_le {hi x : Int} {xs : List Int} : greatestOf x xs ≤ hi ↔ x ≤ hi ∧ ∀ y ∈ xs, y ≤ hi := by
  unfold greatestOf
  induction xs generalizing x with
  | nil => simp
  | cons y ys ih => rw [List.foldl_cons, ih]; simp only [max2, List.mem_cons, forall_eq_or_imp]; split <;> constructor <;> rintro ⟨a, b⟩ <;> first | exact ⟨by omega, by omega, b⟩ | exact ⟨by omega, b.2⟩
/-- All numbers lie from lo to hi. -/
def allIn (lo hi x : Int) (xs : List Int) : Bool := decide (lo ≤ leastOf x xs) && decide (greatestOf x xs ≤ hi)
theorem allIn_iff {lo hi x : Int} {xs : List Int} : allIn lo hi x xs = true ↔ (lo ≤ x ∧ x ≤ hi) ∧ ∀ y ∈ xs, lo ≤ y ∧ y ≤ hi := by
  simp only [allIn, Bool.and_eq_true, decide_eq_true_eq, le_leastOf, greatestOf_le]
  constructor
  · rintro ⟨⟨a, b⟩, c, d⟩; exact ⟨⟨a, c⟩, fun y hy => ⟨b y hy, d y hy⟩⟩
  · rintro ⟨⟨a, c⟩, b⟩; exact ⟨⟨a, fun y hy => (b y hy).1⟩, c, fun y hy => (b y hy).2⟩
theorem allIn_nil (lo hi x : Int) : allIn lo hi x [] = inB x lo hi := by
  rw [Bool.eq_iff_iff, allIn_iff, inB_iff]; simp

theorem least64_any (x : Int) (v : Value) (xs : List Int) (w : World) (hv : Row .i64 w v xs) (hl : xs.length ≤ 4000000000000000000) :
    Calls Try.prog 84 #[.int .i64 x, v] w fun e w' => e = .returned (.int .i64 (leastOf x xs)) ∧ w = w' := by
  rcases hv with ⟨rfl, rfl⟩ | ⟨b, off, cap, rfl, hc⟩
  · go_enter Try.func84, Try.ntmps84
    go_wp2
    go_rounds 1
    go_ret
    exact ⟨rfl, rfl⟩
  · have HC := Lib.hid hc; clear hc
    go_enter Try.func84, Try.ntmps84
    go_wp2
    go_loop [0, 9] (fun t i => ∃ k : Nat, k ≤ xs.length ∧ i = .int .i64 k ∧ t = .int .i64 (leastOf x (xs.take k))) (fun _ i => xs.length - (intOf i).toNat)
    case atStart => exact ⟨0, Nat.zero_le _, rfl, rfl⟩
    case round =>
      obtain ⟨k, hk, rfl, rfl⟩ := hrel
      by_cases hlt : k < xs.length
      · have hcell := HC.out k hlt
        go_wp2
        go_round
        case rel => exact ⟨k + 1, by omega, by go_num, by rw [leastOf_snoc x xs k hlt]⟩
        case measure => simp [intOf]; omega
      · go_wp2
        go_ret
        exact ⟨ret_int (by rw [List.take_of_length_le (by omega)]), rfl⟩

theorem greatest64_any (x : Int) (v : Value) (xs : List Int) (w : World) (hv : Row .i64 w v xs) (hl : xs.length ≤ 4000000000000000000) :
    Calls Try.prog 85 #[.int .i64 x, v] w fun e w' => e = .returned (.int .i64 (greatestOf x xs)) ∧ w = w' := by
  rcases hv with ⟨rfl, rfl⟩ | ⟨b, off, cap, rfl, hc⟩
  · go_enter Try.func85, Try.ntmps85
    go_wp2
    go_rounds 1
    go_ret
    exact ⟨rfl, rfl⟩
  · have HC := Lib.hid hc; clear hc
    go_enter Try.func85, Try.ntmps85
    go_wp2
    go_loop [0, 9] (fun t i => ∃ k : Nat, k ≤ xs.length ∧ i = .int .i64 k ∧ t = .int .i64 (greatestOf x (xs.take k))) (fun _ i => xs.length - (intOf i).toNat)
    case atStart => exact ⟨0, Nat.zero_le _, rfl, rfl⟩
    case round =>
      obtain ⟨k, hk, rfl, rfl⟩ := hrel
      by_cases hlt : k < xs.length
      · have hcell := HC.out k hlt
        go_wp2
        go_round
        case rel => exact ⟨k + 1, by omega, by go_num, by rw [greatestOf_snoc x xs k hlt]⟩
        case measure => simp [intOf]; omega
      · go_wp2
        go_ret
        exact ⟨ret_int (by rw [List.take_of_length_le (by omega)]), rfl⟩

theorem within64_any (lo hi x : Int) (v : Value) (xs : List Int) (w : World) (hv : Row .i64 w v xs) (hl : xs.length ≤ 4000000000000000000) :
    Calls Try.prog 52 #[.int .i64 lo, .int .i64 hi, .int .i64 x, v] w fun e w' => e = .returned (.bool (allIn lo hi x xs)) ∧ w = w' := by
  by_cases h1 : lo ≤ leastOf x xs
  · by_cases h2 : greatestOf x xs ≤ hi
    all_goals
      go_enter Try.func52, Try.ntmps52
      go_wp2_with (first
        | (go_at_call 84; refine (least64_any x v xs _ hv hl).mono ?_; rintro e w' ⟨rfl, rfl⟩)
        | (go_at_call 85; refine (greatest64_any x v xs _ hv hl).mono ?_; rintro e w' ⟨rfl, rfl⟩))
      go_ret
      exact ⟨ret_bool (by simp only [allIn, h1, decide_true, Bool.true_and]; try (first | rfl | exact (decide_eq_true (by omega)).symm | exact (decide_eq_false (by omega)).symm)), rfl⟩
  · go_enter Try.func52, Try.ntmps52
    go_wp2_with (first
      | (go_at_call 84; refine (least64_any x v xs _ hv hl).mono ?_; rintro e w' ⟨rfl, rfl⟩)
      | (go_at_call 85; refine (greatest64_any x v xs _ hv hl).mono ?_; rintro e w' ⟨rfl, rfl⟩))
    go_ret
    exact ⟨ret_bool (by simp only [allIn, decide_eq_false (show ¬ lo ≤ leastOf x xs by omega), Bool.false_and]), rfl⟩

theorem within64_one (lo hi x : Int) (w : World) :
    Calls Try.prog 52 #[.int .i64 lo, .int .i64 hi, .int .i64 x, .slice none 0 0] w fun e w' => e = .returned (.bool (inB x lo hi)) ∧ w = w' := by
  have h := within64_any lo hi x (.slice none 0 0) [] w (Or.inl ⟨rfl, rfl⟩) (by simp)
  rwa [allIn_nil] at h

end Go.Proofs.Ytkbgfajkcdjjiaa
