/-
  Contracts of the small functions of chapter 1 that compute with numbers alone, and of the generic least, greatest and within. Conditions: those that each theorem states.
-/
import Derived.Test.YtnlkikdgffaeeaaDoorRows
import Derived.WalkKit
import Derived.ProofKit
import Derived.OpenShut
import Derived.LoopTactic
import Derived.Below
import Derived.Lib.Hide
import Derived.Handy
import Derived.BigQuiet
import Derived.Deep.QuietTactic
import Derived.WalkLawsBesides
import Derived.WalkSpells
namespace Go.Proofs.YtnlkikdgffaeeaaDoor
open Go.RowKit
set_option linter.unusedVariables false

theorem ret_int {k : IntKind} {a b : Int} (h : a = b) : Ending.returned (.int k a) = .returned (.int k b) := by rw [h]
theorem ret_bool {a b : Bool} (h : a = b) : Ending.returned (.bool a) = .returned (.bool b) := by rw [h]

theorem grown_trans {a b c : World} (h : Grown a b) (k : Grown b c) : Grown a c := ⟨World.keptBut_trans h.1 k.1, fun x => (k.2.1 x).trans (h.2.1 x), Nat.le_trans h.2.2 k.2.2⟩

def inB (a lo hi : Int) : Bool := decide (lo ≤ a) && decide (a ≤ hi)
theorem inB_true {a lo hi : Int} (h1 : lo ≤ a) (h2 : a ≤ hi) : inB a lo hi = true := by simp [inB, h1, h2]
theorem inB_false {a lo hi : Int} (h : ¬ (lo ≤ a ∧ a ≤ hi)) : inB a lo hi = false := by
  simp only [inB, Bool.and_eq_false_iff, decide_eq_false_iff_not]; omega
theorem inB_iff {a lo hi : Int} : inB a lo hi = true ↔ lo ≤ a ∧ a ≤ hi := by simp [inB]

theorem l00In_any (a lo hi : Int) (w : World) :
    Calls Tryd.prog 30 #[.int .i64 a, .int .i64 lo, .int .i64 hi] w fun e w' => e = .returned (.bool (inB a lo hi)) ∧ w = w' := by
  by_cases h1 : lo ≤ a
  · by_cases h2 : a ≤ hi
    · rw [inB_true h1 h2]
      go_enter Tryd.func30, Tryd.ntmps30
      go_wp2
      go_ret
      exact ⟨rfl, rfl⟩
    · rw [inB_false (by omega)]
      go_enter Tryd.func30, Tryd.ntmps30
      go_wp2
      go_ret
      exact ⟨rfl, rfl⟩
  · rw [inB_false (by omega)]
    go_enter Tryd.func30, Tryd.ntmps30
    go_wp2
    go_ret
    exact ⟨rfl, rfl⟩

/-- A slice value that reads as the numbers xs. -/
def Row (k : IntKind) (w : World) (v : Value) (xs : List Int) : Prop :=
  (xs = [] ∧ v = .slice none 0 0) ∨ ∃ b off cap, v = .slice (some ⟨b, off, none⟩) xs.length cap ∧ ∀ j, j < xs.length → w.cell? ⟨b, off + j, none⟩ = some (.int k (xs.getD j 0))

def min2 (a b : Int) : Int := if b < a then b else a
def max2 (a b : Int) : Int := if a < b then b else a
def leastOf (x : Int) (xs : List Int) : Int := xs.foldl min2 x
def greatestOf (x : Int) (xs : List Int) : Int := xs.foldl max2 x
theorem leastOf_snoc (x : Int) (xs : List Int) (k : Nat) (h : k < xs.length) : leastOf x (xs.take (k + 1)) = if xs[k] < leastOf x (xs.take k) then xs[k] else leastOf x (xs.take k) := by
  unfold leastOf; rw [List.take_add_one, List.foldl_append]; simp [List.getElem?_eq_getElem h, min2]
theorem greatestOf_snoc (x : Int) (xs : List Int) (k : Nat) (h : k < xs.length) : greatestOf x (xs.take (k + 1)) = if greatestOf x (xs.take k) < xs[k] then xs[k] else greatestOf x (xs.take k) := by
  unfold greatestOf; rw [List.take_add_one, List.foldl_append]; simp [List.getElem?_eq_getElem h, max2]
theorem le_leastOf {lo x : Int} {xs : List Int} : lo ≤ leastOf x xs ↔ lo ≤ x ∧ ∀ y ∈ xs, lo ≤ y := by
  unfold leastOf
  induction xs generalizing x with
  | nil => simp
  | cons y ys ih => rw [List.foldl_cons, ih]; simp only [min2, List.mem_cons, forall_eq_or_imp]; split <;> constructor <;> rintro ⟨a, b⟩ <;> first | exact ⟨by omega, by omega, b⟩ | exact ⟨by omega, b.2⟩
theorem greatestOf_le {hi x : Int} {xs : List Int} : greatestOf x xs ≤ hi ↔ x ≤ hi ∧ ∀ y ∈ xs, y ≤ hi := by
  unfold greatestOf
  induction xs generalizing x with
  | nil => simp
  | cons y ys ih => rw [List.foldl_cons, ih]; simp only [max2, List.mem_cons, forall_eq_or_imp]; split <;> constructor <;> rintro ⟨a, b⟩ <;> first | exact ⟨by omega, by omega, b⟩ | exact ⟨by omega, b.2⟩
theorem leastOf_le (x : Int) (xs : List Int) : leastOf x xs ≤ x := (le_leastOf.1 (Int.le_refl _)).1
theorem le_greatestOf (x : Int) (xs : List Int) : x ≤ greatestOf x xs := (greatestOf_le.1 (Int.le_refl _)).1
/-- All numbers lie from lo to hi. -/
def allR (lo hi : Int) (xs : List Int) : Bool := decide (leastOf lo xs = lo) && decide (greatestOf hi xs = hi)
theorem allR_iff {lo hi : Int} {xs : List Int} : allR lo hi xs = true ↔ ∀ y ∈ xs, lo ≤ y ∧ y ≤ hi := by
  have a := leastOf_le lo xs
  have b := le_greatestOf hi xs
  have c := @le_leastOf lo lo xs
  have d := @greatestOf_le hi hi xs
  simp only [allR, Bool.and_eq_true, decide_eq_true_eq]
  constructor
  · rintro ⟨h, k⟩ y hy; exact ⟨(c.1 (by omega)).2 y hy, (d.1 (by omega)).2 y hy⟩
  · intro h
    have := c.2 ⟨Int.le_refl _, fun y hy => (h y hy).1⟩
    have := d.2 ⟨Int.le_refl _, fun y hy => (h y hy).2⟩
    omega
theorem allR_not {lo hi : Int} {xs : List Int} (h : ¬ ∀ y ∈ xs, lo ≤ y ∧ y ≤ hi) : allR lo hi xs = false := by rw [← Bool.not_eq_true, allR_iff]; exact h
theorem allR_nil (lo hi : Int) : allR lo hi [] = true := by rw [allR_iff]; simp
theorem allR_one (lo hi x : Int) : allR lo hi [x] = inB x lo hi := by
  rw [Bool.eq_iff_iff, allR_iff, inB_iff]; simp
theorem allR_cons (lo hi x : Int) (xs : List Int) : allR lo hi (x :: xs) = (inB x lo hi && allR lo hi xs) := by
  rw [Bool.eq_iff_iff, Bool.and_eq_true, allR_iff, allR_iff, inB_iff]; simp
theorem allR_two (lo hi x y : Int) : allR lo hi [x, y] = (inB x lo hi && inB y lo hi) := by rw [allR_cons, allR_one]

/-- A row that lies in a block that was just made. -/
theorem row_here (k : IntKind) (W : World) (xs : List Int) (T : TypeId) (b n cap : Nat) (hb : b = W.heap.size) (hn : n = xs.length) :
    Row k (W.alloc (.cells (xs.map (Value.int k)).toArray T)) (.slice (some ⟨b, 0, none⟩) n cap) xs := by
  subst hb; subst hn
  refine Or.inr ⟨_, _, _, rfl, fun j hj => ?_⟩
  rw [Nat.zero_add, World.cell?_alloc_new]
  simp [List.getD, List.getElem?_eq_getElem hj]
theorem row_alloc (k : IntKind) (w : World) (xs : List Int) (T : TypeId) (cap : Nat) :
    Row k (w.alloc (.cells (xs.map (Value.int k)).toArray T)) (.slice (some ⟨w.heap.size, 0, none⟩) xs.length cap) xs := row_here k w xs T _ _ cap rfl rfl

theorem least64_any (x : Int) (v : Value) (xs : List Int) (w : World) (hv : Row .i64 w v xs) (hl : xs.length ≤ 4000000000000000000) :
    Calls Tryd.prog 33 #[.int .i64 x, v] w fun e w' => e = .returned (.int .i64 (leastOf x xs)) ∧ w = w' := by
  rcases hv with ⟨rfl, rfl⟩ | ⟨b, off, cap, rfl, hc⟩
  · go_enter Tryd.func33, Tryd.ntmps33
    go_wp2
    go_rounds 1
    go_ret
    exact ⟨rfl, rfl⟩
  · have HC := Lib.hid hc; clear hc
    go_enter Tryd.func33, Tryd.ntmps33
    go_wp2
    go_loop [0, 9] (fun t i => ∃ k : Nat, k ≤ xs.length ∧ i = .int .i64 k ∧ t = .int .i64 (leastOf x (xs.take k))) (fun _ i => xs.length - (intOf i).toNat)
    case atStart => exact ⟨0, Nat.zero_le _, rfl, rfl⟩
    case round =>
      obtain ⟨k, hk, rfl, rfl⟩ := hrel
      by_cases hlt : k < xs.length
      · have hcell := HC.out k hlt
        go_wp2
        go_round
        case rel => exact ⟨k + 1, by omega, by go_num, by rw [leastOf_snoc x xs k hlt]⟩
        case measure => simp [intOf]; omega
      · go_wp2
        go_ret
        exact ⟨ret_int (by rw [List.take_of_length_le (by omega)]), rfl⟩

theorem greatest64_any (x : Int) (v : Value) (xs : List Int) (w : World) (hv : Row .i64 w v xs) (hl : xs.length ≤ 4000000000000000000) :
    Calls Tryd.prog 34 #[.int .i64 x, v] w fun e w' => e = .returned (.int .i64 (greatestOf x xs)) ∧ w = w' := by
  rcases hv with ⟨rfl, rfl⟩ | ⟨b, off, cap, rfl, hc⟩
  · go_enter Tryd.func34, Tryd.ntmps34
    go_wp2
    go_rounds 1
    go_ret
    exact ⟨rfl, rfl⟩
  · have HC := Lib.hid hc; clear hc
    go_enter Tryd.func34, Tryd.ntmps34
    go_wp2
    go_loop [0, 9] (fun t i => ∃ k : Nat, k ≤ xs.length ∧ i = .int .i64 k ∧ t = .int .i64 (greatestOf x (xs.take k))) (fun _ i => xs.length - (intOf i).toNat)
    case atStart => exact ⟨0, Nat.zero_le _, rfl, rfl⟩
    case round =>
      obtain ⟨k, hk, rfl, rfl⟩ := hrel
      by_cases hlt : k < xs.length
      · have hcell := HC.out k hlt
        go_wp2
        go_round
        case rel => exact ⟨k + 1, by omega, by go_num, by rw [greatestOf_snoc x xs k hlt]⟩
        case measure => simp [intOf]; omega
      · go_wp2
        go_ret
        exact ⟨ret_int (by rw [List.take_of_length_le (by omega)]), rfl⟩

theorem within64_any (lo hi : Int) (v : Value) (xs : List Int) (w : World) (hv : Row .i64 w v xs) (hl : xs.length ≤ 4000000000000000000) :
    Calls Tryd.prog 25 #[.int .i64 lo, .int .i64 hi, v] w fun e w' => e = .returned (.bool (allR lo hi xs)) ∧ w = w' := by
  have HL := Lib.hid (least64_any lo v xs w hv hl)
  have HG := Lib.hid (greatest64_any hi v xs w hv hl)
  rw [show allR lo hi xs = (decide (leastOf lo xs = lo) && decide (greatestOf hi xs = hi)) from rfl]
  clear hv hl
  generalize leastOf lo xs = a at *
  generalize greatestOf hi xs = b at *
  by_cases h1 : a = lo
  · subst h1
    by_cases h2 : b = hi
    · subst h2
      go_enter Tryd.func25, Tryd.ntmps25
      go_wp2_with (first
        | (go_at_call 33; refine HL.out.mono ?_; rintro e w' ⟨rfl, rfl⟩)
        | (go_at_call 34; refine HG.out.mono ?_; rintro e w' ⟨rfl, rfl⟩))
      go_ret
      exact ⟨ret_bool (by simp), rfl⟩
    · have h3 : (b == hi) = false := beq_false_of_ne h2
      go_enter Tryd.func25, Tryd.ntmps25
      go_wp2_with (first
        | (go_at_call 33; refine HL.out.mono ?_; rintro e w' ⟨rfl, rfl⟩)
        | (go_at_call 34; refine HG.out.mono ?_; rintro e w' ⟨rfl, rfl⟩))
      go_ret
      exact ⟨ret_bool (by first | (simp [h2]; done) | simp [h3]), rfl⟩
  · have h3 : (a == lo) = false := beq_false_of_ne h1
    go_enter Tryd.func25, Tryd.ntmps25
    go_wp2_with (first
        | (go_at_call 33; refine HL.out.mono ?_; rintro e w' ⟨rfl, rfl⟩)
        | (go_at_call 34; refine HG.out.mono ?_; rintro e w' ⟨rfl, rfl⟩))
    go_ret
    exact ⟨ret_bool (by first | (simp [h1]; done) | simp [h3]), rfl⟩

/-- within at a number that lies in a block of its own. -/
theorem within64_one (lo hi x : Int) (W : World) (T : TypeId) (b : Nat) (hb : b = W.heap.size) :
    Calls Tryd.prog 25 #[.int .i64 lo, .int .i64 hi, .slice (some ⟨b, 0, none⟩) 1 1] (W.alloc (.cells #[.int .i64 x] T)) fun e w' => e = .returned (.bool (inB x lo hi)) ∧ W.alloc (.cells #[.int .i64 x] T) = w' := by
  have h := within64_any lo hi (.slice (some ⟨b, 0, none⟩) 1 1) [x] _ (row_here .i64 W [x] T b 1 1 hb rfl) (by simp)
  rwa [allR_one] at h
theorem within64_two (lo hi x y : Int) (W : World) (T : TypeId) (b : Nat) (hb : b = W.heap.size) :
    Calls Tryd.prog 25 #[.int .i64 lo, .int .i64 hi, .slice (some ⟨b, 0, none⟩) 2 2] (W.alloc (.cells #[.int .i64 x, .int .i64 y] T)) fun e w' => e = .returned (.bool (allR lo hi [x, y])) ∧ W.alloc (.cells #[.int .i64 x, .int .i64 y] T) = w' := by
  have h := within64_any lo hi (.slice (some ⟨b, 0, none⟩) 2 2) [x, y] _ (row_here .i64 W [x, y] T b 2 2 hb rfl) (by simp)
  exact h

end Go.Proofs.YtnlkikdgffaeeaaDoor
