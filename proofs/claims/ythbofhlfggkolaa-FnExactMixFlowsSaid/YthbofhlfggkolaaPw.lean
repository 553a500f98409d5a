/-
  Contracts: whether numbers are flows that are not negative, or shares. Conditions: those that each theorem states.
-/
import Derived.Test.YthbofhlfggkolaaDa
import Derived.Test.YthbofhlfggkolaaSa
namespace Go.Proofs.Ythbofhlfggkolaa
open Go.RowKit
set_option linter.unusedVariables false
set_option linter.unusedSimpArgs false

theorem allR_pair (lo hi x y : Int) : allR lo hi [x, y] = (inB x lo hi && inB y lo hi) := by
  rw [Bool.eq_iff_iff, allR_iff, Bool.and_eq_true, inB_iff, inB_iff]
  simp
theorem within64_oneB (lo hi x : Int) (W : World) (T : TypeId) (b : Nat) (hb : b = W.heap.size) :
    Calls Try.prog 54 #[.int .i64 lo, .int .i64 hi, .slice (some ⟨b, 0, none⟩) 1 1] (W.alloc (.cells #[.int .i64 x] T)) fun e w' => e = .returned (.bool (inB x lo hi)) ∧ Below W.heap.size W w' :=
  (within64_one lo hi x W T b hb).mono fun _ _ ⟨a, h⟩ => ⟨a, h ▸ below_box _ _⟩
theorem areForward_any (v : Value) (xs : List Int) (w : World) (hv : Row .i64 w v xs) (hl : xs.length ≤ 1048576) :
    Calls Try.prog 51 #[v] w fun e w' => e = .returned (.bool (allR 0 100000 xs)) ∧ w = w' := by
  obtain ⟨B, cap, rfl⟩ := hv.form
  have HV := Lib.hid hv
  clear hv
  go_enter Try.func51, Try.ntmps51
  go_wp2_with (go_at_call 54; (with_reducible refine (within64_any _ _ _ xs _ HV.out (by omega)).mono ?_); rintro e w' ⟨rfl, rfl⟩)
  go_ret
  exact ⟨rfl, rfl⟩
theorem areForward_one (x : Int) (W : World) (T : TypeId) (b : Nat) (hb : b = W.heap.size) :
    Calls Try.prog 51 #[.slice (some ⟨b, 0, none⟩) 1 1] (W.alloc (.cells #[.int .i64 x] T)) fun e w' => e = .returned (.bool (inB x 0 100000)) ∧ W.alloc (.cells #[.int .i64 x] T) = w' := by
  have h := areForward_any (.slice (some ⟨b, 0, none⟩) 1 1) [x] _ (row_here .i64 W [x] T b 1 1 hb rfl) (by simp)
  rwa [allR_one] at h
theorem areForward_two (x y : Int) (W : World) (T : TypeId) (b : Nat) (hb : b = W.heap.size) :
    Calls Try.prog 51 #[.slice (some ⟨b, 0, none⟩) 2 2] (W.alloc (.cells #[.int .i64 x, .int .i64 y] T)) fun e w' => e = .returned (.bool (inB x 0 100000 && inB y 0 100000)) ∧ W.alloc (.cells #[.int .i64 x, .int .i64 y] T) = w' := by
  have h := areForward_any (.slice (some ⟨b, 0, none⟩) 2 2) [x, y] _ (row_here .i64 W [x, y] T b 2 2 hb rfl) (by simp)
  rwa [allR_pair] at h
theorem areForward_oneB (x : Int) (W : World) (T : TypeId) (b : Nat) (hb : b = W.heap.size) :
    Calls Try.prog 51 #[.slice (some ⟨b, 0, none⟩) 1 1] (W.alloc (.cells #[.int .i64 x] T)) fun e w' => e = .returned (.bool (inB x 0 100000)) ∧ Below W.heap.size W w' :=
  (areForward_one x W T b hb).mono fun _ _ ⟨a, h⟩ => ⟨a, h ▸ below_box _ _⟩
theorem areForward_twoB (x y : Int) (W : World) (T : TypeId) (b : Nat) (hb : b = W.heap.size) :
    Calls Try.prog 51 #[.slice (some ⟨b, 0, none⟩) 2 2] (W.alloc (.cells #[.int .i64 x, .int .i64 y] T)) fun e w' => e = .returned (.bool (inB x 0 100000 && inB y 0 100000)) ∧ Below W.heap.size W w' :=
  (areForward_two x y W T b hb).mono fun _ _ ⟨a, h⟩ => ⟨a, h ▸ below_box _ _⟩
theorem areShares_any (v : Value) (xs : List Int) (w : World) (hv : Row .i64 w v xs) (hl : xs.length ≤ 1048576) :
    Calls Try.prog 61 #[v] w fun e w' => e = .returned (.bool (allR 0 1000000 xs)) ∧ w = w' := by
  obtain ⟨B, cap, rfl⟩ := hv.form
  have HV := Lib.hid hv
  clear hv
  go_enter Try.func61, Try.ntmps61
  go_wp2_with (go_at_call 54; (with_reducible refine (within64_any _ _ _ xs _ HV.out (by omega)).mono ?_); rintro e w' ⟨rfl, rfl⟩)
  go_ret
  exact ⟨rfl, rfl⟩
theorem areShares_one (x : Int) (W : World) (T : TypeId) (b : Nat) (hb : b = W.heap.size) :
    Calls Try.prog 61 #[.slice (some ⟨b, 0, none⟩) 1 1] (W.alloc (.cells #[.int .i64 x] T)) fun e w' => e = .returned (.bool (inB x 0 1000000)) ∧ W.alloc (.cells #[.int .i64 x] T) = w' := by
  have h := areShares_any (.slice (some ⟨b, 0, none⟩) 1 1) [x] _ (row_here .i64 W [x] T b 1 1 hb rfl) (by simp)
  rwa [allR_one] at h
theorem areShares_two (x y : Int) (W : World) (T : TypeId) (b : Nat) (hb : b = W.heap.size) :
    Calls Try.prog 61 #[.slice (some ⟨b, 0, none⟩) 2 2] (W.alloc (.cells #[.int .i64 x, .int .i64 y] T)) fun e w' => e = .returned (.bool (inB x 0 1000000 && inB y 0 1000000)) ∧ W.alloc (.cells #[.int .i64 x, .int .i64 y] T) = w' := by
  have h := areShares_any (.slice (some ⟨b, 0, none⟩) 2 2) [x, y] _ (row_here .i64 W [x, y] T b 2 2 hb rfl) (by simp)
  rwa [allR_pair] at h
theorem areShares_oneB (x : Int) (W : World) (T : TypeId) (b : Nat) (hb : b = W.heap.size) :
    Calls Try.prog 61 #[.slice (some ⟨b, 0, none⟩) 1 1] (W.alloc (.cells #[.int .i64 x] T)) fun e w' => e = .returned (.bool (inB x 0 1000000)) ∧ Below W.heap.size W w' :=
  (areShares_one x W T b hb).mono fun _ _ ⟨a, h⟩ => ⟨a, h ▸ below_box _ _⟩
theorem areShares_twoB (x y : Int) (W : World) (T : TypeId) (b : Nat) (hb : b = W.heap.size) :
    Calls Try.prog 61 #[.slice (some ⟨b, 0, none⟩) 2 2] (W.alloc (.cells #[.int .i64 x, .int .i64 y] T)) fun e w' => e = .returned (.bool (inB x 0 1000000 && inB y 0 1000000)) ∧ Below W.heap.size W w' :=
  (areShares_two x y W T b hb).mono fun _ _ ⟨a, h⟩ => ⟨a, h ▸ below_box _ _⟩
end Go.Proofs.Ythbofhlfggkolaa
