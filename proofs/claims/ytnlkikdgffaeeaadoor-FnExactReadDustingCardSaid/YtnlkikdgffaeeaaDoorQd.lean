/-
  Contracts of chapter 14: dust of flows and its settling; the model's and the program's. Conditions: those that each theorem states.
-/
import Derived.Test.YtnlkikdgffaeeaaDoorPw
import Derived.Deep.LoopGhost
namespace Go.Proofs.YtnlkikdgffaeeaaDoor
open Go.RowKit
set_option linter.unusedVariables false
set_option linter.unusedSimpArgs false

/-- What is left of dust behind one second, and behind n of them. -/
def sst (se q : Int) : Int := q - divR (q * se) 1000000
def sdN (se : Int) : Nat → Int → Int
  | 0, q => q
  | n + 1, q => sst se (sdN se n q)
theorem sst_bd {se q : Int} (h1 : 0 ≤ se) (h2 : se ≤ 1000000) (hq : 0 ≤ q) : 0 ≤ sst se q ∧ sst se q ≤ q := by
  unfold sst
  have hp : 0 ≤ q * se := Int.mul_nonneg hq h1
  have hp2 : q * se ≤ q * 1000000 := Int.mul_le_mul_of_nonneg_left h2 hq
  rw [divR_pp _ _ hp (by omega)]
  generalize q * se = x at *
  omega
theorem sdN_bd {se q : Int} (h1 : 0 ≤ se) (h2 : se ≤ 1000000) (hq : 0 ≤ q) : ∀ n, 0 ≤ sdN se n q ∧ sdN se n q ≤ q
  | 0 => ⟨hq, Int.le_refl _⟩
  | n + 1 => by
    have h := sdN_bd h1 h2 hq n
    have := sst_bd h1 h2 h.1
    show 0 ≤ sst se (sdN se n q) ∧ sst se (sdN se n q) ≤ q
    omega
theorem sst_mul {se q : Int} (h1 : 0 ≤ se) (h2 : se ≤ 1000000) (hq : 0 ≤ q) (hq2 : q ≤ 1000000) : 0 ≤ q * se ∧ q * se ≤ 1000000000000 := by
  have hp : 0 ≤ q * se := Int.mul_nonneg hq h1
  have hp2 : q * se ≤ q * 1000000 := Int.mul_le_mul_of_nonneg_left h2 hq
  omega
theorem sdN_stay {se q : Int} (h : sst se q = q) : ∀ n, sdN se n q = q
  | 0 => rfl
  | n + 1 => by show sst se (sdN se n q) = q; rw [sdN_stay h n, h]
theorem sdN_add (se q : Int) (m : Nat) : ∀ n, sdN se (m + n) q = sdN se n (sdN se m q)
  | 0 => rfl
  | n + 1 => by show sst se (sdN se (m + n) q) = sst se (sdN se n (sdN se m q)); rw [sdN_add se q m n]
theorem sdN_end {se q x : Int} {k N : Nat} (hx : sdN se k q = x) (h : sst se x = x) (hk : k ≤ N) : sdN se N q = x := by
  obtain ⟨d, rfl⟩ : ∃ d, N = k + d := ⟨N - k, by omega⟩
  rw [sdN_add, hx, sdN_stay h]
theorem sst_zero (se : Int) : sst se 0 = 0 := by unfold sst; rw [Int.zero_mul, divR_zero]; rfl
theorem sst_less {se q : Int} (h : divR (q * se) 1000000 = 0) : sst se q = q := by unfold sst; rw [h]; omega
/-- The dust of a rate in a flow. -/
def duG (r q : Int) : Int := if 1000000 < divR (100000 * r) q then 1000000 else divR (100000 * r) q
/-- What the functions return. -/
def dofA (r q : Int) : Int := if inB r 0 1000000 && inB q 1 100000 then duG r q else 0
def dofB (r q : Int) : Int := if inB r 0 1000000 && inB q 1 100000 then 0 else 2
def setA (q se t : Int) : Int := if inB q 0 1000000 && (inB se 0 1000000 && inB t 0 10000) then sdN se t.toNat q else 0
def setB (q se t : Int) : Int := if inB q 0 1000000 && (inB se 0 1000000 && inB t 0 10000) then 0 else 2
theorem l14Dust_any (n : Int) (w : World) : Calls Tryd.prog 20 #[.int .i64 n] w fun e w' => e = .returned (.bool (inB n 0 1000000)) ∧ w = w' := by
  go_enter Tryd.func20, Tryd.ntmps20
  go_wp2_with (go_at_call 30; (with_reducible refine (l00In_any _ _ _ _).mono ?_); rintro e w' ⟨rfl, rfl⟩)
  go_ret
  exact ⟨rfl, rfl⟩
theorem areDusts_any (v : Value) (xs : List Int) (w : World) (hv : Row .i64 w v xs) (hl : xs.length ≤ 1048576) :
    Calls Tryd.prog 24 #[v] w fun e w' => e = .returned (.bool (allR 0 1000000 xs)) ∧ w = w' := by
  obtain ⟨B, cap, rfl⟩ := hv.form
  have HV := Lib.hid hv
  clear hv
  go_enter Tryd.func24, Tryd.ntmps24
  go_wp2_with (go_at_call 25; (with_reducible refine (within64_any _ _ _ xs _ HV.out (by omega)).mono ?_); rintro e w' ⟨rfl, rfl⟩)
  go_ret
  exact ⟨rfl, rfl⟩
theorem areDusts_oneB (x : Int) (W : World) (T : TypeId) (b : Nat) (hb : b = W.heap.size) :
    Calls Tryd.prog 24 #[.slice (some ⟨b, 0, none⟩) 1 1] (W.alloc (.cells #[.int .i64 x] T)) fun e w' => e = .returned (.bool (inB x 0 1000000)) ∧ Below W.heap.size W w' := by
  have h := areDusts_any (.slice (some ⟨b, 0, none⟩) 1 1) [x] _ (row_here .i64 W [x] T b 1 1 hb rfl) (by simp)
  rw [allR_one] at h
  exact h.mono fun _ _ ⟨a, h⟩ => ⟨a, h ▸ below_box _ _⟩
end Go.Proofs.YtnlkikdgffaeeaaDoor
