/-
  Contracts of chapter 3: the greatest flow with at most a drop; the model's and the program's. Conditions: those that each theorem states.
-/
import Derived.Test.YtkldgmgjbboiaacDm
namespace Go.Proofs.Ytkldgmgjbboiaac
open Go.RowKit
set_option linter.unusedVariables false

theorem quiet_dr {P : Program} {f : FuncId} {args : Array Value} {w : World} {n : Nat} {v : Value}
    (h : Calls P f args (w.drewN n) fun e w' => e = .returned v ∧ ∃ m, w' = (w.drewN n).drewN m) : Calls P f args (w.drewN n) fun e w'' => e = .returned v ∧ ∃ m, w'' = w.drewN m :=
  h.mono fun _ _ ⟨he, m, hm⟩ => ⟨he, n + m, by rw [hm, World.drewN_drewN]⟩
/-- The number of places ahead of the first that holds. -/
def firstN (p : Nat → Bool) : Nat → Nat
  | 0 => 0
  | n + 1 => if firstN p n = n then (if p n then n else n + 1) else firstN p n
theorem firstN_spec (p : Nat → Bool) (n : Nat) : firstN p n ≤ n ∧ (∀ t, t < firstN p n → p t = false) ∧ (firstN p n < n → p (firstN p n) = true) := by
  induction n with
  | zero => simp [firstN]
  | succ n ih =>
    obtain ⟨h1, h2, h3⟩ := ih
    rw [firstN]
    by_cases e : firstN p n = n
    · rw [if_pos e]
      rw [e] at h2
      cases hp : p n
      · simp only [Bool.false_eq_true, if_false]
        refine ⟨Nat.le_refl _, fun t ht => ?_, fun h => absurd h (by omega)⟩
        rcases Nat.lt_or_ge t n with q | q
        · exact h2 t q
        · rw [show t = n by omega]; exact hp
      · simp only [if_true]
        exact ⟨by omega, h2, fun _ => hp⟩
    · rw [if_neg e]
      exact ⟨by omega, h2, fun _ => h3 (by omega)⟩
theorem firstN_uniq (p : Nat → Bool) (n m : Nat) (h1 : m ≤ n) (h2 : ∀ t, t < m → p t = false) (h3 : m < n → p m = true) : firstN p n = m := by
  obtain ⟨a, b, c⟩ := firstN_spec p n
  rcases Nat.lt_trichotomy (firstN p n) m with h | h | h
  · have := h2 _ h; rw [c (by omega)] at this; cases this
  · exact h
  · have := b _ h; rw [h3 (by omega)] at this; cases this
/-- Greater flows have no lesser drop. -/
theorem drop_mono {r a b : Int} (hr : 1 ≤ r) (h0 : 0 ≤ a) (hab : a ≤ b) : dropR r a ≤ dropR r b := by
  have ea : absR a = a := by have := absR_cases a; omega
  have eb : absR b = b := by have := absR_cases b; omega
  have h1 : 0 ≤ r * a := Int.mul_nonneg (by omega) h0
  have h2 : r * a ≤ r * b := Int.mul_le_mul_of_nonneg_left hab (by omega)
  have h3 : r * a * a ≤ r * b * b := Int.mul_le_mul h2 hab h0 (by omega)
  have h4 : 0 ≤ r * a * a := Int.mul_nonneg h1 h0
  unfold dropR
  rw [ea, eb, divR_pp _ _ h4 (by omega), divR_pp _ _ (by omega) (by omega)]
  omega
theorem drop_zero (r : Int) : dropR r 0 = 0 := by unfold dropR; simp [divR_zero]
/-- The least flow with more than a drop; 100001 if there is none. -/
def overN (r d : Int) : Nat := firstN (fun t => decide (d < dropR r (t : Int))) 100001
theorem over_spec (r d : Int) (hr : 1 ≤ r) (hd : 0 ≤ d) : (1 ≤ overN r d ∧ overN r d ≤ 100001) ∧ (∀ t : Nat, t < overN r d → dropR r (t : Int) ≤ d) ∧ (∀ t : Nat, overN r d ≤ t → t < 100001 → d < dropR r (t : Int)) := by
  obtain ⟨a, b, c⟩ := firstN_spec (fun t => decide (d < dropR r (t : Int))) 100001
  refine ⟨⟨?_, a⟩, fun t ht => by have := b t ht; simpa using this, fun t h1 h2 => ?_⟩
  · apply Nat.one_le_iff_ne_zero.2
    intro h0
    have h0' : firstN (fun t => decide (d < dropR r (t : Int))) 100001 = 0 := h0
    have := c (by omega)
    rw [h0'] at this
    simp only [decide_eq_true_eq] at this
    have hz := drop_zero r
    simp only [Int.natCast_zero] at this
    omega
  · have h1' : firstN (fun t => decide (d < dropR r (t : Int))) 100001 ≤ t := h1
    have := c (by omega)
    simp only [decide_eq_true_eq] at this
    have hm := drop_mono (r := r) (a := ((firstN (fun t => decide (d < dropR r (t : Int))) 100001 : Nat) : Int)) (b := (t : Int)) hr (by omega) (by omega)
    omega
theorem over_uniq (r d : Int) (m : Nat) (h : m ≤ 100000) (h1 : dropR r (m : Int) ≤ d) (hr : 1 ≤ r) (h2 : m < 100000 → d < dropR r ((m : Int) + 1)) : overN r d = m + 1 := by
  refine firstN_uniq _ _ _ (by omega) (fun t ht => ?_) (fun hl => ?_)
  · have := drop_mono (r := r) (a := (t : Int)) (b := (m : Int)) hr (by omega) (by omega)
    simp only [decide_eq_false_iff_not]; omega
  · have := h2 (by omega)
    simp only [decide_eq_true_eq]
    rw [show (((m + 1 : Nat)) : Int) = (m : Int) + 1 by omega]; exact this
/-- What FlowFor returns. -/
def ffA (r d : Int) : Int := if inB r 1 1000000 && inB d 0 1000000 then (overN r d : Int) - 1 else 0
def ffB (r d : Int) : Int := if inB r 1 1000000 && inB d 0 1000000 then 0 else 2

theorem fits_any (r d q : Int) (br bd : Nat) (w : World) (c0 : w.cell? ⟨br, 0, none⟩ = some (.int .i64 r)) (c1 : w.cell? ⟨bd, 0, none⟩ = some (.int .i64 d)) (h1 : 1 ≤ r) (h2 : r ≤ 1000000) (h3 : -100000 ≤ q) (h4 : q ≤ 100000) :
    Calls Try.prog 29 #[.int .i64 q, .pointer (some ⟨br, 0, none⟩), .pointer (some ⟨bd, 0, none⟩)] w fun e w' => e = .returned (.bool (decide (d < dropR r q))) ∧ Below w.heap.size w w' := by
  go_enter Try.func29, Try.ntmps29
  go_wp2
  go_quiet ((go_at_call 22; exact quiet_dr (dropAt_any r q _ h1 h2 h3 h4)))
  go_wp2
  go_ret
  exact ⟨rfl, below_drewN' (Below.refl _ _) _⟩

theorem iFlowFor_any (r d : Int) (w : World) :
    Calls Try.prog 14 #[.int .i64 r, .int .i64 d] w fun e w' => e = .returned (.tuple #[.int .i64 (ffA r d), .int .i64 (ffB r d)]) ∧ Below w.heap.size w w' := by
  by_cases h1 : 1 ≤ r ∧ r ≤ 1000000
  · have i1 := inB_true h1.1 h1.2
    by_cases h2 : 0 ≤ d ∧ d ≤ 1000000
    · have i2 := inB_true h2.1 h2.2
      have HE := Lib.hid (show ffA r d = (overN r d : Int) - 1 ∧ ffB r d = 0 by simp [ffA, ffB, i1, i2])
      obtain ⟨hs1, hs2, hs3⟩ := over_spec r d h1.1 h2.1
      have HL := Lib.hid (show ∀ t : Nat, t < overN r d → decide (d < dropR r (0 + (t : Int))) = false from fun t ht => by have := hs2 t ht; rw [Int.zero_add]; simpa using this)
      have HG := Lib.hid (show ∀ t : Nat, overN r d ≤ t → t < 100001 → decide (d < dropR r (0 + (t : Int))) = true from fun t a b => by have := hs3 t a b; rw [Int.zero_add]; simpa using this)
      clear hs2 hs3
      go_enter Try.func14, Try.ntmps14
      go_wp2_with (first
            | (go_at_call 20; (with_reducible refine (isResistance_any _ _).mono ?_); rintro e w' ⟨rfl, rfl⟩)
            | (go_at_call 27; (with_reducible refine (within64_one _ _ _ _).mono ?_); rintro e w' ⟨rfl, rfl⟩)
            | (go_at_call 28; (with_reducible refine (leastF w.heap.size (w.heap.size + 1) (fun q => decide (d < dropR r q)) 0 100000 100001 (overN r d) ((w.alloc (.cells #[.int .i64 r] 2)).alloc (.cells #[.int .i64 d] 2)) (by omega) (by omega) (by omega) (by omega) (by omega) hs1.2 (fun t ht => HL.out t ht) (fun t ht ht2 => HG.out t ht ht2)
              (fun x w1 hx1 hx2 hb => fits_any r d x w.heap.size (w.heap.size + 1) w1 ((hb.cell (by first | (simp; done) | (simp; omega))).trans (by first | (simp; done) | (simp; omega))) ((hb.cell (by first | (simp; done) | (simp; omega))).trans (by first | (simp; done) | (simp; omega))) h1.1 h1.2 (by omega) (by omega))).mono ?_); rintro e w1 ⟨rfl, hd1⟩; have hb1 := hd1; obtain ⟨hc1, hf1⟩ := bcell hb1; have hz1 : w.heap.size < w1.heap.size := Nat.lt_of_lt_of_le (by first | (simp; done) | (simp; omega)) hb1.size; clear hd1))
      go_ret2
      exact ⟨ret_two HE.out.1.symm HE.out.2.symm, (show Below w.heap.size w w1 from ((below_box _ _).alloc (by simp) _).trans (hb1.mono (by first | (simp; done) | (simp; omega))))⟩
    · have i2 := inB_false h2
      have HE := Lib.hid (show ffA r d = 0 ∧ ffB r d = 2 by simp [ffA, ffB, i2])
      go_enter Try.func14, Try.ntmps14
      go_wp2_with (first
            | (go_at_call 20; (with_reducible refine (isResistance_any _ _).mono ?_); rintro e w' ⟨rfl, rfl⟩)
            | (go_at_call 27; (with_reducible refine (within64_one _ _ _ _).mono ?_); rintro e w' ⟨rfl, rfl⟩))
      go_ret2
      exact ⟨ret_two HE.out.1.symm HE.out.2.symm, (by repeat (first | (with_reducible exact Below.refl _ _) | (with_reducible refine below_drewN' ?_ _) | (with_reducible refine Below.alloc ?_ (by simp <;> omega) _) | (with_reducible refine Below.setCell ?_ (by simp) _)))⟩
  · have i1 := inB_false h1
    have HE := Lib.hid (show ffA r d = 0 ∧ ffB r d = 2 by simp [ffA, ffB, i1])
    go_enter Try.func14, Try.ntmps14
    go_wp2_with (first
          | (go_at_call 20; (with_reducible refine (isResistance_any _ _).mono ?_); rintro e w' ⟨rfl, rfl⟩)
          | (go_at_call 27; (with_reducible refine (within64_one _ _ _ _).mono ?_); rintro e w' ⟨rfl, rfl⟩))
    go_ret2
    exact ⟨ret_two HE.out.1.symm HE.out.2.symm, (by repeat (first | (with_reducible exact Below.refl _ _) | (with_reducible refine below_drewN' ?_ _) | (with_reducible refine Below.alloc ?_ (by simp <;> omega) _) | (with_reducible refine Below.setCell ?_ (by simp) _)))⟩
end Go.Proofs.Ytkldgmgjbboiaac
