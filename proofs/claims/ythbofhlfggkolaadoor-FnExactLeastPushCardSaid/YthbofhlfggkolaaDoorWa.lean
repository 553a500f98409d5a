/-
  Contracts of chapter 7: lists with a number for each airway; what comes to a junction; the model's and the program's. Conditions: those that each theorem states.
-/
import Derived.Test.YthbofhlfggkolaaDoorGf
import Derived.Test.YthbofhlfggkolaaDoorNh
import Derived.Test.YthbofhlfggkolaaDoorDa
import Derived.Laws.CopyOwn
import Derived.RegionTactic
namespace Go.Proofs.YthbofhlfggkolaaDoor
open Go.RowKit
set_option linter.unusedVariables false
set_option linter.unusedSimpArgs false

/-- A list with one number for each of n airways, from lo to hi. -/
def flOk (lo hi : Int) (n : Nat) (fl : List Int) : Bool := decide (fl.length = n) && allR lo hi fl
theorem flOk_iff {lo hi : Int} {n : Nat} {fl : List Int} : flOk lo hi n fl = true ↔ fl.length = n ∧ ∀ y ∈ fl, lo ≤ y ∧ y ≤ hi := by
  simp [flOk, allR_iff]
/-- What comes to a junction less what leaves it, of the first k airways. -/
def exc (xs : List Aw) (fl : List Int) (j : Int) : Nat → Int
  | 0 => 0
  | k + 1 => exc xs fl j k + (if (xs.getD k Aw.none).t = j then fl.getD k 0 else 0) - (if (xs.getD k Aw.none).f = j then fl.getD k 0 else 0)
theorem exc_bd {xs : List Aw} {fl : List Int} {j : Int} (h : ∀ y ∈ fl, -100000 ≤ y ∧ y ≤ 100000) : ∀ k : Nat, -200000 * (k : Int) ≤ exc xs fl j k ∧ exc xs fl j k ≤ 200000 * (k : Int)
  | 0 => by simp [exc]
  | k + 1 => by
    have ih := exc_bd (xs := xs) (j := j) h k
    have hy : -100000 ≤ fl.getD k 0 ∧ fl.getD k 0 ≤ 100000 := by
      by_cases hk : k < fl.length
      · rw [show fl.getD k 0 = fl[k] by simp [List.getD, hk]]; exact h _ (List.getElem_mem hk)
      · rw [show fl.getD k 0 = 0 by simp [List.getD, hk]]; omega
    rw [exc]
    split <;> split <;> omega
def imbL (xs : List Aw) (fl : List Int) (J k : Nat) : List Int := (List.range J).map (fun (j : Nat) => exc xs fl (j : Int) k)
theorem imbL_len (xs : List Aw) (fl : List Int) (J k : Nat) : (imbL xs fl J k).length = J := by simp [imbL]
theorem imb_put {xs : List Aw} {fl : List Int} {J k tn fn : Nat} {z : Int} (ht : (xs.getD k Aw.none).t = tn) (hf : (xs.getD k Aw.none).f = fn) (hz : fl.getD k 0 = z) (hne : tn ≠ fn) (h1 : tn < J) (h2 : fn < J) :
    ((intsV (imbL xs fl J k)).set tn (.int .i64 (exc xs fl tn k + z))).set fn (.int .i64 (exc xs fl fn k - z)) = intsV (imbL xs fl J (k + 1)) := by
  unfold intsV
  rw [← List.map_set, ← List.map_set]
  congr 1
  apply List.ext_getElem (by simp [imbL])
  intro j h3 h4
  have hj : j < J := by simpa [imbL] using h4
  simp only [List.getElem_set, imbL, List.getElem_map, List.getElem_range, exc, ht, hf, hz]
  by_cases e1 : fn = j
  · subst e1
    rw [if_pos rfl, if_neg (by omega), if_pos rfl]
    omega
  · rw [if_neg e1]
    by_cases e2 : tn = j
    · subst e2
      rw [if_pos rfl, if_pos rfl, if_neg (by omega)]
      omega
    · rw [if_neg e2, if_neg (by omega), if_neg (by omega)]
      omega
theorem imb_at {xs : List Aw} {fl : List Int} {J k j : Nat} (h : j < J) : (intsV (imbL xs fl J k))[j]? = some (.int .i64 (exc xs fl j k)) := by
  simp [intsV, imbL, h]
/-- Flows are balanced. -/
def balR (J : Int) (xs : List Aw) (fl : List Int) : Bool := allR 0 0 (imbL xs fl J.toNat xs.length)
theorem balR_iff {J : Int} {xs : List Aw} {fl : List Int} : balR J xs fl = true ↔ ∀ j : Nat, (j : Int) < J → exc xs fl j xs.length = 0 := by
  unfold balR
  rw [allR_iff]
  constructor
  · intro h j hj
    have := h (exc xs fl j xs.length) (List.mem_map.2 ⟨j, List.mem_range.2 (by omega), rfl⟩)
    omega
  · intro h y hy
    obtain ⟨j, hj, rfl⟩ := List.mem_map.1 hy
    have := h j (by have := List.mem_range.1 hj; omega)
    omega
/-- The ends of an airway of a mine. -/
theorem ends_in {J : Int} {xs : List Aw} (h : mineOk J xs = true) {k : Nat} (hk : k < xs.length) : (0 ≤ xs[k].f ∧ xs[k].f < J) ∧ (0 ≤ xs[k].t ∧ xs[k].t < J) ∧ xs[k].f ≠ xs[k].t := by
  have h1 := upTo_all _ (mineOk_iff.1 h).2.1 k hk
  unfold stepOk at h1
  rw [getD_of_lt hk] at h1
  simp only [Bool.and_eq_true, inB_iff] at h1
  obtain ⟨⟨⟨h2, h3⟩, h4⟩, -⟩ := h1
  have h5 := (awOk_bd (show awOk xs[k].s xs[k].f xs[k].t xs[k].l xs[k].se xs[k].fr xs[k].sh = true from h2)).1.2
  exact ⟨by omega, by omega, h5⟩
theorem hasOneEach_any (J lo hi : Int) (A : Option Addr) (n cap : Nat) (v : Value) (fl : List Int) (w : World) (hv : Row .i64 w v fl) (hl : fl.length ≤ 4000000000000000000) (hn : n ≤ 1048576) :
    Calls Tryd.prog 70 #[.agg #[.int .i64 J, .slice A n cap], .int .i64 lo, .int .i64 hi, v] w fun e w' => e = .returned (.bool (flOk lo hi n fl)) ∧ Below w.heap.size w w' := by
  obtain ⟨F, fcap, rfl⟩ := hv.form
  have HB0 := Lib.hid (below_box w (.cells #[.int .i64 J, .slice A n cap] 43))
  have HV := Lib.hid (hv.below HB0.out)
  clear hv
  by_cases he : fl.length = n
  · have t0 : (fl.length : Int) = (n : Int) := by omega
    have HE := Lib.hid (show flOk lo hi n fl = allR lo hi fl by unfold flOk; rw [decide_eq_true he, Bool.true_and])
    clear he
    go_enter Tryd.func70, Tryd.ntmps70
    go_wp2_with (go_at_call 59; refine (within64_any _ _ _ fl _ HV.out hl).mono ?_; rintro e w' ⟨rfl, rfl⟩)
    go_ret
    exact ⟨ret_bool HE.out.symm, HB0.out⟩
  · have t0 : ¬ (fl.length : Int) = (n : Int) := by omega
    have HE := Lib.hid (show flOk lo hi n fl = false by unfold flOk; rw [decide_eq_false he, Bool.false_and])
    clear he
    go_enter Tryd.func70, Tryd.ntmps70
    go_wp2
    go_ret
    exact ⟨ret_bool HE.out.symm, HB0.out⟩
theorem row_ownI {w : World} {B : Nat} {v : Value} {xs : List Int} (h : OwnI w B v xs) : Row .i64 w v xs := by
  have h' := h
  unfold OwnI at h'
  rcases h.2 with ⟨rfl, h0⟩ | ⟨g, cap, cur, rfl, -⟩
  · exact .inl ⟨List.eq_nil_of_length_eq_zero h0, rfl⟩
  · exact Row.of_own h'
/-- What IsBalanced and ImbalanceAt return. -/
def ibR (J : Int) (xs : List Aw) (fl : List Int) : Bool := mineOk J xs && flOk (-100000) 100000 xs.length fl && balR J xs fl
def imOk (J : Int) (xs : List Aw) (fl : List Int) (j : Int) : Int := if mineOk J xs then (if inB j 0 (J - 1) then (if flOk (-100000) 100000 xs.length fl then 0 else 7) else 2) else 1
def imA (J : Int) (xs : List Aw) (fl : List Int) (j : Int) : Int := if imOk J xs fl j = 0 then exc xs fl j xs.length else 0
theorem ret_im {a b c d : Int} (h : a = c) (k : b = d) : Ending.returned (.tuple #[.int .i64 a, .int .i64 b]) = .returned (.tuple #[.int .i64 c, .int .i64 d]) := by rw [h, k]
theorem imb_form {w : World} {B : Nat} {u : Value} {xs : List Aw} {fl : List Int} {Jn jn : Nat} {n : Nat} (h : OwnI w B u (imbL xs fl ((Jn : Nat) : Int).toNat n)) (hx : jn < Jn) :
    ∃ g cap, u = .slice (some ⟨g, 0, none⟩) Jn cap ∧ w.cell? ⟨g, jn, none⟩ = some (.int .i64 (exc xs fl jn n)) := by
  have h' := h
  unfold OwnI at h'
  rw [imbL_len, Int.toNat_natCast] at h'
  rcases h'.2 with ⟨-, h0⟩ | ⟨g, cap, cur, rfl, -⟩
  · omega
  · refine ⟨g, cap, rfl, ?_⟩
    rw [World.ownsRow.cellAt h' jn (by omega), imb_at hx]
end Go.Proofs.YthbofhlfggkolaaDoor
