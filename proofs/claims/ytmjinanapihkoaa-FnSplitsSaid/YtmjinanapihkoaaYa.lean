/-
  Contracts of chapter 8: conductances, sums, resistances side by side; the model's and the program's. Conditions: those that each theorem states.
-/
import Derived.Test.YtmjinanapihkoaaKa
import Derived.Test.YtmjinanapihkoaaDa
import Derived.Test.YtmjinanapihkoaaBi
namespace Go.Proofs.Ytmjinanapihkoaa
open Go.RowKit
set_option linter.unusedVariables false
set_option linter.unusedSimpArgs false

theorem sumC_bd : ∀ xs : List Int, (∀ y ∈ xs, -100000000 ≤ y ∧ y ≤ 100000000) → -100000000 * (xs.length : Int) ≤ xs.sum ∧ xs.sum ≤ 100000000 * (xs.length : Int)
  | [], _ => by simp
  | x :: t, h => by
    have h1 := sumC_bd t (fun y hy => h y (List.mem_cons_of_mem _ hy))
    have h2 := h x List.mem_cons_self
    rw [List.sum_cons, List.length_cons]
    omega
theorem sumC_take {xs : List Int} (h : ∀ y ∈ xs, -100000000 ≤ y ∧ y ≤ 100000000) (hl : xs.length ≤ 24) (k : Nat) : -2400000000 ≤ (xs.take k).sum ∧ (xs.take k).sum ≤ 2400000000 := by
  have h1 := sumC_bd (xs.take k) (fun y hy => h y (List.mem_of_mem_take hy))
  have h2 : (xs.take k).length ≤ 24 := by rw [List.length_take]; omega
  omega
theorem sumC_all {xs : List Int} (h : ∀ y ∈ xs, -100000000 ≤ y ∧ y ≤ 100000000) (hl : xs.length ≤ 24) : -2400000000 ≤ xs.sum ∧ xs.sum ≤ 2400000000 := by
  have := sumC_take h hl xs.length
  rwa [List.take_length] at this
/-- The conductance of a resistance. -/
def condR (r : Int) : Int := rootR (10000000000000000 / r)
theorem quot_bd {r : Int} (h1 : 1 ≤ r) (h2 : r ≤ 1000000) : 10000000000 ≤ 10000000000000000 / r ∧ 10000000000000000 / r ≤ 10000000000000000 := by
  have a := Int.mul_ediv_add_emod 10000000000000000 r
  have b := Int.emod_lt_of_pos 10000000000000000 (show 0 < r by omega)
  have c := Int.emod_nonneg 10000000000000000 (show r ≠ 0 by omega)
  refine ⟨?_, (div_bd _ _ (by omega) (by omega)).2⟩
  exact Int.le_ediv_of_mul_le (by omega) (by omega)
theorem condR_bd {r : Int} (h1 : 1 ≤ r) (h2 : r ≤ 1000000) : 100000 ≤ condR r ∧ condR r ≤ 100000000 := by
  obtain ⟨a, b⟩ := quot_bd h1 h2
  unfold condR
  refine ⟨(le_rootR _ 100000 (by omega)).1 (by omega), ?_⟩
  apply Int.le_of_not_gt; intro hl
  have := (le_rootR (10000000000000000 / r) 100000001 (by omega)).2 (by omega)
  omega
def condL (xs : List Int) : List Int := xs.map condR
def condS (xs : List Int) : Int := (condL xs).sum
theorem condL_len (xs : List Int) : (condL xs).length = xs.length := by simp [condL]
theorem condL_bd {xs : List Int} (h : ∀ y ∈ xs, 1 ≤ y ∧ y ≤ 1000000) : ∀ y ∈ condL xs, 100000 ≤ y ∧ y ≤ 100000000 := by
  intro y hy
  obtain ⟨x, hx, rfl⟩ := List.mem_map.1 hy
  exact condR_bd (h x hx).1 (h x hx).2
theorem condL_bd' {xs : List Int} (h : ∀ y ∈ xs, 1 ≤ y ∧ y ≤ 1000000) : ∀ y ∈ condL xs, -100000000 ≤ y ∧ y ≤ 100000000 := fun y hy => by have := condL_bd h y hy; omega
theorem condL_take {xs : List Int} {k : Nat} (h : k < xs.length) : (condL xs).take (k + 1) = (condL xs).take k ++ [condR xs[k]] := by
  rw [List.take_succ_eq_append_getElem (by rw [condL_len]; exact h)]
  simp [condL]
theorem condS_snoc {xs : List Int} {k : Nat} (h : k < xs.length) : ((condL xs).take (k + 1)).sum = ((condL xs).take k).sum + condR xs[k] := by
  rw [condL_take h, List.sum_append]; simp
theorem condS_nonneg {xs : List Int} (h : ∀ y ∈ xs, 1 ≤ y ∧ y ≤ 1000000) (k : Nat) : 0 ≤ ((condL xs).take k).sum := by
  have : ∀ ys : List Int, (∀ y ∈ ys, 0 ≤ y) → 0 ≤ ys.sum := by
    intro ys
    induction ys with
    | nil => simp
    | cons a t ih => intro hh; have := ih (fun y hy => hh y (List.mem_cons_of_mem _ hy)); have := hh a List.mem_cons_self; simp; omega
  exact this _ (fun y hy => by have := condL_bd h y (List.mem_of_mem_take hy); omega)
theorem condS_bd {xs : List Int} (h : ∀ y ∈ xs, 1 ≤ y ∧ y ≤ 1000000) (hl : xs.length ≤ 24) (k : Nat) : 0 ≤ ((condL xs).take k).sum ∧ ((condL xs).take k).sum ≤ 2400000000 :=
  ⟨condS_nonneg h k, (sumC_take (condL_bd' h) (by rw [condL_len]; exact hl) k).2⟩
theorem condS_all {xs : List Int} (h : ∀ y ∈ xs, 1 ≤ y ∧ y ≤ 1000000) (hl : xs.length ≤ 24) : 0 ≤ condS xs ∧ condS xs ≤ 2400000000 := by
  have := condS_bd h hl (condL xs).length
  rwa [List.take_length] at this
theorem condS_pos {xs : List Int} (h : ∀ y ∈ xs, 1 ≤ y ∧ y ≤ 1000000) (hp : 1 ≤ xs.length) : 100000 ≤ condS xs := by
  cases xs with
  | nil => simp at hp
  | cons x t =>
    have h1 := condR_bd (h x List.mem_cons_self).1 (h x List.mem_cons_self).2
    have h2 := condS_nonneg (xs := t) (fun y hy => h y (List.mem_cons_of_mem _ hy)) (condL t).length
    rw [List.take_length] at h2
    unfold condS condL at *
    simp only [List.map_cons, List.sum_cons]
    omega
/-- A list of resistances: from one to as many as a mine has airways. -/
def resL (xs : List Int) : Bool := decide (1 ≤ xs.length) && decide (xs.length ≤ 24) && allR 1 1000000 xs
theorem resL_iff {xs : List Int} : resL xs = true ↔ (1 ≤ xs.length ∧ xs.length ≤ 24) ∧ ∀ y ∈ xs, 1 ≤ y ∧ y ≤ 1000000 := by
  simp [resL, allR_iff, and_assoc]
/-- The resistance of airways side by side. -/
def parQ (s : Int) : Int := divR 10000000000000000 (s * s)
def parR (xs : List Int) : Int := if parQ (condS xs) < 1 then 1 else parQ (condS xs)
theorem parQ_wide (b : Int) (h : 2305843009213693952 < b) : divR 10000000000000000 b = 0 := by
  rw [divR_pp _ _ (by omega) (by omega)]
  exact Int.ediv_eq_zero_of_lt (by omega) (by omega)

theorem l08Conductance_any (r : Int) (w : World) (h1 : 1 ≤ r) (h2 : r ≤ 1000000) :
    Calls Try.prog 211 #[.int .i64 r] w fun e w' => e = .returned (.int .i64 (condR r)) ∧ w = w' := by
  have HE := Lib.hid (show condR r = rootR (10000000000000000 / r) from rfl)
  obtain ⟨b1, b2⟩ := quot_bd h1 h2
  go_enter Try.func211, Try.ntmps211
  go_wp2_with (go_at_call 178; refine (l01Root_any _ _ ⟨by omega, by omega⟩).mono ?_; rintro e w' ⟨rfl, rfl⟩)
  go_ret
  exact ⟨ret_int HE.out.symm, rfl⟩
theorem conductance_any (r : Int) (w : World) (h1 : 1 ≤ r) (h2 : r ≤ 1000000) :
    Calls Try.prog 152 #[.int .i64 r] w fun e w' => e = .returned (.int .i64 (condR r)) ∧ w = w' := by
  have HE := Lib.hid (show condR r = rootR (10000000000000000 / r) from rfl)
  obtain ⟨b1, b2⟩ := quot_bd h1 h2
  go_enter Try.func152, Try.ntmps152
  go_wp2_with (go_at_call 195; refine (iRootOf_any _ _ ⟨by omega, by omega⟩).mono ?_; rintro e w' ⟨rfl, rfl⟩)
  go_ret
  exact ⟨ret_int HE.out.symm, rfl⟩
theorem sumOfC_any (v : Value) (xs : List Int) (w : World) (hv : RowW .i64 w v xs) (hr : ∀ y ∈ xs, -100000000 ≤ y ∧ y ≤ 100000000) (hl : xs.length ≤ 24) :
    Calls Try.prog 84 #[v] w fun e w' => e = .returned (.int .i64 xs.sum) ∧ w = w' := by
  obtain ⟨A, cap, rfl, _⟩ := id hv
  have HV := Lib.hid hv
  have HR := Lib.hid hr
  clear hv hr
  go_enter Try.func84, Try.ntmps84
  go_wp2
  go_loop [3, 8] (fun t i => ∃ k : Nat, k ≤ xs.length ∧ i = .int .i64 k ∧ t = .int .i64 ((xs.take k).sum)) (fun _ i => xs.length - (intOf i).toNat)
  case atStart => exact ⟨0, Nat.zero_le _, rfl, rfl⟩
  case round =>
    obtain ⟨k, hk, rfl, rfl⟩ := hrel
    by_cases hlt : k < xs.length
    · obtain ⟨b, off, rfl, -, hc⟩ := RowW.cell HV.out hlt
      rw [show xs.getD k 0 = xs[k] by simp [List.getD, hlt]] at hc
      have hb1 := sumC_take HR.out hl k
      have hb2 := HR.out _ (mem_getD hlt)
      have HS := Lib.hid (sum_snoc hlt)
      obtain ⟨b1, b2⟩ := hb1
      obtain ⟨b3, b4⟩ := hb2
      obtain ⟨s, hs⟩ : ∃ s, (xs.take k).sum = s := ⟨_, rfl⟩
      rw [hs] at b1 b2 HS ⊢
      clear hs
      generalize xs[k] = z at *
      go_wp2
      go_round
      case rel => exact ⟨k + 1, by omega, by go_num, by rw [HS.out]⟩
      case measure => simp [intOf]; omega
    · obtain rfl : k = xs.length := by omega
      rw [List.take_length]
      go_wp2
      go_ret
      exact ⟨rfl, rfl⟩
theorem l08List_any (v : Value) (xs : List Int) (w : World) (hv : RowW .i64 w v xs) (hl : xs.length ≤ 4000000000000000000) :
    Calls Try.prog 131 #[v] w fun e w' => e = .returned (.bool (resL xs)) ∧ w = w' := by
  obtain ⟨A, cap, rfl, _⟩ := id hv
  have HV := Lib.hid hv
  clear hv
  go_enter Try.func131, Try.ntmps131
  go_wp2
  go_loop [3] (fun i => ∃ k : Nat, k ≤ xs.length ∧ Hid (∀ j (h : j < xs.length), j < k → 1 ≤ xs[j] ∧ xs[j] ≤ 1000000) ∧ i = .int .i64 k) (fun i => xs.length - (intOf i).toNat)
  case atStart => exact ⟨0, by omega, Lib.hid (fun j _ h => absurd h (by omega)), rfl⟩
  case round =>
    obtain ⟨k, hk, HA, rfl⟩ := hrel
    by_cases hlt : k < xs.length
    · obtain ⟨b, off, rfl, _, hc⟩ := RowW.cell HV.out hlt
      rw [show xs.getD k 0 = xs[k] by simp [List.getD, hlt]] at hc
      by_cases hin : 1 ≤ xs[k] ∧ xs[k] ≤ 1000000
      · have hi := inB_true hin.1 hin.2
        have HR := Lib.hid hin
        clear hin
        go_wp2_with (go_at_call 157; refine (l03Res_any _ _).mono ?_; rintro e w' ⟨rfl, rfl⟩)
        go_round
        case rel => exact ⟨k + 1, by omega, Lib.hid (fun j h hj => by
          rcases Nat.lt_or_ge j k with q | q
          · exact HA.out j h q
          · obtain rfl : j = k := by omega
            exact HR.out), by go_num⟩
        case measure => simp [intOf]; omega
      · have hi := inB_false hin
        have HR := Lib.hid (show resL xs = false by
          rw [← Bool.not_eq_true, resL_iff]
          exact fun hh => hin (hh.2 _ (List.getElem_mem hlt)))
        clear hin
        go_wp2_with (go_at_call 157; refine (l03Res_any _ _).mono ?_; rintro e w' ⟨rfl, rfl⟩)
        go_ret
        exact ⟨ret_bool HR.out.symm, rfl⟩
    · obtain rfl : k = xs.length := by omega
      have HR := Lib.hid (show resL xs = (decide (1 ≤ xs.length) && decide (xs.length ≤ 24)) by
        unfold resL
        rw [allR_iff.2 (fun y hy => by obtain ⟨j, h, rfl⟩ := List.mem_iff_getElem.1 hy; exact HA.out j h h), Bool.and_true])
      by_cases h1 : 1 ≤ xs.length
      · by_cases h24 : xs.length ≤ 24
        · have t0 : (1 : Int) ≤ (xs.length : Int) := by omega
          have t1 : (xs.length : Int) ≤ 24 := by omega
          go_wp2
          go_ret
          exact ⟨ret_bool (by rw [HR.out, decide_eq_true h1, decide_eq_true h24]; rfl), rfl⟩
        · have t0 : (1 : Int) ≤ (xs.length : Int) := by omega
          have t1 : ¬ (xs.length : Int) ≤ 24 := by omega
          have t2 : decide ((xs.length : Int) ≤ 24) = false := decide_eq_false t1
          go_wp2
          go_ret
          exact ⟨ret_bool (by rw [HR.out, decide_eq_false h24, Bool.and_false]), rfl⟩
      · have t0 : ¬ (1 : Int) ≤ (xs.length : Int) := by omega
        have t2 : decide ((1 : Int) ≤ (xs.length : Int)) = false := decide_eq_false t0
        go_wp2
        go_ret
        exact ⟨ret_bool (by rw [HR.out, decide_eq_false h1, Bool.false_and]), rfl⟩
theorem resL_two (xs : List Int) : resL xs = (inB (xs.length : Int) 1 24 && allR 1 1000000 xs) := by
  unfold resL
  congr 1
  rw [Bool.eq_iff_iff, inB_iff, Bool.and_eq_true, decide_eq_true_eq, decide_eq_true_eq]
  omega
theorem areSome_any (v : Value) (xs : List Int) (w : World) (hv : Row .i64 w v xs) (hl : xs.length ≤ 4000000000000000000) :
    Calls Try.prog 62 #[v] w fun e w' => e = .returned (.bool (resL xs)) ∧ Below w.heap.size w w' := by
  obtain ⟨A, cap, rfl⟩ := hv.form
  have HE := Lib.hid (resL_two xs)
  have HV2 := Lib.hid (hv.below ((Below.refl _ _).alloc (Nat.le_refl _) (.cells #[.int .i64 (xs.length : Int)] 3)))
  clear hv
  cases hin : inB (xs.length : Int) 1 24
  · go_enter Try.func62, Try.ntmps62
    go_wp2_with (go_at_call 141; refine (withinN_one _ _ _ _ _ _ (by simp)).mono ?_; rintro e w' ⟨rfl, rfl⟩)
    go_ret
    exact ⟨ret_bool (by rw [HE.out, hin, Bool.false_and]), below_one _ _⟩
  · go_enter Try.func62, Try.ntmps62
    go_wp2_with (first
      | (go_at_call 141; refine (withinN_one _ _ _ _ _ _ (by simp)).mono ?_; rintro e w' ⟨rfl, rfl⟩)
      | (go_at_call 121; refine (within64_any _ _ _ xs _ HV2.out hl).mono ?_; rintro e w' ⟨rfl, rfl⟩))
    go_ret
    exact ⟨ret_bool (by rw [HE.out, hin, Bool.true_and]), below_one _ _⟩
/-- What SeriesResistance returns. -/
def serA (xs : List Int) : Int := if resL xs then (if xs.sum ≤ 1000000 then xs.sum else 0) else 0
def serB (xs : List Int) : Int := if resL xs then (if xs.sum ≤ 1000000 then 0 else 6) else 2
theorem resL_bdS {xs : List Int} (h : resL xs = true) : (∀ y ∈ xs, -100000000 ≤ y ∧ y ≤ 100000000) ∧ xs.length ≤ 24 :=
  ⟨fun y hy => by have := (resL_iff.1 h).2 y hy; omega, (resL_iff.1 h).1.2⟩
end Go.Proofs.Ytmjinanapihkoaa
