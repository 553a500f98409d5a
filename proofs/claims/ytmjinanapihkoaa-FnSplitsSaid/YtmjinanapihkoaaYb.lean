/-
  Contracts of chapter 8: resistances of airways side by side; the model's and the program's. Conditions: those that each theorem states.
-/
import Derived.Test.YtmjinanapihkoaaYa
namespace Go.Proofs.Ytmjinanapihkoaa
open Go.RowKit
set_option linter.unusedVariables false
set_option linter.unusedSimpArgs false

theorem parQ_of (s : Int) : divR 10000000000000000 (s * s) = parQ s := rfl
theorem sq_bd {s : Int} (h0 : 1 ≤ s) (h : s ≤ 2400000000) : 1 ≤ s * s ∧ s * s ≤ 5760000000000000000 := by
  have a := mul_bd s s 2400000000 2400000000 (by omega) h (by omega) h
  have b := Int.mul_le_mul h0 h0 (by omega) (by omega)
  omega
/-- The least of 1 and the quotient, with the model's words. -/
theorem l01DivW_any (b : Int) (w : World) (h1 : 1 ≤ b) (h2 : b ≤ 5760000000000000000) :
    Calls Try.prog 95 #[.int .i64 10000000000000000, .int .i64 b] w fun e w' => e = .returned (.int .i64 (divR 10000000000000000 b)) ∧ w = w' := by
  by_cases hs : b ≤ 2305843009213693952
  · exact l01Div_any _ _ _ (by omega) (by omega) (by omega) hs (by omega)
  · have HE := Lib.hid (parQ_wide b (by omega))
    go_enter Try.func95, Try.ntmps95
    by_cases hw : b ≤ 4611686018427387903
    · have e1 : (20000000000000000 + b) / (2 * b) = 0 := Int.ediv_eq_zero_of_lt (by omega) (by omega)
      go_wp2
      go_ret
      exact ⟨ret_int (by rw [HE.out]; try exact e1.symm), rfl⟩
    · have hw2 : wrap64 (2 * b) = -(18446744073709551616 - 2 * b) := by unfold wrap64; omega
      have hn : ¬ wrap64 (2 * b) = 0 := by omega
      have hq : (20000000000000000 + b).tdiv (wrap64 (2 * b)) = 0 := by
        rw [hw2, Int.tdiv_neg, Int.tdiv_eq_ediv_of_nonneg (by omega), Int.ediv_eq_zero_of_lt (by omega) (by omega)]; rfl
      have HQ := Lib.hid hq
      clear hw2 hq
      go_wp2
      go_ret
      exact ⟨ret_int (by rw [HE.out, HQ.out]; unfold wrap64; omega), rfl⟩
theorem l08Parallel_any (v : Value) (xs : List Int) (w : World) (hv : RowW .i64 w v xs) (hr : resL xs = true) :
    Calls Try.prog 183 #[v] w fun e w' => e = .returned (.int .i64 (parR xs)) ∧ w = w' := by
  obtain ⟨A, cap, rfl, _⟩ := id hv
  have HV := Lib.hid hv
  have HR := Lib.hid (resL_iff.1 hr)
  have HE := Lib.hid (show parR xs = if divR 10000000000000000 (condS xs * condS xs) < 1 then 1 else divR 10000000000000000 (condS xs * condS xs) from rfl)
  have hl24 := HR.out.1.2
  clear hv hr
  go_enter Try.func183, Try.ntmps183
  go_wp2
  go_loop [3, 4] (fun t i => ∃ k : Nat, k ≤ xs.length ∧ i = .int .i64 k ∧ t = .int .i64 (((condL xs).take k).sum)) (fun _ i => xs.length - (intOf i).toNat)
  case atStart => exact ⟨0, Nat.zero_le _, rfl, rfl⟩
  case round =>
    obtain ⟨k, hk, rfl, rfl⟩ := hrel
    by_cases hlt : k < xs.length
    · obtain ⟨b, off, rfl, -, hc⟩ := RowW.cell HV.out hlt
      rw [show xs.getD k 0 = xs[k] by simp [List.getD, hlt]] at hc
      obtain ⟨b1, b2⟩ := condS_bd HR.out.2 HR.out.1.2 k
      obtain ⟨b3, b4⟩ := HR.out.2 _ (mem_getD hlt)
      obtain ⟨b5, b6⟩ := condR_bd b3 b4
      have HS := Lib.hid (condS_snoc hlt)
      obtain ⟨s, hs⟩ : ∃ s, ((condL xs).take k).sum = s := ⟨_, rfl⟩
      rw [hs] at b1 b2 HS ⊢
      clear hs
      generalize xs[k] = z at *
      go_wp2_with (go_at_call 211; refine (l08Conductance_any _ _ b3 b4).mono ?_; rintro e w' ⟨rfl, rfl⟩)
      go_round
      case rel => exact ⟨k + 1, by omega, by go_num, by rw [HS.out]⟩
      case measure => simp [intOf]; omega
    · obtain rfl : k = xs.length := by omega
      rw [List.take_of_length_le (by rw [condL_len]; exact Nat.le_refl _)]
      have hp := condS_pos HR.out.2 HR.out.1.1
      have hu := (condS_all HR.out.2 HR.out.1.2).2
      rw [show (condL xs).sum = condS xs from rfl]
      obtain ⟨q1, q2⟩ := sq_bd (by omega) hu
      generalize condS xs = s at *
      by_cases hd : divR 10000000000000000 (s * s) < 1
      · have HF := Lib.hid (show parR xs = 1 by rw [HE.out, if_pos hd])
        go_wp2_with (first
          | (go_at_call 95; refine (l01DivW_any (s * s) _ q1 q2).mono ?_; rintro e w' ⟨rfl, rfl⟩)
          | (go_at_call 67; refine (l00Max_any _ _ _).mono ?_; rintro e w' ⟨rfl, rfl⟩))
        go_ret
        exact ⟨ret_int (by rw [HF.out]), rfl⟩
      · have HF := Lib.hid (show parR xs = divR 10000000000000000 (s * s) by rw [HE.out, if_neg hd])
        go_wp2_with (first
          | (go_at_call 95; refine (l01DivW_any (s * s) _ q1 q2).mono ?_; rintro e w' ⟨rfl, rfl⟩)
          | (go_at_call 67; refine (l00Max_any _ _ _).mono ?_; rintro e w' ⟨rfl, rfl⟩))
        go_ret
        exact ⟨ret_int (by rw [HF.out]), rfl⟩
/-- The conductances in a row of its own. -/
theorem conductances_any (v : Value) (xs : List Int) (w : World) (hv : RowW .i64 w v xs) (hr : ∀ y ∈ xs, 1 ≤ y ∧ y ≤ 1000000) (hl : xs.length ≤ 1048576) :
    Calls Try.prog 83 #[v] w fun e w' => e = .returned (.slice (some ⟨w.heap.size, 0, none⟩) xs.length xs.length) ∧ w'.ownsRow w.heap.size 2 1 (.slice (some ⟨w.heap.size, 0, none⟩) xs.length xs.length) xs.length (intsV (condL xs)) ∧ Below w.heap.size w w' := by
  obtain ⟨A, cap, rfl⟩ : ∃ A cap, v = .slice A xs.length cap := by
    obtain ⟨A, c, rfl, _⟩ := hv
    exact ⟨A, c, rfl⟩
  have hmk := run_make_row' (P := Try.prog) 24 2 (.int .i64 0) 8 Try.underlying24 info_i64 rfl .i64 .i64 xs.length (by omega) (by omega)
  have HV := Lib.hid hv
  have HR := Lib.hid hr
  have HL := Lib.hid (condL_len xs)
  clear hv hr
  go_enter Try.func83, Try.ntmps83
  go_wp2
  clear hmk
  go_loopw [11] (fun i wr => ∃ k : Nat, k ≤ xs.length ∧ i = .int .i64 k ∧ wr.ownsRow w.heap.size 2 1 (.slice (some ⟨w.heap.size, 0, none⟩) xs.length xs.length) xs.length (intsV ((condL xs).take k ++ List.replicate ((condL xs).length - k) 0)) ∧ Below w.heap.size w wr) (fun i wr => xs.length - (intOf i).toNat)
  case atStart =>
    refine ⟨0, by omega, rfl, ?_, (Below.refl _ _).alloc (Nat.le_refl _) _⟩
    have h := World.ownsRow_lit (base := w.heap.size) (e := 2) (size := 1) w (madeCells #[.int .i64 0] xs.length) xs.length (Nat.le_refl _) (by unfold maxLen; omega) (by simp [madeCells])
    have e : (madeCells #[.int .i64 0] xs.length).toList = intsV ((condL xs).take 0 ++ List.replicate ((condL xs).length - 0) 0) := by
      simp [madeCells, intsV, Nat.mod_one, List.map_const', condL_len]
    rw [e] at h
    exact h
  case round =>
    obtain ⟨k, hk, rfl, hown, hbel⟩ := hrel
    by_cases hlt : k < xs.length
    · obtain ⟨b, off, rfl, _, hc⟩ := RowW.cell (HV.out.below hbel) hlt
      rw [show xs.getD k 0 = xs[k] by simp [List.getD, hlt]] at hc
      have hlc : k < (condL xs).length := by rw [HL.out]; exact hlt
      have hfz := hown.frozenAt k
      have hcd : wr.cell? ⟨w.heap.size, k, none⟩ = some (.int .i64 0) := by
        rw [hown.cellAt k (by omega)]
        unfold intsV
        rw [List.getElem?_map, List.getElem?_append_right (by simp; omega), List.getElem?_replicate, if_pos (by simp; omega)]
        rfl
      obtain ⟨b3, b4⟩ := HR.out _ (mem_getD hlt)
      have HO := Lib.hid (And.intro (hown.stored k (.int .i64 (condR xs[k]))) (take_set hlc (condR xs[k]) (by simp [condL])))
      clear hown hlc
      go_wp2_with (go_at_call 152; refine (conductance_any _ _ b3 b4).mono ?_; rintro e w' ⟨rfl, rfl⟩)
      go_roundw
      case rel => exact ⟨k + 1, by omega, by go_num, by rw [← HO.out.2]; exact HO.out.1.1, hbel.setCell (by simp) _⟩
      case measure => simp [intOf]; omega
    · obtain rfl : k = xs.length := by omega
      go_wp2
      go_ret
      refine ⟨rfl, (by simpa [HL.out, List.take_of_length_le (Nat.le_of_eq HL.out)] using hown), hbel⟩
theorem iParallel_any (v : Value) (xs : List Int) (w : World) (hv : RowW .i64 w v xs) (hr : resL xs = true) :
    Calls Try.prog 63 #[v] w fun e w' => e = .returned (.int .i64 (parR xs)) ∧ Below w.heap.size w w' := by
  have HV := Lib.hid hv
  have HR := Lib.hid (resL_iff.1 hr)
  have hl24 := HR.out.1.2
  have HE := Lib.hid (show parR xs = if divR 10000000000000000 (condS xs * condS xs) < 1 then 1 else divR 10000000000000000 (condS xs * condS xs) from rfl)
  clear hv hr
  have hp := condS_pos HR.out.2 HR.out.1.1
  have hu := (condS_all HR.out.2 HR.out.1.2).2
  obtain ⟨q1, q2⟩ := sq_bd (by omega) hu
  have HS := Lib.hid (show (condL xs).sum = condS xs from rfl)
  have HC := Lib.hid (fun (w1 : World) (u : Value) (h : RowW .i64 w1 u (condL xs)) => sumOfC_any u (condL xs) w1 h (condL_bd' HR.out.2) (by rw [condL_len]; exact HR.out.1.2))
  rw [HS.out] at HC
  have HL := Lib.hid (condL_len xs)
  generalize hcs : condS xs = s at *
  go_enter Try.func63, Try.ntmps63
  by_cases hd : divR 10000000000000000 (s * s) < 1
  · have HF := Lib.hid (show parR xs = max 1 (divR 10000000000000000 (s * s)) by rw [HE.out, if_pos hd]; omega)
    go_wp2_with (first
      | (go_at_call 83; refine (conductances_any _ xs _ HV.out HR.out.2 (by omega)).mono ?_; rintro e w1 ⟨rfl, ho1, hb1⟩; have HO := Lib.hid (show OwnI w1 w.heap.size (.slice (some ⟨w.heap.size, 0, none⟩) xs.length xs.length) (condL xs) by unfold OwnI; rw [HL.out]; exact ho1); clear ho1)
      | (go_at_call 84; refine (HC.out _ _ (RowW.of_ownI HO.out)).mono ?_; rintro e w' ⟨rfl, rfl⟩)
      | (go_at_call 85; refine (nearest_any _ _ _ (by omega) (by omega) (by omega) (by omega)).mono ?_; rintro e w' ⟨rfl, n, rfl⟩))
    go_ret
    exact ⟨ret_int (by rw [HF.out]), below_drewN hb1 _⟩
  · have HF := Lib.hid (show parR xs = max 1 (divR 10000000000000000 (s * s)) by rw [HE.out, if_neg hd]; omega)
    go_wp2_with (first
      | (go_at_call 83; refine (conductances_any _ xs _ HV.out HR.out.2 (by omega)).mono ?_; rintro e w1 ⟨rfl, ho1, hb1⟩; have HO := Lib.hid (show OwnI w1 w.heap.size (.slice (some ⟨w.heap.size, 0, none⟩) xs.length xs.length) (condL xs) by unfold OwnI; rw [HL.out]; exact ho1); clear ho1)
      | (go_at_call 84; refine (HC.out _ _ (RowW.of_ownI HO.out)).mono ?_; rintro e w' ⟨rfl, rfl⟩)
      | (go_at_call 85; refine (nearest_any _ _ _ (by omega) (by omega) (by omega) (by omega)).mono ?_; rintro e w' ⟨rfl, n, rfl⟩))
    go_ret
    exact ⟨ret_int (by rw [HF.out]), below_drewN hb1 _⟩
/-- What ParallelResistance returns. -/
def parA (xs : List Int) : Int := if resL xs then parR xs else 0
def parB (xs : List Int) : Int := if resL xs then 0 else 2
def conA (r : Int) : Int := if inB r 1 1000000 then condR r else 0
def conB (r : Int) : Int := if inB r 1 1000000 then 0 else 2
/-- The size of a hole. -/
def oriR (r : Int) : Int := rootR (14161000000 / r)
def oriA (r : Int) : Int := if inB r 1 1000000 then oriR r else 0
theorem iParallelResistance_any (v : Value) (xs : List Int) (w : World) (hv : Row .i64 w v xs) (hl : xs.length ≤ 1048576) :
    Calls Try.prog 14 #[v] w fun e w' => e = .returned (.tuple #[.int .i64 (parA xs), .int .i64 (parB xs)]) ∧ Below w.heap.size w w' := by
  have HV := Lib.hid hv
  clear hv
  cases hd : resL xs
  · have HE := Lib.hid (show parA xs = 0 ∧ parB xs = 2 by simp [parA, parB, hd])
    go_enter Try.func14, Try.ntmps14
    go_wp2_with (go_at_call 62; refine (areSome_any _ xs _ HV.out (by omega)).mono ?_; rintro e w1 ⟨rfl, hb1⟩)
    go_ret2
    exact ⟨ret_ii HE.out.1.symm HE.out.2.symm, hb1⟩
  · have HE := Lib.hid (show parA xs = parR xs ∧ parB xs = 0 by simp [parA, parB, hd])
    go_enter Try.func14, Try.ntmps14
    go_wp2_with (first
        | (go_at_call 62; refine (areSome_any _ xs _ HV.out (by omega)).mono ?_; rintro e w1 ⟨rfl, hb1⟩)
        | (go_at_call 63; refine (iParallel_any _ xs _ (RowW.of_row (Row.below HV.out hb1)) hd).mono ?_; rintro e w2 ⟨rfl, hb2⟩))
    go_ret2
    exact ⟨ret_ii HE.out.1.symm HE.out.2.symm, hb1.trans (hb2.mono hb1.size)⟩
end Go.Proofs.Ytmjinanapihkoaa
